/- The contract of field.Order. -/
import Derived.Test.YtpfecpcgdfbekaaFdC
set_option linter.unusedVariables false
set_option linter.unusedSimpArgs false
namespace Go.Proofs.Ytpfecpcgdfbekaa
open Go.RowKit

theorem info_int : (Try.prog.info? 3).map (fun i => (i.zero, i.size, i.bytes)) = some (some (.int .i64 0), 1, 8) := by kernel_rfl
theorem elI : ElT Try.prog 23 3 8 := by
  obtain ⟨i, h1, h2, h3, h4⟩ := info_parts info_int
  exact ⟨Try.underlying23, i, _, h1, h2, h3, h4, rfl⟩
theorem elZ : ∀ i, Try.prog.info? 3 = some i → i.zero = some (nv 0) := by
  obtain ⟨i, h1, h2, h3, h4⟩ := info_parts info_int
  intro j hj
  rw [h1] at hj; cases hj; exact h2
/-- what is read of numbers that came in, behind other blocks -/
theorem rd_oth {w w' : World} {A : Option Addr} {vs : List Int} {b : Nat} (h : Rd iv w A vs) (ho : Oth b w w') (hb : w.heap.size ≤ b) : Rd iv w' A vs := fun hn => by
  obtain ⟨g, off, e, hg, hc⟩ := h hn
  refine ⟨g, off, e, Nat.lt_of_lt_of_le hg ho.size, fun j hj => ?_⟩
  rw [← hc j hj]
  unfold World.cell?
  simp only
  rw [ho.block g hg (by omega)]
theorem fill_set (i m : Nat) : ((List.range i ++ List.replicate (m + 1) 0)).set i i = List.range (i + 1) ++ List.replicate m 0 := by
  rw [List.set_append]
  simp [List.range_succ, List.replicate_succ]
set_option maxRecDepth 100000 in
theorem ssort_any (w : World) (B gr n c gb : Nat) (T : TypeId) (v : Nat → Int) (hn9 : n ≤ 20)
    (hB : Blk w B gr (((List.range n).map nv).toArray) T)
    (hL : ∀ wr, Oth gr w wr → ∀ i j, i < n → j < n → Calls Try.prog 15 #[.int .i64 (i : Int), .int .i64 (j : Int), .pointer (some ⟨gb, 0, none⟩)] wr fun e w' => e = .returned (.int .i64 (cmpZ (v i) (v j))) ∧ ∃ q, w' = wr.drewN q) :
    Calls Try.prog 14 #[.slice (some ⟨gr, 0, none⟩) n c, .func (.func 15) #[] #[.pointer (some ⟨gb, 0, none⟩)]] w fun e w' => e = .returned (.tuple #[]) ∧ ∃ o, Ord v n o ∧ Blk w' B gr ((o.map nv).toArray) T ∧ Oth gr w w' := by
  have HC := Lib.hid (stable_any w B gr n c gb T v hn9 hB hL)
  clear hB hL
  go_enter Try.func14, Try.ntmps14
  go_wp2_with fail
  refine HC.out.mono ?_; rintro e w' ⟨rfl, HO⟩
  have HO := Lib.hid HO
  go_wp2_with fail
  go_end0
  exact ⟨rfl, HO.out⟩
/-- what Order hands back: the places, sorted, in a block of its own -/
def OrdR (vs : List Int) (w : World) (e : Ending) (w' : World) : Prop := ∃ gr o, e = .returned (.slice (some ⟨gr, 0, none⟩) vs.length vs.length) ∧ Ord (fun i => vs.getD i 0) vs.length o ∧ Blk w' w.heap.size gr ((o.map nv).toArray) 3 ∧ Nx w w'
set_option maxRecDepth 100000 in
set_option maxHeartbeats 3200000 in
theorem Order_any (w : World) (A : Option Addr) (c : Nat) (vs : List Int) (hr : Rd iv w A vs) (hn : vs.length ≤ 20) (hc1 : vs.length ≤ c) (hc2 : c ≤ maxLen) :
    Calls Try.prog 11 #[.slice A vs.length c] w fun e w' => OrdR vs w e w' := by
  obtain ⟨n, hN⟩ : ∃ n, vs.length = n := ⟨_, rfl⟩
  unfold OrdR
  rw [hN] at hn hc1 ⊢
  have HN := Lib.hid hN
  have HR := Lib.hid hr
  have hni : (n : Int) ≤ 20 := by omega
  have hn8 : 8 * n ≤ 281474976710656 := by omega
  have hn9 : n ≤ 281474976710656 := by omega
  have HN2 := Lib.hid hn
  clear hr hN hn hc1 hc2
  obtain ⟨gb, hgb⟩ : ∃ g, w.heap.size = g := ⟨_, rfl⟩
  obtain ⟨w1, hw1⟩ : ∃ w1, w.alloc (.cells #[.slice A n c] 23) = w1 := ⟨_, rfl⟩
  have HB1 : Hid (Blk w1 gb gb #[.slice A n c] 23) := by unfold Hid; rw [← hw1, ← hgb]; exact Blk.new w _ _
  have HX1 : Hid (Nx w w1) := by unfold Hid; rw [← hw1]; exact nx0 w _
  have HGB := Lib.hid hgb
  have b0 : w1.cell? ⟨gb, 0, none⟩ = some (.slice A n c) := HB1.out.cell 0
  go_enter Try.func11, Try.ntmps11
  go_wp2_with (refine wpList_mkn _ elI elZ rfl _ _ rfl .i64 .i64 n rfl rfl hn8 hn9 ?_; intro gr w2 HB2 HX2)
  go_loopw [10] (fun x wr => ∃ i : Nat, x = .int .i64 (i : Int) ∧ i ≤ n ∧ Hid (Blk wr w1.heap.size gr (((List.range i ++ List.replicate (n - i) 0).map nv).toArray) 3) ∧ Hid (Nx w1 wr)) (fun x _ => (n - intOf x).toNat)
  case atStart => exact ⟨0, rfl, Nat.zero_le _, by simpa using HB2, HX2⟩
  case round =>
    obtain ⟨i, rfl, hi, HB, HX⟩ := hrel
    by_cases hlt : i < n
    · have q1 : decide ((i : Int) < (n : Int)) = true := decide_eq_true (by omega)
      have q2 : (i : Int) < (n : Int) := by omega
      have q3 : (0 : Int) ≤ (i : Int) := by omega
      have HLT := Lib.hid hlt
      have fi := HB.out.free i
      have ci : ∃ x, wr.cell? ⟨gr, i, none⟩ = some x := by
        rw [HB.out.cell i]
        exact ⟨_, Array.getElem?_eq_getElem (by simp; omega)⟩
      obtain ⟨x0, ci⟩ := ci
      clear hlt
      go_wp2_with fail
      go_roundw
      case rel =>
        refine ⟨i + 1, by go_num, HLT.out, ?_, HX.out.put' HB.out.1 _ _⟩
        have h := HB.out.put i (nv i)
        rw [set_map, show n - i = (n - (i + 1)) + 1 by have := HLT.out; omega, fill_set] at h
        exact h
      case measure => have := HLT.out; simp [intOf]; omega
    · have q1 : decide ((i : Int) < (n : Int)) = false := decide_eq_false (by omega)
      have q2 : ¬ (i : Int) < (n : Int) := by omega
      obtain rfl : i = n := by omega
      have hk : Blk wr w1.heap.size gr (((List.range i).map nv).toArray) 3 := by
        have := HB.out
        rw [Nat.sub_self, List.replicate_zero, List.append_nil] at this
        exact this
      have hL : ∀ wq, Oth gr wr wq → ∀ x y, x < i → y < i → Calls Try.prog 15 #[.int .i64 (x : Int), .int .i64 (y : Int), .pointer (some ⟨gb, 0, none⟩)] wq fun e w' => e = .returned (.int .i64 (cmpZ (vs.getD x 0) (vs.getD y 0))) ∧ ∃ q, w' = wq.drewN q := fun wq ho x y hx hy => by
        have ho1 : Oth gr w1 wq := ho.mono HX.out
        refine less_any wq gb A i c vs HN.out ?_ (rd_oth (HR.out.below HX1.out) ho1 hk.1) (by have := HN2.out; omega) x y hx hy
        have := (ho1.blk HB1.out (by have := HB1.out.lt; have := hk.1; omega)).cell 0
        exact this
      have HS := Lib.hid (ssort_any wr w1.heap.size gr i i gb _ (fun k => vs.getD k 0) HN2.out hk hL)
      clear hL hk hlt
      go_wp2_with fail
      refine HS.out.mono ?_; rintro e w' ⟨rfl, o, ho1, ho2, ho3⟩
      have H1 := Lib.hid ho1
      have H2 := Lib.hid ho2
      have H3 := Lib.hid ho3
      clear ho1 ho2 ho3 HS
      go_wp2_with fail
      go_ret
      exact ⟨gr, o, rfl, H1.out, H2.out.less HX1.out.size, HX1.out.trans (H3.out.to HX.out HB.out.1)⟩
end Go.Proofs.Ytpfecpcgdfbekaa
