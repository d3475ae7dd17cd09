/- The insertion sort of places, by any comparison that makes only what is new. -/
import Derived.Test.YtjeadmndnbggmaaOrA
import Derived.Test.YtjeadmndnbggmaaFdP
import Derived.Test.YtjeadmndnbggmaaHyb
import Derived.BigRegion
import Derived.Deep.DeepCutAuto
set_option linter.unusedVariables false
set_option linter.unusedSimpArgs false
namespace Go.Proofs.Ytjeadmndnbggmaa
open Go.RowKit

def nw (k : Nat) : Value := .int .i64 (k : Int)
theorem set_twoN {α : Type} (x y u v : α) (r : List α) : ∀ a : List α, ((a ++ x :: y :: r).set (a.length + 1) v).set a.length u = a ++ u :: v :: r
  | [] => rfl
  | z :: a => by
    have h := set_twoN x y u v r a
    show z :: ((a ++ x :: y :: r).set (a.length + 1) v).set a.length u = z :: (a ++ u :: v :: r)
    rw [h]
theorem set_mapN {α : Type} (f : α → Value) (l : List α) (k : Nat) (x : α) : ((l.map f).toArray).setIfInBounds k (f x) = ((l.set k x).map f).toArray := by
  apply Array.toList_inj.1
  rw [Array.toList_setIfInBounds, List.map_set]
theorem swap_nw {w : World} {B g : Nat} {T : TypeId} {a r : List Nat} {x y : Nat} (h : Blk w B g (((a ++ x :: y :: r).map nw).toArray) T) :
    Blk ((w.setCell ⟨g, a.length + 1, none⟩ (nw x)).setCell ⟨g, a.length, none⟩ (nw y)) B g (((a ++ y :: x :: r).map nw).toArray) T := by
  have := (h.put (a.length + 1) (nw x)).put a.length (nw y)
  rw [set_mapN, set_mapN, set_twoN] at this
  exact this
/-- a comparison of places, by numbers -/
def CmpN (F : Nat) (gb gr n : Nat) (v : Nat → Int) (w : World) : Prop := ∀ wr, Oth gr w wr → ∀ i j, i < n → j < n → Calls Try.prog F #[.int .i64 (i : Int), .int .i64 (j : Int), .pointer (some ⟨gb, 0, none⟩)] wr fun e w' => e = .returned (.int .i64 (cmpI (v i) (v j))) ∧ Nx wr w'
theorem insn_none (w : World) (A : Option Addr) (n c : Nat) (a b : Nat) (fv : Value) (hab : b ≤ a + 1) (hb : b ≤ 100000) (ha : a ≤ 100000) :
    Calls Try.prog 39 #[.slice A n c, .int .i64 (a : Int), .int .i64 (b : Int), fv] w fun e w' => e = .returned (.tuple #[]) ∧ w' = w := by
  obtain ⟨k, hk⟩ : ∃ k : Nat, (a : Int) + 1 = (k : Int) := ⟨a + 1, by omega⟩
  have q1 : decide ((k : Int) < (b : Int)) = false := decide_eq_false (by omega)
  have q2 : ¬ (k : Int) < (b : Int) := by omega
  have q3 : ¬ k < b := by omega
  go_enter Try.func39, Try.ntmps39
  go_wp2_with fail
  go_loopw [8] (fun v wr => v = .int .i64 (k : Int) ∧ wr = w) (fun v _ => 0)
  case atStart => exact ⟨rfl, rfl⟩
  case round =>
    obtain ⟨rfl, rfl⟩ := hrel
    go_wp2_with fail
    go_end0
    exact ⟨rfl, rfl⟩
set_option maxRecDepth 100000 in
set_option maxHeartbeats 6400000 in
theorem insn_any (F : Nat) (w : World) (B gr n c gb : Nat) (T : TypeId) (v : Nat → Int) (hn1 : 1 ≤ n) (hn9 : n ≤ 100)
    (hB : Blk w B gr (((List.range n).map nw).toArray) T) (hL : CmpN F gb gr n v w) (hF : ∀ (us : Array Value) (w : World), (callFunc F us).run Try.prog w = .ok (.enter F us) w) :
    Calls Try.prog 39 #[.slice (some ⟨gr, 0, none⟩) n c, .int .i64 0, .int .i64 (n : Int), .func (.func F) #[] #[.pointer (some ⟨gb, 0, none⟩)]] w fun e w' => e = .returned (.tuple #[]) ∧ ∃ o, Ord v n o ∧ Blk w' B gr ((o.map nw).toArray) T ∧ Oth gr w w' := by
  have HB := Lib.hid hB
  have HL := Lib.hid hL
  have hn1i : (1 : Int) ≤ (n : Int) := by omega
  clear hB hL
  go_enter Try.func39, Try.ntmps39
  go_wp2_with fail
  go_loopw [8] (fun x wr => ∃ (i : Nat) (p : List Nat), x = .int .i64 (i : Int) ∧ 1 ≤ i ∧ i ≤ n ∧ Hid (Ord v i p) ∧ Hid (Blk wr B gr (((p ++ List.range' i (n - i)).map nw).toArray) T) ∧ Hid (Oth gr w wr)) (fun x _ => (n - intOf x).toNat)
  case atStart => exact ⟨1, [0], rfl, Nat.le_refl _, hn1, ⟨List.Perm.refl _, List.pairwise_singleton _ _⟩, by
      unfold Hid
      have : List.range n = [0] ++ List.range' 1 (n - 1) := by
        obtain ⟨m, rfl⟩ : ∃ m, n = m + 1 := ⟨n - 1, by omega⟩
        rw [List.range_eq_range', List.range'_succ]; rfl
      rw [← this]; exact HB.out, Oth.refl _ _⟩
  case round =>
    obtain ⟨i, p, rfl, h1, hi, HO, HK, HT⟩ := hrel
    by_cases hlt : i < n
    · have q1 : decide ((i : Int) < (n : Int)) = true := decide_eq_true (by omega)
      have q2 : (i : Int) < (n : Int) := by omega
      have HLT := Lib.hid hlt
      go_wp2_with fail
      go_loopw [9] (fun x wr => ∃ (j : Nat) (a b : List Nat), x = .int .i64 (j : Int) ∧ j ≤ i ∧ Hid (a.length = j ∧ a ++ b = p ∧ ∀ x ∈ b, v i < v x) ∧ Hid (Blk wr B gr (((a ++ i :: (b ++ List.range' (i + 1) (n - (i + 1)))).map nw).toArray) T) ∧ Hid (Oth gr w wr)) (fun x _ => (intOf x).toNat)
      case atStart =>
        refine ⟨i, p, [], rfl, Nat.le_refl _, ⟨HO.out.len, by simp, fun _ h => by cases h⟩, ?_, HT⟩
        have : List.range' i (n - i) = i :: List.range' (i + 1) (n - (i + 1)) := by
          obtain ⟨m, hm⟩ : ∃ m, n - i = m + 1 := ⟨n - i - 1, by omega⟩
          rw [hm, List.range'_succ, show n - (i + 1) = m by omega]
        have hk := HK.out
        rw [this] at hk
        exact hk
      case round =>
        obtain ⟨j, a, b, rfl, hj, HA, HK2, HT2⟩ := hrel
        by_cases hj0 : 0 < j
        · obtain ⟨ha1, ha2, ha3⟩ := HA.out
          obtain ⟨a', y, rfl⟩ : ∃ a' y, a = a' ++ [y] := ⟨a.dropLast, a.getLast (by intro e; rw [e] at ha1; simp at ha1; omega), (List.dropLast_concat_getLast _).symm⟩
          obtain ⟨jp, hjp⟩ : ∃ jp : Nat, jp + 1 = j := ⟨j - 1, by omega⟩
          have hjpi : (j : Int) - 1 = (jp : Int) := by omega
          have hal : a'.length = jp := by simp at ha1; omega
          have hyp : y ∈ p := by rw [← ha2]; simp
          have hyi : y < i := HO.out.mem.1 hyp
          have hk2 : Blk wr B gr (((a' ++ y :: i :: (b ++ List.range' (i + 1) (n - (i + 1)))).map nw).toArray) T := by
            have := HK2.out
            rw [List.append_assoc] at this
            exact this
          have HK3 := Lib.hid hk2
          have HFC : Hid (∀ wx, Blk wx B gr (((a' ++ y :: i :: (b ++ List.range' (i + 1) (n - (i + 1)))).map nw).toArray) T → wx.cell? ⟨gr, jp, none⟩ = some (.int .i64 (y : Int)) ∧ wx.cell? ⟨gr, j, none⟩ = some (.int .i64 (i : Int))) := fun wx hb =>
            ⟨by rw [hb.cell jp, ← hal]; simp [nw], by rw [hb.cell j, ← hjp, ← hal]; simp [nw]⟩
          have Lp : ∀ x : Gr wr, x.1.cell? ⟨gr, jp, none⟩ = some (.int .i64 (y : Int)) := fun x => (HFC.out x.1 (HK3.out.below x.2)).1
          have Lj : ∀ x : Gr wr, x.1.cell? ⟨gr, j, none⟩ = some (.int .i64 (i : Int)) := fun x => (HFC.out x.1 (HK3.out.below x.2)).2
          have q3 : decide ((0 : Int) < (j : Int)) = true := decide_eq_true (by omega)
          have q4 : (0 : Int) < (j : Int) := by omega
          have j1 : (j : Int) < (n : Int) := by omega
          have j0 : (0 : Int) ≤ (j : Int) := by omega
          have jp1 : (jp : Int) < (n : Int) := by omega
          have jp0 : (0 : Int) ≤ (jp : Int) := by omega
          have hwj : IntKind.i64.wrap (jp : Int) = (jp : Int) := by rw [IntKind.wrap_i64]; omega
          have HCC : Hid (∀ wx, Nx wr wx → Calls Try.prog F #[.int .i64 (i : Int), .int .i64 (y : Int), .pointer (some ⟨gb, 0, none⟩)] wx fun e w' => e = .returned (.int .i64 (cmpI (v i) (v y))) ∧ Nx wx w') := fun wx hx =>
            HL.out wx (HT2.out.trans (Oth.nx hx)) i y HLT.out (by omega)
          have HAL := Lib.hid hal
          have HJP := Lib.hid hjp
          have HA2 : Hid (a' ++ y :: b = p ∧ ∀ x ∈ b, v i < v x) := ⟨by rw [← ha2]; simp, ha3⟩
          have HYI := Lib.hid hyi
          have HJ := Lib.hid hj
          have q5 : decide (0 < j) = true := decide_eq_true hj0
          have q6 : 0 < j := hj0
          clear ha1 ha2 ha3 hk2 hal hyp hyi HA hjp hj0
          go_upto_region 4 with (fail)
          refine wp_region_hyb [(0, true), (1, true), (2, true), (3, true), (4, true), (5, true), (6, true), (7, true), (8, true), (9, true), (10, true), (11, true), (12, true), (13, true), (14, false), (15, true), (16, true)] (by kernel_rfl) (by kernel_rfl) ?_
          iterate 14 (refine hyb_calm rfl (fun K hK => ?_); go_simp; refine hK _ ?_; clear hK K)
          clear Lp Lj
          refine hyb_alone rfl (fun w2 hn2 K hK => ?_)
          go_simp
          refine (HCC.out w2 hn2).mono ?_; rintro e w3 ⟨rfl, hn3⟩
          refine hK _ _ hn3 ?_
          clear hK K
          by_cases hv : v i < v y
          · have hcz : cmpI (v i) (v y) = -1 := by unfold cmpI; rw [if_pos hv]
            rw [hcz]
            have HV := Lib.hid hv
            clear hv hcz
            iterate 2 (refine hyb_calm rfl (fun K hK => ?_); go_simp; refine hK _ ?_; clear hK K)
            refine hyb_nil (fun w4 hn4 => ?_)
            have hk4 := HK3.out.below (hn2.trans (hn3.trans hn4))
            have HO4 := Lib.hid (HT2.out.trans (Oth.nx (hn2.trans (hn3.trans hn4))))
            have HK4 := Lib.hid hk4
            have cp := (HFC.out w4 hk4).1
            have cj := (HFC.out w4 hk4).2
            have fp := hk4.free jp
            have fj := hk4.free j
            have hk5 : Blk ((w4.setCell ⟨gr, j, none⟩ (.int .i64 (y : Int))).setCell ⟨gr, jp, none⟩ (.int .i64 (i : Int))) B gr (((a' ++ i :: y :: (b ++ List.range' (i + 1) (n - (i + 1)))).map nw).toArray) T := by
              have := swap_nw hk4
              rw [HAL.out, HJP.out] at this
              exact this
            have HO5 : Hid (Oth gr w ((w4.setCell ⟨gr, j, none⟩ (.int .i64 (y : Int))).setCell ⟨gr, jp, none⟩ (.int .i64 (i : Int)))) := HO4.out.own.own
            have HK5 := Lib.hid hk5
            clear hn2 hn3 hn4 hk4 HT2 HK2 HK3 hk5
            go_wp2_with fail
            go_region
            clear cp cj fp fj HK4 HO4
            go_wp2_with fail
            go_roundw
            case rel =>
              refine ⟨jp, a', y :: b, by go_num, by have := HJ.out; have := HJP.out; omega, ⟨HAL.out, HA2.out.1, fun x hx => ?_⟩, HK5.out.drew 1, HO5.out.trans ⟨rfl, rfl, rfl, Nat.le_refl _, fun _ _ _ => rfl⟩⟩
              rcases List.mem_cons.1 hx with rfl | hx
              · exact HV.out
              · exact HA2.out.2 x hx
            case measure => have := HJP.out; simp [intOf]; omega
          · have hcz : ¬ cmpI (v i) (v y) < 0 := by unfold cmpI; rw [if_neg hv]; split <;> omega
            have hcd : decide (cmpI (v i) (v y) < 0) = false := decide_eq_false hcz
            have HV := Lib.hid hv
            obtain ⟨CZ, hCZ⟩ : ∃ z, cmpI (v i) (v y) = z := ⟨_, rfl⟩
            rw [hCZ] at hcz hcd ⊢
            clear hv hCZ
            iterate 2 (refine hyb_calm rfl (fun K hK => ?_); go_simp; refine hK _ ?_; clear hK K)
            refine hyb_nil (fun w4 hn4 => ?_)
            have HO4 := Lib.hid (HT2.out.trans (Oth.nx (hn2.trans (hn3.trans hn4))))
            have HK4 := Lib.hid (HK3.out.below (hn2.trans (hn3.trans hn4)))
            clear hn2 hn3 hn4 HT2 HK2 HK3
            go_wp2_with fail
            go_roundw
            case rel =>
              refine ⟨i + 1, a' ++ y :: i :: b, by go_num, by omega, HLT.out, ?_, ?_, HO4.out⟩
              · have h := HO.out
                rw [← HA2.out.1, show a' ++ y :: b = (a' ++ [y]) ++ b by simp] at h
                have h2 := h.ins (h.last (by have := HV.out; omega)) HA2.out.2
                unfold Hid
                simpa using h2
              · have := HK4.out
                unfold Hid
                simpa using this
            case measure => have := HLT.out; simp [intOf]; omega
        · have q3 : decide ((0 : Int) < (j : Int)) = false := decide_eq_false (by omega)
          have q4 : ¬ (0 : Int) < (j : Int) := by omega
          have q5 : decide (0 < j) = false := decide_eq_false hj0
          have HJ0 : Hid (a = []) := by
            have := HA.out.1
            unfold Hid
            exact List.eq_nil_of_length_eq_zero (by omega)
          go_wp2_with fail
          go_quiet (fail)
          have hk4 : Blk (wr.drewN nq) B gr (((a ++ i :: (b ++ List.range' (i + 1) (n - (i + 1)))).map nw).toArray) T := HK2.out.drew nq
          have ho4 : Oth gr w (wr.drewN nq) := ⟨HT2.out.os, HT2.out.tape, HT2.out.output, HT2.out.size, HT2.out.block⟩
          have HK4 := Lib.hid hk4
          have HO4 := Lib.hid ho4
          clear hk4 ho4 HT2 HK2
          generalize wr.drewN nq = w2 at *
          go_wp2_with fail
          go_roundw
          case rel =>
            refine ⟨i + 1, a ++ i :: b, by go_num, by omega, HLT.out, ?_, ?_, HO4.out⟩
            · have h := HO.out
              rw [← HA.out.2.1] at h
              exact h.ins (fun x hx => by rw [HJ0.out] at hx; cases hx) HA.out.2.2
            · have := HK4.out
              unfold Hid
              simpa using this
          case measure => have := HLT.out; simp [intOf]; omega
    · have q1 : decide ((i : Int) < (n : Int)) = false := decide_eq_false (by omega)
      have q2 : ¬ (i : Int) < (n : Int) := by omega
      obtain rfl : i = n := by omega
      go_wp2_with fail
      go_end0
      have hk := HK.out
      rw [Nat.sub_self, show List.range' i 0 = [] from rfl, List.append_nil] at hk
      exact ⟨rfl, p, HO.out, hk, HT.out⟩
end Go.Proofs.Ytjeadmndnbggmaa
