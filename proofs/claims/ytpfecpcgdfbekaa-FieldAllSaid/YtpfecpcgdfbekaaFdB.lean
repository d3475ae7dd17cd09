/- The insertion sort of field.Order's places. -/
import Derived.Test.YtpfecpcgdfbekaaFdA
import Derived.BigRegion
import Derived.Deep.DeepCutAuto
set_option linter.unusedVariables false
set_option linter.unusedSimpArgs false
namespace Go.Proofs.Ytpfecpcgdfbekaa
open Go.RowKit

def nv (k : Nat) : Value := .int .i64 (k : Int)
theorem set_two {α : Type} (x y u v : α) (r : List α) : ∀ a : List α, ((a ++ x :: y :: r).set (a.length + 1) v).set a.length u = a ++ u :: v :: r
  | [] => rfl
  | z :: a => by
    have h := set_two x y u v r a
    show z :: ((a ++ x :: y :: r).set (a.length + 1) v).set a.length u = z :: (a ++ u :: v :: r)
    rw [h]
theorem set_map {α : Type} (f : α → Value) (l : List α) (k : Nat) (x : α) : ((l.map f).toArray).setIfInBounds k (f x) = ((l.set k x).map f).toArray := by
  apply Array.toList_inj.1
  rw [Array.toList_setIfInBounds, List.map_set]
/-- two neighbours that changed places -/
theorem swap_blk {w : World} {B g : Nat} {T : TypeId} {a r : List Nat} {x y : Nat} (h : Blk w B g (((a ++ x :: y :: r).map nv).toArray) T) :
    Blk ((w.setCell ⟨g, a.length + 1, none⟩ (nv x)).setCell ⟨g, a.length, none⟩ (nv y)) B g (((a ++ y :: x :: r).map nv).toArray) T := by
  have := (h.put (a.length + 1) (nv x)).put a.length (nv y)
  rw [set_map, set_map, set_two] at this
  exact this
theorem ins_none (w : World) (A : Option Addr) (n c : Nat) (a b : Nat) (fv : Value) (hab : b ≤ a + 1) (hb : b ≤ 100000) (ha : a ≤ 100000) :
    Calls Try.prog 19 #[.slice A n c, .int .i64 (a : Int), .int .i64 (b : Int), fv] w fun e w' => e = .returned (.tuple #[]) ∧ w' = w := by
  obtain ⟨k, hk⟩ : ∃ k : Nat, (a : Int) + 1 = (k : Int) := ⟨a + 1, by omega⟩
  have q1 : decide ((k : Int) < (b : Int)) = false := decide_eq_false (by omega)
  have q2 : ¬ (k : Int) < (b : Int) := by omega
  have q3 : ¬ k < b := by omega
  go_enter Try.func19, Try.ntmps19
  go_wp2_with fail
  go_loopw [8] (fun v wr => v = .int .i64 (k : Int) ∧ wr = w) (fun v _ => 0)
  case atStart => exact ⟨rfl, rfl⟩
  case round =>
    obtain ⟨rfl, rfl⟩ := hrel
    go_wp2_with fail
    go_end0
    exact ⟨rfl, rfl⟩
set_option maxRecDepth 100000 in
set_option maxHeartbeats 3200000 in
theorem ins_any (w : World) (B gr n c gb : Nat) (T : TypeId) (v : Nat → Int) (hn1 : 1 ≤ n) (hn9 : n ≤ 100000)
    (hB : Blk w B gr (((List.range n).map nv).toArray) T)
    (hL : ∀ wr, Oth gr w wr → ∀ i j, i < n → j < n → Calls Try.prog 15 #[.int .i64 (i : Int), .int .i64 (j : Int), .pointer (some ⟨gb, 0, none⟩)] wr fun e w' => e = .returned (.int .i64 (cmpZ (v i) (v j))) ∧ ∃ q, w' = wr.drewN q) :
    Calls Try.prog 19 #[.slice (some ⟨gr, 0, none⟩) n c, .int .i64 0, .int .i64 (n : Int), .func (.func 15) #[] #[.pointer (some ⟨gb, 0, none⟩)]] w fun e w' => e = .returned (.tuple #[]) ∧ ∃ o, Ord v n o ∧ Blk w' B gr ((o.map nv).toArray) T ∧ Oth gr w w' := by
  have HB := Lib.hid hB
  have HL := Lib.hid hL
  have hn1i : (1 : Int) ≤ (n : Int) := by omega
  clear hB hL
  go_enter Try.func19, Try.ntmps19
  go_wp2_with fail
  go_loopw [8] (fun x wr => ∃ (i : Nat) (p : List Nat), x = .int .i64 (i : Int) ∧ 1 ≤ i ∧ i ≤ n ∧ Hid (Ord v i p) ∧ Hid (Blk wr B gr (((p ++ List.range' i (n - i)).map nv).toArray) T) ∧ Hid (Oth gr w wr)) (fun x _ => (n - intOf x).toNat)
  case atStart => exact ⟨1, [0], rfl, Nat.le_refl _, hn1, ⟨List.Perm.refl _, List.pairwise_singleton _ _⟩, by
      unfold Hid
      have : List.range n = [0] ++ List.range' 1 (n - 1) := by
        obtain ⟨m, rfl⟩ : ∃ m, n = m + 1 := ⟨n - 1, by omega⟩
        rw [List.range_eq_range', List.range'_succ]; rfl
      rw [← this]; exact HB.out, Oth.refl _ _⟩
  case round =>
    obtain ⟨i, p, rfl, h1, hi, HO, HK, HT⟩ := hrel
    by_cases hlt : i < n
    · have q1 : decide ((i : Int) < (n : Int)) = true := decide_eq_true (by omega)
      have q2 : (i : Int) < (n : Int) := by omega
      have HLT := Lib.hid hlt
      go_wp2_with fail
      go_loopw [9] (fun x wr => ∃ (j : Nat) (a b : List Nat), x = .int .i64 (j : Int) ∧ j ≤ i ∧ Hid (a.length = j ∧ a ++ b = p ∧ ∀ x ∈ b, v i < v x) ∧ Hid (Blk wr B gr (((a ++ i :: (b ++ List.range' (i + 1) (n - (i + 1)))).map nv).toArray) T) ∧ Hid (Oth gr w wr)) (fun x _ => (intOf x).toNat)
      case atStart =>
        refine ⟨i, p, [], rfl, Nat.le_refl _, ⟨HO.out.len, by simp, fun _ h => by cases h⟩, ?_, HT⟩
        have : List.range' i (n - i) = i :: List.range' (i + 1) (n - (i + 1)) := by
          obtain ⟨m, hm⟩ : ∃ m, n - i = m + 1 := ⟨n - i - 1, by omega⟩
          rw [hm, List.range'_succ, show n - (i + 1) = m by omega]
        have hk := HK.out
        rw [this] at hk
        exact hk
      case round =>
        obtain ⟨j, a, b, rfl, hj, HA, HK2, HT2⟩ := hrel
        by_cases hj0 : 0 < j
        · obtain ⟨ha1, ha2, ha3⟩ := HA.out
          obtain ⟨a', y, rfl⟩ : ∃ a' y, a = a' ++ [y] := ⟨a.dropLast, a.getLast (by intro e; rw [e] at ha1; simp at ha1; omega), (List.dropLast_concat_getLast _).symm⟩
          obtain ⟨jp, hjp⟩ : ∃ jp : Nat, jp + 1 = j := ⟨j - 1, by omega⟩
          have hjpi : (j : Int) - 1 = (jp : Int) := by omega
          have hal : a'.length = jp := by simp at ha1; omega
          have hyp : y ∈ p := by rw [← ha2]; simp
          have hyi : y < i := HO.out.mem.1 hyp
          have hk2 : Blk wr B gr (((a' ++ y :: i :: (b ++ List.range' (i + 1) (n - (i + 1)))).map nv).toArray) T := by
            have := HK2.out
            rw [List.append_assoc] at this
            exact this
          have cp : wr.cell? ⟨gr, jp, none⟩ = some (.int .i64 (y : Int)) := by rw [hk2.cell jp, ← hal]; simp [nv]
          have cj : wr.cell? ⟨gr, j, none⟩ = some (.int .i64 (i : Int)) := by rw [hk2.cell j, ← hjp, ← hal]; simp [nv]
          have fp := hk2.free jp
          have fj := hk2.free j
          have HK3 := Lib.hid hk2
          have q3 : decide ((0 : Int) < (j : Int)) = true := decide_eq_true (by omega)
          have q4 : (0 : Int) < (j : Int) := by omega
          have j1 : (j : Int) < (n : Int) := by omega
          have j0 : (0 : Int) ≤ (j : Int) := by omega
          have jp1 : (jp : Int) < (n : Int) := by omega
          have jp0 : (0 : Int) ≤ (jp : Int) := by omega
          have hc : ∀ m, Calls Try.prog 15 #[.int .i64 (i : Int), .int .i64 (y : Int), .pointer (some ⟨gb, 0, none⟩)] (wr.drewN m) fun e w' => e = .returned (.int .i64 (cmpZ (v i) (v y))) ∧ ∃ q, w' = (wr.drewN m).drewN q := fun m =>
            HL.out (wr.drewN m) ⟨HT2.out.os, HT2.out.tape, HT2.out.output, HT2.out.size, HT2.out.block⟩ i y HLT.out (by omega)
          have HAL := Lib.hid hal
          have HJP := Lib.hid hjp
          have HA2 : Hid (a' ++ y :: b = p ∧ ∀ x ∈ b, v i < v x) := ⟨by rw [← ha2]; simp, ha3⟩
          have HYI := Lib.hid hyi
          have HJ := Lib.hid hj
          have q5 : decide (0 < j) = true := decide_eq_true hj0
          have q6 : 0 < j := hj0
          clear ha1 ha2 ha3 hk2 hal hyp hyi HA hjp hj0
          by_cases hv : v i < v y
          · have hcz : cmpZ (v i) (v y) = -1 := by unfold cmpZ; rw [if_pos hv]
            rw [hcz] at hc
            have HV := Lib.hid hv
            clear hv hcz
            go_wp2_with fail
            go_quiet (exact Calls.quiet_of (hc _))
            go_wp2_with fail
            clear hc
            have hk4 : Blk (wr.drewN nq) B gr (((a' ++ y :: i :: (b ++ List.range' (i + 1) (n - (i + 1)))).map nv).toArray) T := HK3.out.drew nq
            have ho4 : Oth gr w (wr.drewN nq) := ⟨HT2.out.os, HT2.out.tape, HT2.out.output, HT2.out.size, HT2.out.block⟩
            have HK4 := Lib.hid hk4
            have HO4 := Lib.hid ho4
            clear cp cj fp fj hk4 ho4 HK3 HT2 HK2
            generalize wr.drewN nq = w2 at *
            have cp : w2.cell? ⟨gr, jp, none⟩ = some (.int .i64 (y : Int)) := by rw [HK4.out.cell jp, ← HAL.out]; simp [nv]
            have cj : w2.cell? ⟨gr, j, none⟩ = some (.int .i64 (i : Int)) := by rw [HK4.out.cell j, ← HJP.out, ← HAL.out]; simp [nv]
            have fp := HK4.out.free jp
            have fj := HK4.out.free j
            have hk5 : Blk ((w2.setCell ⟨gr, j, none⟩ (.int .i64 (y : Int))).setCell ⟨gr, jp, none⟩ (.int .i64 (i : Int))) B gr (((a' ++ i :: y :: (b ++ List.range' (i + 1) (n - (i + 1)))).map nv).toArray) T := by
              have := swap_blk HK4.out
              rw [HAL.out, HJP.out] at this
              exact this
            have ho5 : Oth gr w ((w2.setCell ⟨gr, j, none⟩ (.int .i64 (y : Int))).setCell ⟨gr, jp, none⟩ (.int .i64 (i : Int))) := HO4.out.own.own
            have HK5 := Lib.hid hk5
            have HO5 := Lib.hid ho5
            clear hk5 ho5
            go_region
            clear cp cj fp fj HK4 HO4
            go_wp2_with fail
            go_roundw
            case rel =>
              refine ⟨jp, a', y :: b, by go_num, by have := HJ.out; have := HJP.out; omega, ⟨HAL.out, HA2.out.1, fun x hx => ?_⟩, ?_, HO5.out.trans ⟨rfl, rfl, rfl, Nat.le_refl _, fun _ _ _ => rfl⟩⟩
              · rcases List.mem_cons.1 hx with rfl | hx
                · exact HV.out
                · exact HA2.out.2 x hx
              · exact HK5.out.drew 1
            case measure => have := HJP.out; simp [intOf]; omega
          · have hcz : ¬ cmpZ (v i) (v y) < 0 := by unfold cmpZ; rw [if_neg hv]; split <;> omega
            have hcd : decide (cmpZ (v i) (v y) < 0) = false := decide_eq_false hcz
            have HV := Lib.hid hv
            clear hv
            go_wp2_with fail
            go_quiet (exact Calls.quiet_of (hc _))
            clear hc
            have hk4 : Blk (wr.drewN nq) B gr (((a' ++ y :: i :: (b ++ List.range' (i + 1) (n - (i + 1)))).map nv).toArray) T := HK3.out.drew nq
            have ho4 : Oth gr w (wr.drewN nq) := ⟨HT2.out.os, HT2.out.tape, HT2.out.output, HT2.out.size, HT2.out.block⟩
            have HK4 := Lib.hid hk4
            have HO4 := Lib.hid ho4
            clear cp cj fp fj hk4 ho4 HK3 HT2 HK2
            generalize wr.drewN nq = w2 at *
            go_wp2_with fail
            go_roundw
            case rel =>
              refine ⟨i + 1, a' ++ y :: i :: b, by go_num, by omega, HLT.out, ?_, ?_, HO4.out⟩
              · have h := HO.out
                rw [← HA2.out.1, show a' ++ y :: b = (a' ++ [y]) ++ b by simp] at h
                have h2 := h.ins (h.last (by have := HV.out; omega)) HA2.out.2
                unfold Hid
                simpa using h2
              · have := HK4.out
                unfold Hid
                simpa using this
            case measure => have := HLT.out; simp [intOf]; omega
        · have q3 : decide ((0 : Int) < (j : Int)) = false := decide_eq_false (by omega)
          have q4 : ¬ (0 : Int) < (j : Int) := by omega
          have q5 : decide (0 < j) = false := decide_eq_false hj0
          have HJ0 : Hid (a = []) := by
            have := HA.out.1
            unfold Hid
            exact List.eq_nil_of_length_eq_zero (by omega)
          go_wp2_with fail
          go_quiet (fail)
          have hk4 : Blk (wr.drewN nq) B gr (((a ++ i :: (b ++ List.range' (i + 1) (n - (i + 1)))).map nv).toArray) T := HK2.out.drew nq
          have ho4 : Oth gr w (wr.drewN nq) := ⟨HT2.out.os, HT2.out.tape, HT2.out.output, HT2.out.size, HT2.out.block⟩
          have HK4 := Lib.hid hk4
          have HO4 := Lib.hid ho4
          clear hk4 ho4 HT2 HK2
          generalize wr.drewN nq = w2 at *
          go_wp2_with fail
          go_roundw
          case rel =>
            refine ⟨i + 1, a ++ i :: b, by go_num, by omega, HLT.out, ?_, ?_, HO4.out⟩
            · have h := HO.out
              rw [← HA.out.2.1] at h
              exact h.ins (fun x hx => by rw [HJ0.out] at hx; cases hx) HA.out.2.2
            · have := HK4.out
              unfold Hid
              simpa using this
          case measure => have := HLT.out; simp [intOf]; omega
    · have q1 : decide ((i : Int) < (n : Int)) = false := decide_eq_false (by omega)
      have q2 : ¬ (i : Int) < (n : Int) := by omega
      obtain rfl : i = n := by omega
      go_wp2_with fail
      go_end0
      have hk := HK.out
      rw [Nat.sub_self, show List.range' i 0 = [] from rfl, List.append_nil] at hk
      exact ⟨rfl, p, HO.out, hk, HT.out⟩
end Go.Proofs.Ytpfecpcgdfbekaa
