/- What field's laws begin with; lists held against each other. -/
import Derived.Test.YtpfecpcgdfbekaaFdF
import Derived.Test.YtpfecpcgdfbekaaRowB
set_option linter.unusedVariables false
set_option linter.unusedSimpArgs false
namespace Go.Proofs.Ytpfecpcgdfbekaa
open Go.RowKit

def fz : FdC := ⟨0, ⟨#[]⟩, false, 0, 0, 0, ⟨#[]⟩, none, 0, 0⟩
/-- fields written out lie -/
theorem RdF.lits {w : World} {B g : Nat} {fs : List Fd} {T : TypeId} (h : Blk w B g ((rowL (fun f => fdV f fz) fs).toArray) T) : RdF w (some ⟨g, 0, none⟩) fs := fun _ =>
  ⟨g, 0, rfl, h.lt, fun i hi => ⟨fz, fun j hj => by
    rw [h.cell, Nat.zero_add]
    have := rowL_get (f := fun f => fdV f fz) (k := 11) (fun _ => rfl) fs i hi j hj
    rw [List.getElem?_toArray]
    exact this⟩⟩
theorem Rd.blk {w : World} {B g : Nat} {xs : List Int} {T : TypeId} (h : Blk w B g ((xs.map iv).toArray) T) : Rd iv w (some ⟨g, 0, none⟩) xs := fun _ =>
  ⟨g, 0, rfl, h.lt, fun j hj => by rw [Nat.zero_add, h.cell]; simp [hj]⟩
theorem nv_iv (o : List Nat) : o.map nv = (o.map (fun k : Nat => (k : Int))).map iv := by
  rw [List.map_map]; rfl
set_option maxRecDepth 100000 in
theorem same_any (w : World) (A B : Option Addr) (ca cb : Nat) (xs ys : List Int) (hx : Rd iv w A xs) (hy : Rd iv w B ys) (hl : xs.length ≤ 100) (hl2 : ys.length ≤ 100) :
    Calls Try.prog 10 #[.slice A xs.length ca, .slice B ys.length cb] w fun e w' => e = .returned (.bool (decide (xs = ys))) ∧ Nx w w' := by
  obtain ⟨n, hn⟩ : ∃ n, xs.length = n := ⟨_, rfl⟩
  obtain ⟨m, hm⟩ : ∃ m, ys.length = m := ⟨_, rfl⟩
  rw [hn, hm]
  rw [hn] at hl
  rw [hm] at hl2
  have HN := Lib.hid hn
  have HM := Lib.hid hm
  have HX := Lib.hid hx
  have HY := Lib.hid hy
  obtain ⟨R, hR⟩ : ∃ R, decide (xs = ys) = R := ⟨_, rfl⟩
  have HR := Lib.hid hR
  rw [hR]
  have hni : (n : Int) ≤ 100 := by omega
  have hmi : (m : Int) ≤ 100 := by omega
  clear hx hy hR hn hm
  by_cases hnm : n = m
  · subst hnm
    clear hl2 hmi
    go_enter Try.func10, Try.ntmps10
    go_wp2_with fail
    go_loopw [5] (fun v wr => ∃ i : Nat, v = .int .i64 (i : Int) ∧ i ≤ n ∧ Hid (∀ k (h : k < xs.length) (h2 : k < ys.length), k < i → xs[k] = ys[k]) ∧ Hid (Nx w wr)) (fun v _ => (n - intOf v).toNat)
    case atStart => exact ⟨0, rfl, Nat.zero_le _, fun k _ _ h => absurd h (by omega), Nx.refl _⟩
    case round =>
      obtain ⟨i, rfl, hi, HE, HW⟩ := hrel
      by_cases hlt : i < n
      · have q1 : decide ((i : Int) < (n : Int)) = true := decide_eq_true (by omega)
        have q2 : (i : Int) < (n : Int) := by omega
        have q3 : (0 : Int) ≤ (i : Int) := by omega
        have hix : i < xs.length := by rw [HN.out]; exact hlt
        have hiy : i < ys.length := by rw [HM.out]; exact hlt
        obtain ⟨g1, o1, rfl, hg1, c1⟩ := (HX.out.below HW.out).at_ hix
        obtain ⟨g2, o2, rfl, hg2, c2⟩ := (HY.out.below HW.out).at_ hiy
        obtain ⟨x, hxx⟩ : ∃ x, xs[i] = x := ⟨_, rfl⟩
        obtain ⟨y, hyy⟩ : ∃ y, ys[i] = y := ⟨_, rfl⟩
        rw [hxx] at c1
        rw [hyy] at c2
        unfold iv at c1 c2
        have HLT := Lib.hid hlt
        by_cases hxy : x = y
        · subst hxy
          have b1 : (x != x) = false := by simp
          have HE2 : Hid (∀ k (h : k < xs.length) (h2 : k < ys.length), k < i + 1 → xs[k] = ys[k]) := fun k h h2 h3 => by
            rcases Nat.lt_or_ge k i with h4 | h4
            · exact HE.out k h h2 h4
            · obtain rfl : k = i := by omega
              rw [hxx, hyy]
          clear hxx hyy hix hiy hg1 hg2 hlt
          go_wp2_with fail
          go_quiet (fail)
          go_wp2_with fail
          go_roundw
          case rel => exact ⟨i + 1, by go_num, HLT.out, HE2, HW.out.dr _⟩
          case measure => have := HLT.out; simp [intOf]; omega
        · have b1 : (x != y) = true := by simp [hxy]
          have HF : Hid (R = false) := by
            unfold Hid; rw [← HR.out]
            refine decide_eq_false fun e => hxy ?_
            subst e
            rw [← hxx, ← hyy]
          clear hxx hyy hix hiy hg1 hg2 hlt
          go_wp2_with fail
          go_quiet (fail)
          go_wp2_with fail
          go_ret
          exact ⟨by rw [HF.out]; rfl, HW.out.dr _⟩
      · have q1 : decide ((i : Int) < (n : Int)) = false := decide_eq_false (by omega)
        have q2 : ¬ (i : Int) < (n : Int) := by omega
        have HF : Hid (R = true) := by
          unfold Hid; rw [← HR.out]
          refine decide_eq_true (List.ext_getElem (by rw [HN.out, HM.out]) fun k h h2 => HE.out k h h2 (by have := HN.out; omega))
        clear hlt
        go_wp2_with fail
        go_ret
        exact ⟨by rw [HF.out]; rfl, HW.out⟩
  · have b1 : ((n : Int) != (m : Int)) = true := by simp; omega
    have b2 : ¬ (n : Int) = (m : Int) := by omega
    have HF : Hid (R = false) := by
      unfold Hid; rw [← HR.out]
      refine decide_eq_false fun e => hnm ?_
      rw [← HN.out, ← HM.out, e]
    go_enter Try.func10, Try.ntmps10
    go_wp2_with fail
    go_ret
    exact ⟨by rw [HF.out]; rfl, Nx.refl _⟩
theorem same_true (w : World) (A B : Option Addr) (ca cb n : Nat) (xs : List Int) (hn : xs.length = n) (hx : Rd iv w A xs) (hy : Rd iv w B xs) (hl : n ≤ 100) :
    Calls Try.prog 10 #[.slice A n ca, .slice B n cb] w fun e w' => e = .returned (.bool true) ∧ Nx w w' := by
  subst hn
  refine (same_any w A B ca cb xs xs hx hy hl hl).mono fun e w' h => ⟨?_, h.2⟩
  rw [h.1, decide_eq_true rfl]
end Go.Proofs.Ytpfecpcgdfbekaa
