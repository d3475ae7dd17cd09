/- A row of numbers, as values: two neighbouring ranges change places. -/
import Derived.Test.YtjeadmndnbggmaaOrW
set_option linter.unusedVariables false
set_option linter.unusedSimpArgs false
namespace Go.Proofs.Ytjeadmndnbggmaa
open Go.RowKit

theorem mem_turn {P A C Q : List ValS} {x : ValS} (h : x ∈ P ++ C ++ A ++ Q) : x ∈ P ++ A ++ C ++ Q := by
  simp only [List.mem_append] at h ⊢
  rcases h with ((h | h) | h) | h <;> simp [h]
set_option maxRecDepth 100000 in
set_option maxHeartbeats 6400000 in
theorem rotv_any (w : World) (B gr n c : Nat) (T : TypeId) (P A C Q : List ValS) (hn : (P ++ A ++ C ++ Q).length = n) (hn9 : n ≤ 100) (hA0 : 0 < A.length) (hC0 : 0 < C.length)
    (hB : Blk w B gr (rowL valA (P ++ A ++ C ++ Q)).toArray T) (hok : ∀ x ∈ P ++ A ++ C ++ Q, OkS x) (a m b : Nat) (ha : a = P.length) (hm : m = a + A.length) (hb : b = m + C.length) (fv : Value) :
    Calls Try.prog 38 #[.slice (some ⟨gr, 0, none⟩) n c, .int .i64 (a : Int), .int .i64 (m : Int), .int .i64 (b : Int), fv] w fun e w' => e = .returned (.tuple #[]) ∧ Blk w' B gr (rowL valA (P ++ C ++ A ++ Q)).toArray T ∧ Oth gr w w' := by
  have HB := Lib.hid hB
  have HOK : Hid (∀ x ∈ P ++ C ++ A ++ Q, OkS x) := fun x hx => hok x (mem_turn hx)
  obtain ⟨i0, hi0⟩ : ∃ i, A.length = i := ⟨_, rfl⟩
  obtain ⟨j0, hj0⟩ : ∃ j, C.length = j := ⟨_, rfl⟩
  have HTN : Hid ((P ++ C ++ A ++ Q).length = n) := by unfold Hid; rw [← hn]; simp; omega
  have hmn : m + j0 ≤ n := by rw [← hn]; simp; omega
  have hmi : i0 ≤ m := by omega
  have d1 : (m : Int) - (a : Int) = (i0 : Int) := by omega
  have d2 : (b : Int) - (m : Int) = (j0 : Int) := by omega
  have d3 : IntKind.i64.wrap (i0 : Int) = (i0 : Int) := by rw [IntKind.wrap_i64]; omega
  have d4 : IntKind.i64.wrap (j0 : Int) = (j0 : Int) := by rw [IntKind.wrap_i64]; omega
  have HS : Hid (P.length + i0 = m ∧ A.length = i0 ∧ C.length = j0 ∧ 0 < i0 ∧ 0 < j0 ∧ i0 ≤ m ∧ m + j0 ≤ n) := ⟨by omega, hi0, hj0, by omega, by omega, hmi, hmn⟩
  obtain ⟨TG, hTG⟩ : ∃ t, P ++ C ++ A ++ Q = t := ⟨_, rfl⟩
  have HTG := Lib.hid hTG
  rw [hTG] at HOK HTN ⊢
  clear hB hok hn hi0 hj0 hA0 hC0 ha hm hb hmn hmi hTG
  go_enter Try.func38, Try.ntmps38
  go_wp2_with fail
  clear d1 d2 d3 d4
  go_loopw [10, 11] (fun x y wr => ∃ (i j : Nat) (P A C Q : List ValS), x = .int .i64 (i : Int) ∧ y = .int .i64 (j : Int) ∧ Hid (P.length + i = m ∧ A.length = i ∧ C.length = j ∧ 0 < i ∧ 0 < j ∧ i ≤ m ∧ m + j ≤ n) ∧ Hid (P ++ C ++ A ++ Q = TG) ∧ Hid (Blk wr B gr (rowL valA (P ++ A ++ C ++ Q)).toArray T) ∧ Hid (Oth gr w wr)) (fun x y _ => (intOf x + intOf y).toNat)
  case atStart => exact ⟨i0, j0, P, A, C, Q, rfl, rfl, HS.out, HTG.out, HB.out, Oth.refl _ _⟩
  case round =>
    clear HS HTG HB
    obtain ⟨i, j, P, A, C, Q, rfl, rfl, HS, HTG, HK, HT⟩ := hrel
    obtain ⟨h1, h2, h3, h4, h5, h6, h7⟩ := HS.out
    obtain ⟨p, hp⟩ : ∃ p, P.length = p := ⟨_, rfl⟩
    have d1 : (m : Int) - (i : Int) = (p : Int) := by omega
    have d2 : IntKind.i64.wrap (p : Int) = (p : Int) := by rw [IntKind.wrap_i64]; omega
    have HXL : Hid ((P ++ A ++ C ++ Q).length = n) := by unfold Hid; rw [← HTN.out, ← HTG.out]; simp; omega
    have HXO : Hid (∀ x ∈ P ++ A ++ C ++ Q, OkS x) := fun x hx => HOK.out x (by rw [← HTG.out]; exact mem_turn hx)
    by_cases hij : i = j
    · subst hij
      have e1 : ((i : Int) != (i : Int)) = false := by simp
      have hb1 : Blk wr B gr (rowL valA (P ++ A ++ [] ++ C ++ Q)).toArray T := by rw [List.append_nil]; exact HK.out
      have hsw := swv_any wr B gr n c T (P ++ A ++ [] ++ C ++ Q) (by rw [List.append_nil]; exact HXL.out) hn9 hb1 (by rw [List.append_nil]; exact HXO.out) p m i (by omega) (by omega) fv
      have e3 := swR_apart P A [] C Q (by omega)
      rw [hp, h2, List.length_nil, Nat.add_zero, show p + i = m by omega] at e3
      rw [e3, List.append_nil, HTG.out] at hsw
      have HSW := Lib.hid hsw
      clear hsw e3 hb1 h1 h2 h3 h4 h5 h6 h7 hp
      go_wp2_with fail
      refine HSW.out.mono ?_; rintro e w5 ⟨rfl, hk5, ho5⟩
      have HK5 := Lib.hid hk5
      have HO5 := Lib.hid (HT.out.trans ho5)
      clear hk5 ho5
      go_wp2_with fail
      go_end0
      exact ⟨rfl, HK5.out, HO5.out⟩
    · have e1 : ((i : Int) != (j : Int)) = true := by simp; omega
      have e2 : ¬ ((i : Int) = (j : Int)) := by omega
      by_cases hgt : j < i
      · have g1 : decide ((j : Int) < (i : Int)) = true := decide_eq_true (by omega)
        have g2 : (j : Int) < (i : Int) := by omega
        obtain ⟨i', hi'⟩ : ∃ k, i - j = k := ⟨_, rfl⟩
        have g3 : (i : Int) - (j : Int) = (i' : Int) := by omega
        have g4 : IntKind.i64.wrap (i' : Int) = (i' : Int) := by rw [IntKind.wrap_i64]; omega
        obtain ⟨A1, A2, rfl, hA1⟩ : ∃ a b, A = a ++ b ∧ a.length = j := ⟨A.take j, A.drop j, (List.take_append_drop _ _).symm, by rw [List.length_take]; omega⟩
        have hA2 : A2.length = i' := by simp at h2; omega
        have hsw := swv_any wr B gr n c T (P ++ A1 ++ A2 ++ C ++ Q) (by have := HXL.out; rw [← List.append_assoc] at this; exact this) hn9 (by have := HK.out; rw [← List.append_assoc P] at this; exact this) (by have := HXO.out; rw [← List.append_assoc P] at this; exact this) p m j (by omega) (by omega) fv
        have e3 := swR_apart P A1 A2 C Q (by omega)
        rw [hp, hA1, hA2, show p + j + i' = m by omega] at e3
        rw [e3] at hsw
        have HSW := Lib.hid hsw
        have HS2 : Hid ((P ++ C).length + i' = m ∧ A2.length = i' ∧ A1.length = j ∧ 0 < i' ∧ 0 < j ∧ i' ≤ m ∧ m + j ≤ n) := ⟨by rw [List.length_append]; omega, hA2, hA1, by omega, by omega, by omega, by omega⟩
        have HT2 : Hid ((P ++ C) ++ A1 ++ A2 ++ Q = TG) := by unfold Hid; rw [← HTG.out]; simp
        have HM : Hid (i' + j < i + j) := by unfold Hid; omega
        clear hsw e3 h1 h2 h3 h4 h5 h6 h7 hp hA1 hA2 hi'
        go_wp2_with fail
        refine HSW.out.mono ?_; rintro e w5 ⟨rfl, hk5, ho5⟩
        have HK5 := Lib.hid hk5
        have HO5 := Lib.hid (HT.out.trans ho5)
        clear hk5 ho5
        go_wp2_with fail
        go_roundw
        case rel => exact ⟨i', j, P ++ C, A2, A1, Q, by go_num, rfl, HS2.out, HT2.out, HK5.out, HO5.out⟩
        case measure => have := HM.out; simp [intOf]; omega
      · have g1 : decide ((j : Int) < (i : Int)) = false := decide_eq_false (by omega)
        have g2 : ¬ (j : Int) < (i : Int) := by omega
        obtain ⟨j', hj'⟩ : ∃ k, j - i = k := ⟨_, rfl⟩
        have g3 : (j : Int) - (i : Int) = (j' : Int) := by omega
        have g4 : IntKind.i64.wrap (j' : Int) = (j' : Int) := by rw [IntKind.wrap_i64]; omega
        obtain ⟨mj, hmj⟩ : ∃ k, m + j = k := ⟨_, rfl⟩
        have g5 : (m : Int) + (j : Int) = (mj : Int) := by omega
        have g6 : IntKind.i64.wrap (mj : Int) = (mj : Int) := by rw [IntKind.wrap_i64]; omega
        obtain ⟨mq, hmq⟩ : ∃ k, mj - i = k := ⟨_, rfl⟩
        have g7 : (mj : Int) - (i : Int) = (mq : Int) := by omega
        have g8 : IntKind.i64.wrap (mq : Int) = (mq : Int) := by rw [IntKind.wrap_i64]; omega
        obtain ⟨C1, C2, rfl, hC1⟩ : ∃ a b, C = a ++ b ∧ a.length = j' := ⟨C.take j', C.drop j', (List.take_append_drop _ _).symm, by rw [List.length_take]; omega⟩
        have hC2 : C2.length = i := by simp at h3; omega
        have eL : P ++ A ++ (C1 ++ C2) ++ Q = P ++ A ++ C1 ++ C2 ++ Q := by simp
        have hsw := swv_any wr B gr n c T (P ++ A ++ C1 ++ C2 ++ Q) (by rw [← eL]; exact HXL.out) hn9 (by rw [← eL]; exact HK.out) (by rw [← eL]; exact HXO.out) p mq i (by omega) (by omega) fv
        have e3 := swR_apart P A C1 C2 Q (by omega)
        rw [hp, h2, hC1, show p + i + j' = mq by omega] at e3
        rw [e3] at hsw
        have eR : P ++ C2 ++ C1 ++ A ++ Q = P ++ C2 ++ C1 ++ (A ++ Q) := by simp
        rw [eR] at hsw
        have HSW := Lib.hid hsw
        have HS2 : Hid (P.length + i = m ∧ C2.length = i ∧ C1.length = j' ∧ 0 < i ∧ 0 < j' ∧ i ≤ m ∧ m + j' ≤ n) := ⟨by omega, hC2, hC1, by omega, by omega, by omega, by omega⟩
        have HT2 : Hid (P ++ C1 ++ C2 ++ (A ++ Q) = TG) := by unfold Hid; rw [← HTG.out]; simp
        have HM : Hid (i + j' < i + j) := by unfold Hid; omega
        clear hsw e3 h1 h2 h3 h4 h5 h6 h7 hp hC1 hC2 hj' hmj hmq eL eR
        go_wp2_with fail
        refine HSW.out.mono ?_; rintro e w5 ⟨rfl, hk5, ho5⟩
        have HK5 := Lib.hid hk5
        have HO5 := Lib.hid (HT.out.trans ho5)
        clear hk5 ho5
        go_wp2_with fail
        go_roundw
        case rel => exact ⟨i, j', P, C2, C1, A ++ Q, rfl, by go_num, HS2.out, HT2.out, HK5.out, HO5.out⟩
        case measure => have := HM.out; simp [intOf]; omega
end Go.Proofs.Ytjeadmndnbggmaa
