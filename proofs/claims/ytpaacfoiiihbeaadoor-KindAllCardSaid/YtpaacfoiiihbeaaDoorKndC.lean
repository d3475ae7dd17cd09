/- The contracts of the document's reading of kinds: part, given node's. -/
import Derived.Test.YtpaacfoiiihbeaaDoorKndB
set_option linter.unusedVariables false
set_option linter.unusedSimpArgs false
namespace Go.Proofs.YtpaacfoiiihbeaaDoor
open Go.RowKit

def NodeR (w : World) (b : Nat) (s : ByteArray) (l : List UInt8) (o : Nat) (P : Nat × Ty × Nat) (e : Ending) (w' : World) : Prop :=
  ∃ (k : Int) (N A B : ByteArray) (o' : Nat), e = .returned (.agg #[.int .i64 k, .string N, .string A, .string B]) ∧ TyC w' b s o' P.1 ∧ o ≤ o' ∧ o' ≤ l.length ∧ Oth b w w' ∧ (P.1 = 0 → o' = o + P.2.2 ∧ HeadIs P.2.1 k N A B)
def NodeC (r : Nat) : Prop := ∀ (b : Nat) (s : ByteArray) (l : List UInt8) (o : Nat) (w : World) (D : Int), D + r = 13 → 1 ≤ D → TyC w b s o 0 → Tx s l → o ≤ l.length → (l.length : Int) ≤ 8000 →
  Calls Tryd.prog 21 #[.pointer (some ⟨b, 0, none⟩), .int .i64 D] w (NodeR w b s l o (parT r (l.drop o)))

set_option maxRecDepth 100000 in
set_option maxHeartbeats 1600000 in
theorem tpart_err (b : Nat) (s : ByteArray) (o E : Nat) (c : UInt8) (w : World) (D : Int) (hC : TyC w b s o E) (hE : E ≠ 0) :
    Calls Tryd.prog 28 #[.pointer (some ⟨b, 0, none⟩), .int .u8 (c.toNat : Int), .int .i64 D] w fun e w' => e = .returned (.string ⟨#[]⟩) ∧ w' = w := by
  have c2 : w.cell? ⟨b, 2, none⟩ = some (.int .i64 (E : Int)) := hC.cell 2
  have h1 : ((E : Int) != 0) = true := by rw [bne_iff_ne]; omega
  clear hC
  go_enter Tryd.func28, Tryd.ntmps28
  go_wp2_with fail
  go_ret
  exact ⟨rfl, rfl⟩

def PartP (w : World) (b : Nat) (s : ByteArray) (l : List UInt8) (o : Nat) (c : UInt8) (P : Nat × Ty × Nat) (e : Ending) (w' : World) : Prop :=
  ∃ (u : ByteArray) (o' : Nat), e = .returned (.string u) ∧ TyC w' b s o' (if (l.drop o).head? = some c then P.1 else 2) ∧ o ≤ o' ∧ o' ≤ l.length ∧ Oth b w w' ∧ ((l.drop o).head? = some c → P.1 = 0 → o' = o + 1 + P.2.2 ∧ Tx u (showT P.2.1))

set_option maxRecDepth 100000 in
set_option maxHeartbeats 3200000 in
theorem tpart_any (r : Nat) (hN : NodeC r) (b : Nat) (s : ByteArray) (l : List UInt8) (o : Nat) (c : UInt8) (w : World) (D : Int) (hD : D + 1 + r = 13) (hD1 : 1 ≤ D) (hC : TyC w b s o 0) (hl : Tx s l) (ho : o ≤ l.length) (hs : (l.length : Int) ≤ 8000) :
    Calls Tryd.prog 28 #[.pointer (some ⟨b, 0, none⟩), .int .u8 (c.toNat : Int), .int .i64 D] w (PartP w b s l o c (parT r (l.drop (o + 1)))) := by
  have HL := Lib.hid hl
  have HC := Lib.hid hC
  have HN := Lib.hid hN
  have c2 : w.cell? ⟨b, 2, none⟩ = some (.int .i64 0) := hC.cell 2
  have hz : (s.size : Int) = (l.length : Int) := by rw [hl.size]
  have HZ := Lib.hid hz
  have hso := parT_sound r (l.drop (o + 1))
  obtain ⟨P, hP⟩ : ∃ P, Hid (parT r (l.drop (o + 1)) = P) := ⟨_, rfl⟩
  rw [hP.out] at hso ⊢
  have HSO := Lib.hid hso
  have hD2 : D ≤ 12 := by omega
  clear hl hC hN hz hso
  go_enter Tryd.func28, Tryd.ntmps28
  go_wp2_with fail
  refine (tsign_any b s l o c w HC.out HL.out ho hs).mono ?_; rintro e w1 ⟨rfl, hC1, hO1⟩
  clear c2
  by_cases hh : (l.drop o).head? = some c
  · rw [if_pos hh, if_pos hh] at hC1
    have hol : o + 1 ≤ l.length := by
      rcases Nat.lt_or_ge o l.length with h | h
      · exact h
      · rw [List.drop_eq_nil_of_le h] at hh; cases hh
    have c1 : w1.cell? ⟨b, 1, none⟩ = some (.int .i64 ((o + 1 : Nat) : Int)) := hC1.cell 1
    have c2 : w1.cell? ⟨b, 2, none⟩ = some (.int .i64 0) := hC1.cell 2
    have HC1 := Lib.hid hC1
    have HO1 := Lib.hid hO1
    have HH := Lib.hid hh
    obtain ⟨O1, hO1e⟩ : ∃ O1, o + 1 = O1 := ⟨_, rfl⟩
    have HO1E := Lib.hid hO1e
    rw [hO1e] at c1 HC1 hol hP
    clear hC1 hO1 hh hO1e
    obtain ⟨D1, hD1e⟩ : ∃ D1, D + 1 = D1 := ⟨_, rfl⟩
    go_wp2_with fail
    have hn := HN.out b s l O1 w1 D1 (by omega) (by omega) HC1.out HL.out hol hs
    rw [hP.out] at hn
    refine hn.mono ?_; rintro e w2 ⟨k, N, A, B, o', rfl, hC2, ho1, ho2, hO2, hok⟩
    clear hn c1 c2
    have c0 : w2.cell? ⟨b, 0, none⟩ = some (.string s) := hC2.cell 0
    have c1 : w2.cell? ⟨b, 1, none⟩ = some (.int .i64 (o' : Int)) := hC2.cell 1
    have HC2 := Lib.hid hC2
    have HO2 := Lib.hid (HO1.out.trans hO2)
    have HOK := Lib.hid hok
    obtain ⟨u, hu, HU⟩ := HL.out.mid O1 o'
    have i1 : (O1 : Int) ≤ (o' : Int) := by omega
    have i2 : (o' : Int) ≤ (s.size : Int) := by rw [HZ.out]; omega
    clear hC2 hO2 hok
    go_wp2_with fail
    go_quiet (fail)
    go_wp2_with fail
    go_ret
    refine ⟨u, o', rfl, ?_, by have := HO1E.out; omega, ho2, HO2.out.trans (Oth.nx ((Nx.refl _).dr _)), fun _ h0 => ?_⟩
    · rw [if_pos HH.out]; exact HC2.out.drew _
    · obtain ⟨h1, h2⟩ := HOK.out h0
      have h3 := HSO.out h0
      refine ⟨by rw [HO1E.out]; exact h1, ?_⟩
      rw [← h3.2.2.2, HO1E.out]
      have h4 := HU.out
      rw [h1, List.drop_take, show O1 + P.2.2 - O1 = P.2.2 by omega] at h4
      exact h4
  · rw [if_neg hh, if_neg hh] at hC1
    have c0 : w1.cell? ⟨b, 0, none⟩ = some (.string s) := hC1.cell 0
    have c1 : w1.cell? ⟨b, 1, none⟩ = some (.int .i64 (o : Int)) := hC1.cell 1
    have c2 : w1.cell? ⟨b, 2, none⟩ = some (.int .i64 2) := hC1.cell 2
    have HC1 := Lib.hid hC1
    have HO1 := Lib.hid hO1
    have HH := Lib.hid hh
    obtain ⟨u, hu, HU⟩ := HL.out.mid o o
    have i1 : (o : Int) ≤ (o : Int) := by omega
    have i2 : (o : Int) ≤ (s.size : Int) := by rw [HZ.out]; omega
    clear hC1 hO1 hh
    go_wp2_with fail
    go_quiet (fail)
    go_wp2_with fail
    go_ret
    refine ⟨_, o, rfl, ?_, Nat.le_refl _, ho, HO1.out.trans (Oth.nx ((Nx.refl _).dr _)), fun h => absurd h HH.out⟩
    rw [if_neg HH.out]; exact HC1.out.drew _
end Go.Proofs.YtpaacfoiiihbeaaDoor
