/- The contracts of token's gaps, signs, digits. -/
import Derived.Test.YtiefheocomkfiaaTokA
import Derived.Laws.Rows
import Derived.Laws.ResultCell
import Derived.Lib.Strings
set_option linter.unusedVariables false
set_option linter.unusedSimpArgs false
namespace Go.Proofs.Ytiefheocomkfiaa
open Go.RowKit

/-- the library's variable holds some number -/
def MaxC (w : World) : Prop := ∃ m, w.cell? ⟨0, 0, none⟩ = some (.int .i64 m)
theorem MaxC.nx {w w' : World} (h : MaxC w) (hn : Nx w w') : MaxC w' := by
  obtain ⟨m, hm⟩ := h
  exact ⟨m, (hn.cell (World.block_lt_of_cell? w _ hm)).trans hm⟩
theorem Tx.from_ {s : ByteArray} {l : List UInt8} (h : Tx s l) (n : Nat) : ∃ u, s.extract n s.size = u ∧ Hid (Tx u (l.drop n)) :=
  ⟨_, rfl, by unfold Hid Tx; rw [Lib.extract_data, show s.data.toList = l from h, h.size, List.take_of_length_le (by simp)]⟩
theorem Tx.upto {s : ByteArray} {l : List UInt8} (h : Tx s l) (n : Nat) : ∃ u, s.extract 0 n = u ∧ Hid (Tx u (l.take n)) :=
  ⟨_, rfl, by unfold Hid Tx; rw [Lib.extract_data, show s.data.toList = l from h]; simp⟩
theorem Tx.mid {s : ByteArray} {l : List UInt8} (h : Tx s l) (a n : Nat) : ∃ u, s.extract a n = u ∧ Hid (Tx u ((l.take n).drop a)) :=
  ⟨_, rfl, by unfold Hid Tx; rw [Lib.extract_data, show s.data.toList = l from h, List.drop_take]⟩

theorem index_other (l : List UInt8) (q : UInt8) : Lib.indexByte l q = if spanN (fun c => decide (c ≠ q)) l < l.length then ((spanN (fun c => decide (c ≠ q)) l : Nat) : Int) else -1 := by
  induction l with
  | nil => rfl
  | cons c l ih =>
    unfold Lib.indexByte spanN
    by_cases h : c = q
    · subst h; simp
    · have h1 : (c == q) = false := by simpa using h
      have h2 : decide (c ≠ q) = true := by simpa using h
      rw [h1, if_pos h2, ih]
      generalize spanN (fun c => decide (c ≠ q)) l = N
      simp only [List.length_cons, Bool.false_eq_true, if_false]
      by_cases hl : N < l.length
      · have : (((N : Nat) : Int) == -1) = false := by rw [beq_eq_false_iff_ne]; omega
        rw [if_pos hl, this, if_pos (show N + 1 < l.length + 1 by omega)]
        simp
      · rw [if_neg hl, if_neg (show ¬ N + 1 < l.length + 1 by omega)]
        rfl
theorem index_note (l : List UInt8) : Lib.index l [42, 47] = match noteN l with
    | none => -1
    | some n => (n : Int) := by
  induction l with
  | nil => rfl
  | cons c l ih =>
    unfold Lib.index noteN
    have hp : List.isPrefixOf [42, 47] (c :: l) = decide (c = 42 ∧ l.head? = some 47) := by
      rw [Bool.eq_iff_iff]
      cases l with
      | nil => simp [List.isPrefixOf]
      | cons d l => simp [List.isPrefixOf]; exact ⟨fun h => ⟨h.1.symm, h.2.symm⟩, fun h => ⟨h.1.symm, h.2.symm⟩⟩
    rw [hp, ih]
    by_cases h : c = 42 ∧ l.head? = some 47
    · simp [h]
    · rw [if_neg (by simpa using h), if_neg h]
      cases noteN l with
      | none => rfl
      | some n =>
        have : (((n : Nat) : Int) == -1) = false := by rw [beq_eq_false_iff_ne]; omega
        dsimp only [Option.map]
        rw [this]
        simp
theorem pre35 (l : List UInt8) : Lib.hasPrefix l [35] = decide (l.head? = some 35) := by
  unfold Lib.hasPrefix
  rw [Bool.eq_iff_iff]
  cases l with
  | nil => simp [List.isPrefixOf]
  | cons c l => simp [List.isPrefixOf]; exact ⟨Eq.symm, Eq.symm⟩
theorem pre47 (l : List UInt8) (q : UInt8) : Lib.hasPrefix l [47, q] = decide (l.head? = some 47 ∧ (l.drop 1).head? = some q) := by
  unfold Lib.hasPrefix
  rw [Bool.eq_iff_iff]
  cases l with
  | nil => simp [List.isPrefixOf]
  | cons c l => cases l with
    | nil => simp [List.isPrefixOf]
    | cons d l => simp [List.isPrefixOf]; exact ⟨fun h => ⟨h.1.symm, h.2.symm⟩, fun h => ⟨h.1.symm, h.2.symm⟩⟩
theorem gap_is (l : List UInt8) : gapS l = if (Lib.hasPrefix l [35] || Lib.hasPrefix l [47, 47]) then (lineN l, true)
    else if Lib.hasPrefix l [47, 42] then (match noteN (l.drop 2) with | none => (0, false) | some n => (n + 4, true)) else (spanN isWhS l, true) := by
  rw [pre35, pre47, pre47]
  cases l with
  | nil => rfl
  | cons c r =>
    unfold gapS
    simp
    split
    · rfl
    · split
      · cases noteN r.tail <;> rfl
      · rfl

set_option maxRecDepth 100000 in
set_option maxHeartbeats 800000 in
theorem lineLength_any (s : ByteArray) (l : List UInt8) (w : World) (hl : Tx s l) (hs : (l.length : Int) ≤ 100000) :
    Calls Try.prog 23 #[.string s] w fun e w' => e = .returned (.int .i64 (lineN l : Nat)) ∧ w' = w := by
  have HL := Lib.hid hl
  have hz : s.size = l.length := hl.size
  have HI : Hid (Lib.indexByte s.data.toList (10 : Int).toNat.toUInt8 = if lineN l < l.length then ((lineN l : Nat) : Int) else -1) := by
    unfold Hid; rw [show s.data.toList = l from hl]; exact index_other l 10
  obtain ⟨N, hN⟩ : ∃ N, lineN l = N := ⟨_, rfl⟩
  have hle : N ≤ l.length := by rw [← hN]; exact spanN_le _ _
  rw [hN] at HI ⊢
  clear hl hN
  go_enter Try.func23, Try.ntmps23
  go_wp2_with fail
  refine (Try.strings_IndexByte s 10 w).mono ?_; rintro e w' ⟨rfl, rfl⟩
  rw [HI.out]
  by_cases hlt : N < l.length
  · rw [if_pos hlt]
    go_wp2_with fail
    go_ret
    exact ⟨rfl, rfl⟩
  · rw [if_neg hlt]
    have hE : (s.size : Int) = (N : Int) := by omega
    go_wp2_with fail
    go_ret
    exact ⟨congrArg (fun z => Ending.returned (Value.int .i64 z)) (by omega), rfl⟩

set_option maxRecDepth 100000 in
set_option maxHeartbeats 800000 in
theorem gap_any (s : ByteArray) (l : List UInt8) (w : World) (hl : Tx s l) (hs : (l.length : Int) ≤ 100000) (hm : MaxC w) :
    Calls Try.prog 13 #[.string s] w fun e w' => e = .returned (.tuple #[.int .i64 ((gapS l).1 : Nat), .bool (gapS l).2]) ∧ w' = w := by
  have HL := Lib.hid hl
  have HZ := Lib.hid hl.size
  have hz : (s.size : Int) ≤ 100000 := by rw [hl.size]; exact hs
  have HD : Hid (s.data.toList = l) := hl
  have HG := Lib.hid (gap_is l)
  have HM := Lib.hid hm
  obtain ⟨b1, hb1⟩ : ∃ b, Lib.hasPrefix l [35] = b := ⟨_, rfl⟩
  obtain ⟨b2, hb2⟩ : ∃ b, Lib.hasPrefix l [47, 47] = b := ⟨_, rfl⟩
  obtain ⟨b3, hb3⟩ : ∃ b, Lib.hasPrefix l [47, 42] = b := ⟨_, rfl⟩
  rw [hb1, hb2, hb3] at HG
  have h2 : b3 = true → (2 : Int) ≤ s.size := by
    intro h
    rw [h] at hb3
    rw [pre47] at hb3
    have := of_decide_eq_true hb3
    cases l with
    | nil => simp at this
    | cons c l => cases l with
      | nil => simp at this
      | cons d l => rw [HZ.out]; simp; omega
  have H1 := Lib.hid hb1
  have H2 := Lib.hid hb2
  have H3 := Lib.hid hb3
  clear hl hm hb1 hb2 hb3
  go_enter Try.func13, Try.ntmps13
  go_wp2_with fail
  refine (Try.strings_HasPrefix s ⟨#[35]⟩ w).mono ?_; rintro e w' ⟨rfl, rfl⟩
  rw [HD.out, show (ByteArray.mk #[35]).data.toList = [35] from rfl, H1.out]
  have hg := HG.out
  cases b1
  · go_wp2_with fail
    refine (Try.strings_HasPrefix s ⟨#[47, 47]⟩ w').mono ?_; rintro e w' ⟨rfl, rfl⟩
    rw [HD.out, show (ByteArray.mk #[47, 47]).data.toList = [47, 47] from rfl, H2.out]
    cases b2
    · go_wp2_with fail
      refine (Try.strings_HasPrefix s ⟨#[47, 42]⟩ w').mono ?_; rintro e w' ⟨rfl, rfl⟩
      rw [HD.out, show (ByteArray.mk #[47, 42]).data.toList = [47, 42] from rfl, H3.out]
      rw [if_neg (by decide)] at hg
      cases b3
      · rw [if_neg (by decide)] at hg
        have HG2 := Lib.hid hg
        clear hg HG h2
        go_wp2_with fail
        refine (span_any _ isWhS such_white s l _ HL.out (by omega)).mono ?_; rintro e w' ⟨rfl, rfl⟩
        obtain ⟨N, HN⟩ : ∃ N, Hid (spanN isWhS l = N) := ⟨_, rfl⟩
        rw [HN.out]
        go_wp2_with fail
        go_ret2
        rw [HG2.out, HN.out]
        exact ⟨rfl, rfl⟩
      · rw [if_pos rfl] at hg
        have h2' := h2 rfl
        have HG2 := Lib.hid hg
        obtain ⟨u, hu, HU⟩ := HL.out.from_ 2
        clear hg HG h2
        go_wp2_with fail
        obtain ⟨m, hmm⟩ := HM.out
        refine (Try.strings_Index u ⟨#[42, 47]⟩ m _ (by rw [HU.out.size]; simp; omega) hmm).mono ?_; rintro e w' ⟨rfl, rfl⟩
        have hI := index_note (l.drop 2)
        rw [show u.data.toList = l.drop 2 from HU.out, show (ByteArray.mk #[42, 47]).data.toList = [42, 47] from rfl, hI]
        clear hI
        cases hn : noteN (l.drop 2) with
        | none =>
          rw [hn] at HG2
          dsimp only
          go_wp2_with fail
          go_ret2
          rw [HG2.out]
          exact ⟨rfl, rfl⟩
        | some n =>
          rw [hn] at HG2
          have hnl : (n : Int) ≤ 100000 := by
            have := noteN_lt _ _ hn
            simp at this; omega
          have HN := Lib.hid hn
          clear hn
          dsimp only
          go_wp2_with fail
          go_ret2
          rw [HG2.out]
          exact ⟨rfl, rfl⟩
    · rw [if_pos (by decide)] at hg
      have HG2 := Lib.hid hg
      clear hg HG h2
      go_wp2_with fail
      refine (lineLength_any s l _ HL.out hs).mono ?_; rintro e w' ⟨rfl, rfl⟩
      obtain ⟨N, HN⟩ : ∃ N, Hid (lineN l = N) := ⟨_, rfl⟩
      rw [HN.out]
      go_wp2_with fail
      go_ret2
      rw [HG2.out, HN.out]
      exact ⟨rfl, rfl⟩
  · rw [if_pos (by simp)] at hg
    have HG2 := Lib.hid hg
    clear hg HG h2
    go_wp2_with fail
    refine (lineLength_any s l _ HL.out hs).mono ?_; rintro e w' ⟨rfl, rfl⟩
    obtain ⟨N, HN⟩ : ∃ N, Hid (lineN l = N) := ⟨_, rfl⟩
    rw [HN.out]
    go_wp2_with fail
    go_ret2
    rw [HG2.out, HN.out]
    exact ⟨rfl, rfl⟩
end Go.Proofs.Ytiefheocomkfiaa
