/- The contracts of dec's cutting of texts: a sign, digits. -/
import Derived.Test.YtpaacfoiiihbeaaGreatProg
import Derived.Test.YtpaacfoiiihbeaaGreatMBase
import Derived.Test.YtpaacfoiiihbeaaGreatDecP
import Derived.WalkSpells
import Derived.Deep.QuietTactic
import Derived.BigQuiet
import Derived.Lib.Strings
namespace Go.Proofs.YtpaacfoiiihbeaaGreat
open Go.RowKit

/-- the bytes of a text -/
def Tx (s : ByteArray) (l : List UInt8) : Prop := s.data.toList = l
theorem Tx.size {s : ByteArray} {l : List UInt8} (h : Tx s l) : s.size = l.length := by rw [Lib.size_eq, show s.data.toList = l from h]
theorem Tx.eq {s : ByteArray} {l : List UInt8} (h : Tx s l) : s = ⟨l.toArray⟩ := by rw [← show s.data.toList = l from h, Lib.mk_data]
theorem Tx.toL {s : ByteArray} {l : List UInt8} (h : Tx s l) : s.toList = l := by rw [Lib.toList_data]; exact h
theorem Tx.of (l : List UInt8) : Tx ⟨l.toArray⟩ l := by unfold Tx; rfl
theorem Tx.nil {s : ByteArray} (h : Tx s []) : s.toList = [] ∧ s.size = 0 := ⟨h.toL, h.size⟩
theorem Tx.cons {s : ByteArray} {c : UInt8} {l : List UInt8} (h : Tx s (c :: l)) : ∃ (hp : 0 < s.size) (t : ByteArray), s[0]'hp = c ∧ s.extract 1 s.size = t ∧ Tx t l ∧ ¬ s.toList = [] ∧ s.toList.isEmpty = false := by
  have hz : s.size = l.length + 1 := by rw [h.size]; rfl
  refine ⟨by omega, s.extract 1 s.size, ?_, rfl, ?_, by rw [h.toL]; simp, by rw [h.toL]; rfl⟩
  · obtain ⟨⟨d⟩⟩ := s
    obtain rfl : d = c :: l := h
    rfl
  · unfold Tx
    rw [Lib.extract_data, show s.data.toList = c :: l from h, hz]
    simp
theorem Tx.idx {s : ByteArray} {l : List UInt8} (h : Tx s l) (i : Nat) (hi : i < l.length) : ∃ hp : i < s.size, s[i]'hp = l[i] := by
  refine ⟨by rw [h.size]; exact hi, ?_⟩
  obtain ⟨⟨d⟩⟩ := s
  obtain rfl : d = l := h
  rfl

set_option maxRecDepth 100000 in
set_option maxHeartbeats 800000 in
theorem cutSign_any (s : ByteArray) (l : List UInt8) (w : World) (hl : Tx s l) (hs : (l.length : Int) ≤ 10000) :
    Calls Tryz.prog 110 #[.string s] w fun e w' => ∃ t : ByteArray, e = .returned (.tuple #[.bool (signS l).1, .string t]) ∧ Hid (Tx t (signS l).2) ∧ Below w.heap.size w w' := by
  cases l with
  | nil =>
    have e1 := hl.nil.1
    have HL := Lib.hid hl
    clear hl
    go_enter Tryz.func110, Tryz.ntmps110
    go_wp2_with fail
    go_ret2
    exact ⟨s, rfl, HL, Below.refl _ _⟩
  | cons c l =>
    obtain ⟨hp, t, e0, e1, ht, e2, e3⟩ := hl.cons
    have HT := Lib.hid ht
    have HL := Lib.hid hl
    clear ht hl
    by_cases c43 : c.toNat = 43
    · have b1 : ((c.toNat : Int) == 43) = true := by rw [beq_iff_eq]; omega
      have b2 : ((c.toNat : Int) == 45) = false := by rw [beq_eq_false_iff_ne]; omega
      have HC : Hid (signS (c :: l) = (false, l)) := by unfold Hid; simp [signS, c43]
      clear c43
      go_enter Tryz.func110, Tryz.ntmps110
      go_wp2_with fail
      go_quiet (fail)
      go_wp2_with fail
      go_ret2
      rw [HC.out]
      exact ⟨t, rfl, HT, ⟨rfl, rfl, rfl, Nat.le_refl _, fun _ _ => rfl⟩⟩
    · have b1 : ((c.toNat : Int) == 43) = false := by rw [beq_eq_false_iff_ne]; omega
      by_cases c45 : c.toNat = 45
      · have b2 : ((c.toNat : Int) == 45) = true := by rw [beq_iff_eq]; omega
        have HC : Hid (signS (c :: l) = (true, l)) := by unfold Hid; simp [signS, c45]
        clear c43 c45
        go_enter Tryz.func110, Tryz.ntmps110
        go_wp2_with fail
        go_quiet (fail)
        go_wp2_with fail
        go_ret2
        rw [HC.out]
        exact ⟨t, rfl, HT, ⟨rfl, rfl, rfl, Nat.le_refl _, fun _ _ => rfl⟩⟩
      · have b2 : ((c.toNat : Int) == 45) = false := by rw [beq_eq_false_iff_ne]; omega
        have HC : Hid (signS (c :: l) = (false, c :: l)) := by unfold Hid; simp [signS, c43, c45]
        clear c43 c45
        go_enter Tryz.func110, Tryz.ntmps110
        go_wp2_with fail
        go_ret2
        rw [HC.out]
        exact ⟨s, rfl, HL, Below.refl _ _⟩

/-- digits ahead -/
def spanD : List UInt8 → List UInt8 × List UInt8
  | [] => ([], [])
  | c :: s => if isDig c then (c :: (spanD s).1, (spanD s).2) else ([], c :: s)
theorem spanD_app (l : List UInt8) : l = (spanD l).1 ++ (spanD l).2 := by
  induction l with
  | nil => rfl
  | cons c l ih => unfold spanD; split
                   · simp only [List.cons_append]; rw [← ih]
                   · rfl
theorem spanD_is (a b : List UInt8) (ha : ∀ c ∈ a, isDig c = true) (hb : b = [] ∨ ∃ c t, b = c :: t ∧ isDig c = false) : spanD (a ++ b) = (a, b) := by
  induction a with
  | nil =>
    rcases hb with rfl | ⟨c, t, rfl, hc⟩
    · rfl
    · simp [spanD, hc]
  | cons c a ih =>
    rw [List.cons_append, spanD, if_pos (ha c (List.mem_cons_self ..)), ih (fun d hd => ha d (List.mem_cons_of_mem _ hd))]
theorem isDig_iff (c : UInt8) : isDig c = true ↔ 48 ≤ c.toNat ∧ c.toNat ≤ 57 := by unfold isDig; simp

set_option maxRecDepth 100000 in
set_option maxHeartbeats 800000 in
theorem cutDigits_any (s : ByteArray) (l : List UInt8) (w : World) (hl : Tx s l) (hs : (l.length : Int) ≤ 10000) :
    Calls Tryz.prog 111 #[.string s] w fun e w' => ∃ t u : ByteArray, e = .returned (.tuple #[.string t, .string u]) ∧ Hid (Tx t (spanD l).1) ∧ Hid (Tx u (spanD l).2) ∧ Below w.heap.size w w' := by
  have HL := Lib.hid hl
  have hz : (s.size : Int) ≤ 10000 := by rw [hl.size]; exact hs
  clear hl
  go_enter Tryz.func111, Tryz.ntmps111
  go_wp2_with fail
  go_loopw [4] (fun v wr => ∃ (n : Nat), v = .int .i64 n ∧ n ≤ l.length ∧ Hid (∀ c ∈ l.take n, isDig c = true) ∧ Below w.heap.size w wr) (fun v _ => (10000 - intOf v).toNat)
  case atStart => exact ⟨0, rfl, Nat.zero_le _, by unfold Hid; simp, Below.refl _ _⟩
  case round =>
    obtain ⟨n, rfl, hn, HA, hb⟩ := hrel
    obtain ⟨t, e1, ht⟩ : ∃ t, s.extract 0 n = t ∧ Hid (Tx t (l.take n)) := ⟨_, rfl, by unfold Hid Tx; rw [Lib.extract_data, show s.data.toList = l from HL.out]; simp⟩
    obtain ⟨u, e2, hu⟩ : ∃ u, s.extract n s.size = u ∧ Hid (Tx u (l.drop n)) := ⟨_, rfl, by unfold Hid Tx; rw [Lib.extract_data, show s.data.toList = l from HL.out, HL.out.size, List.take_of_length_le (by simp)]⟩
    have hfin : (l.drop n = [] ∨ ∃ c v, l.drop n = c :: v ∧ isDig c = false) → spanD l = (l.take n, l.drop n) := fun h => by
      have := spanD_is (l.take n) (l.drop n) HA.out h
      rwa [List.take_append_drop] at this
    have HFIN := Lib.hid hfin
    clear hfin
    by_cases hlt : n < l.length
    · obtain ⟨hp, e0⟩ := HL.out.idx n hlt
      obtain ⟨c, hc⟩ : ∃ c, l[n] = c := ⟨_, rfl⟩
      rw [hc] at e0
      have g1 : decide ((n : Int) < (s.size : Int)) = true := decide_eq_true (by omega)
      have hdr : l.drop n = c :: l.drop (n + 1) := by rw [← hc]; exact List.drop_eq_getElem_cons hlt
      have HDR := Lib.hid hdr
      have htk : l.take (n + 1) = l.take n ++ [c] := by rw [← hc]; exact (List.take_append_getElem hlt).symm
      have HTK := Lib.hid htk
      clear hdr htk hc
      by_cases h48 : 48 ≤ c.toNat
      · have g2 : decide ((48 : Int) ≤ (c.toNat : Int)) = true := decide_eq_true (by omega)
        by_cases h57 : c.toNat ≤ 57
        · have g3 : decide ((c.toNat : Int) ≤ (57 : Int)) = true := decide_eq_true (by omega)
          have HD : Hid (isDig c = true) := (isDig_iff c).2 ⟨h48, h57⟩
          clear h48 h57
          go_wp2_with fail
          go_roundw
          case rel =>
            refine ⟨n + 1, by go_num, hlt, ?_, hb⟩
            unfold Hid
            intro d hd
            rw [HTK.out] at hd
            rcases List.mem_append.1 hd with h | h
            · exact HA.out d h
            · rw [List.mem_singleton.1 h]; exact HD.out
          case measure => simp [intOf]; omega
        · have g3 : decide ((c.toNat : Int) ≤ (57 : Int)) = false := decide_eq_false (by omega)
          have HD : Hid (isDig c = false) := by unfold Hid; rw [← Bool.not_eq_true, isDig_iff]; omega
          clear h48 h57
          go_wp2_with fail
          go_quiet (fail)
          go_wp2_with fail
          go_ret2
          have hf := HFIN.out (.inr ⟨c, _, HDR.out, HD.out⟩)
          rw [hf]
          exact ⟨t, u, rfl, ht, hu, ⟨hb.os, hb.tape, hb.output, hb.size, hb.block⟩⟩
      · have g2 : decide ((48 : Int) ≤ (c.toNat : Int)) = false := decide_eq_false (by omega)
        have HD : Hid (isDig c = false) := by unfold Hid; rw [← Bool.not_eq_true, isDig_iff]; omega
        clear h48
        go_wp2_with fail
        go_quiet (fail)
        go_wp2_with fail
        go_ret2
        have hf := HFIN.out (.inr ⟨c, _, HDR.out, HD.out⟩)
        rw [hf]
        exact ⟨t, u, rfl, ht, hu, ⟨hb.os, hb.tape, hb.output, hb.size, hb.block⟩⟩
    · have g1 : ¬ n < s.size := by rw [HL.out.size]; omega
      have HDR : Hid (l.drop n = []) := by unfold Hid; rw [List.drop_eq_nil_iff]; omega
      have hle : n ≤ s.size := by rw [HL.out.size]; omega
      go_wp2_with fail
      go_quiet (fail)
      go_wp2_with fail
      go_ret2
      have hf := HFIN.out (.inl HDR.out)
      rw [hf]
      exact ⟨t, u, rfl, ht, hu, ⟨hb.os, hb.tape, hb.output, hb.size, hb.block⟩⟩
end Go.Proofs.YtpaacfoiiihbeaaGreat
