/- Texts as lists of bytes. Plain lemmas. -/
import Derived.Test.YtjeadmndnbggmaaProg
import Derived.Test.YtjeadmndnbggmaaOwnG
import Derived.Test.YtjeadmndnbggmaaBlk
import Derived.WalkSpells
import Derived.Deep.QuietTactic
import Derived.BigQuiet
import Derived.Lib.Strings
set_option linter.unusedVariables false
set_option linter.unusedSimpArgs false
namespace Go.Proofs.Ytjeadmndnbggmaa
open Go.RowKit

/-- the bytes of a text -/
def Tx (s : ByteArray) (l : List UInt8) : Prop := s.data.toList = l
theorem Tx.size {s : ByteArray} {l : List UInt8} (h : Tx s l) : s.size = l.length := by rw [Lib.size_eq, show s.data.toList = l from h]
theorem Tx.eq {s : ByteArray} {l : List UInt8} (h : Tx s l) : s = ⟨l.toArray⟩ := by rw [← show s.data.toList = l from h, Lib.mk_data]
theorem Tx.toL {s : ByteArray} {l : List UInt8} (h : Tx s l) : s.toList = l := by rw [Lib.toList_data]; exact h
theorem Tx.of (l : List UInt8) : Tx ⟨l.toArray⟩ l := by unfold Tx; rfl
theorem Tx.nil {s : ByteArray} (h : Tx s []) : s.toList = [] ∧ s.size = 0 := ⟨h.toL, h.size⟩
theorem Tx.cons {s : ByteArray} {c : UInt8} {l : List UInt8} (h : Tx s (c :: l)) : ∃ (hp : 0 < s.size) (t : ByteArray), s[0]'hp = c ∧ s.extract 1 s.size = t ∧ Tx t l ∧ ¬ s.toList = [] ∧ s.toList.isEmpty = false := by
  have hz : s.size = l.length + 1 := by rw [h.size]; rfl
  refine ⟨by omega, s.extract 1 s.size, ?_, rfl, ?_, by rw [h.toL]; simp, by rw [h.toL]; rfl⟩
  · obtain ⟨⟨d⟩⟩ := s
    obtain rfl : d = c :: l := h
    rfl
  · unfold Tx
    rw [Lib.extract_data, show s.data.toList = c :: l from h, hz]
    simp
theorem Tx.idx {s : ByteArray} {l : List UInt8} (h : Tx s l) (i : Nat) (hi : i < l.length) : ∃ hp : i < s.size, s[i]'hp = l[i] := by
  refine ⟨by rw [h.size]; exact hi, ?_⟩
  obtain ⟨⟨d⟩⟩ := s
  obtain rfl : d = l := h
  rfl

theorem Tx.from_ {s : ByteArray} {l : List UInt8} (h : Tx s l) (n : Nat) : ∃ u, s.extract n s.size = u ∧ Hid (Tx u (l.drop n)) :=
  ⟨_, rfl, by unfold Hid Tx; rw [Lib.extract_data, show s.data.toList = l from h, h.size, List.take_of_length_le (by simp)]⟩
theorem Tx.upto {s : ByteArray} {l : List UInt8} (h : Tx s l) (n : Nat) : ∃ u, s.extract 0 n = u ∧ Hid (Tx u (l.take n)) :=
  ⟨_, rfl, by unfold Hid Tx; rw [Lib.extract_data, show s.data.toList = l from h]; simp⟩
theorem Tx.mid {s : ByteArray} {l : List UInt8} (h : Tx s l) (a n : Nat) : ∃ u, s.extract a n = u ∧ Hid (Tx u ((l.take n).drop a)) :=
  ⟨_, rfl, by unfold Hid Tx; rw [Lib.extract_data, show s.data.toList = l from h, List.drop_take]⟩

theorem Tx.app {s t : ByteArray} {a b : List UInt8} (h : Tx s a) (g : Tx t b) : Tx (s ++ t) (a ++ b) := by
  unfold Tx at *
  rw [← h, ← g]
  simp
end Go.Proofs.Ytjeadmndnbggmaa
