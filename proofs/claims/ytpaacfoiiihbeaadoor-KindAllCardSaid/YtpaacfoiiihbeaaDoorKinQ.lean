/- Names as parts between full stops. Plain lemmas. -/
import Derived.Test.YtpaacfoiiihbeaaDoorKinP
import Derived.Lib.IndexMore
set_option linter.unusedVariables false
set_option linter.unusedSimpArgs false
set_option linter.unnecessarySimpa false
namespace Go.Proofs.YtpaacfoiiihbeaaDoor

def isPartS : List UInt8 → Bool
  | [] => false
  | c :: _ => !isDig c
theorem partN_le (l : List UInt8) : partN l ≤ l.length := spanN_le _ l
theorem partN_cons (c : UInt8) (l : List UInt8) : partN (c :: l) = if c = 46 then 0 else partN l + 1 := by
  have e : partN (c :: l) = if decide (c ≠ 46) = true then partN l + 1 else 0 := rfl
  rw [e]
  by_cases h : c = 46 <;> simp [h]
theorem index_dot (l : List UInt8) : Lib.index l [46] = if partN l < l.length then (partN l : Int) else -1 := by
  induction l with
  | nil => rfl
  | cons c l ih =>
    unfold Lib.index
    rw [ih, partN_cons]
    by_cases h : c = 46
    · subst h; simp [List.isPrefixOf]
    · have h' : ([46].isPrefixOf (c :: l)) = false := by simp [List.isPrefixOf]; exact fun e => h e.symm
      rw [if_neg (by simp [h'])]
      have hl := partN_le l
      by_cases hlt : partN l < l.length
      · rw [if_pos hlt, if_neg (by simp), if_neg h, if_pos (by simpa using hlt)]; simp
      · rw [if_neg hlt, if_pos (by simp), if_neg h, if_neg (by simpa using hlt)]
theorem cut_dot (l : List UInt8) : Lib.cut l [46] = (l.take (partN l), if partN l < l.length then l.drop (partN l + 1) else [], decide (partN l < l.length)) := by
  unfold Lib.cut
  rw [index_dot]
  have hl := partN_le l
  by_cases hlt : partN l < l.length
  · rw [if_pos hlt, if_pos (by simp), if_pos hlt, decide_eq_true hlt]; simp
  · rw [if_neg hlt, if_neg (by simp), if_neg hlt, decide_eq_false hlt, List.take_of_length_le (by omega)]
theorem farF_false (l : List UInt8) : farF false l = if partN l < l.length then farF true (l.drop (partN l + 1)) else true := by
  induction l with
  | nil => rfl
  | cons c l ih =>
    have e : farF false (c :: l) = farF (decide (c = 46)) l := rfl
    rw [e, partN_cons]
    by_cases h : c = 46
    · subst h; rw [if_pos rfl, if_pos (by simp)]; rfl
    · rw [decide_eq_false h, ih, if_neg h, List.length_cons, List.drop_succ_cons]
      by_cases h2 : partN l < l.length
      · rw [if_pos h2, if_pos (by omega)]
      · rw [if_neg h2, if_neg (by omega)]
theorem farF_true (l : List UInt8) : farF true l = (isPartS (l.take (partN l)) && (if partN l < l.length then farF true (l.drop (partN l + 1)) else true)) := by
  cases l with
  | nil => rfl
  | cons c l =>
    have e : farF true (c :: l) = ((!isDig c && decide (c ≠ 46)) && farF false l) := rfl
    rw [e, partN_cons]
    by_cases h : c = 46
    · subst h; rw [if_pos rfl]; rfl
    · rw [farF_false, if_neg h, List.length_cons, List.drop_succ_cons, List.take_succ_cons]
      have e2 : isPartS (c :: l.take (partN l)) = !isDig c := rfl
      rw [e2, show decide (c ≠ 46) = true from decide_eq_true h, Bool.and_true]
      by_cases h2 : partN l < l.length
      · rw [if_pos h2, if_pos (by omega)]
      · rw [if_neg h2, if_neg (by omega)]
end Go.Proofs.YtpaacfoiiihbeaaDoor
