/- The text of types, step by step. Plain lemmas. -/
import Derived.Test.YtpaacfoiiihbeaaDoorKinQ
set_option linter.unusedVariables false
set_option linter.unusedSimpArgs false
set_option linter.unnecessarySimpa false
namespace Go.Proofs.YtpaacfoiiihbeaaDoor

/-- what stands behind the word of a list, a set, a map -/
def innT (par : List UInt8 → Nat × Ty × Nat) (k : Nat) (l : List UInt8) : Nat × Ty × Nat :=
  if l.head? ≠ some 60 then noTy 2
  else if (par (l.drop 1)).1 ≠ 0 then noTy (par (l.drop 1)).1
  else if k = 13 then
    if (l.drop (1 + (par (l.drop 1)).2.2)).head? ≠ some 44 then noTy 2
    else if (par (l.drop (1 + (par (l.drop 1)).2.2 + 1))).1 ≠ 0 then noTy (par (l.drop (1 + (par (l.drop 1)).2.2 + 1))).1
    else if (l.drop (1 + (par (l.drop 1)).2.2 + 1 + (par (l.drop (1 + (par (l.drop 1)).2.2 + 1))).2.2)).head? ≠ some 62 then noTy 2
    else (0, .mp (par (l.drop 1)).2.1 (par (l.drop (1 + (par (l.drop 1)).2.2 + 1))).2.1, 1 + (par (l.drop 1)).2.2 + 1 + (par (l.drop (1 + (par (l.drop 1)).2.2 + 1))).2.2 + 1)
  else if (l.drop (1 + (par (l.drop 1)).2.2)).head? ≠ some 62 then noTy 2
  else (0, .l1 k (par (l.drop 1)).2.1, 1 + (par (l.drop 1)).2.2 + 1)
/-- what stands behind a word of a kind -/
def witT (r k : Nat) (l : List UInt8) : Nat × Ty × Nat :=
  if k ≠ 13 ∧ k ≠ 14 ∧ k ≠ 15 then (0, .bs k, 0)
  else match r with
    | 0 => noTy 6
    | r + 1 => innT (parT r) k l
/-- n bytes more ahead -/
def addT (n : Nat) (p : Nat × Ty × Nat) : Nat × Ty × Nat := if p.1 ≠ 0 then noTy p.1 else (0, p.2.1, n + p.2.2)
def nameT (w : List UInt8) : Nat × Ty × Nat := if nameOk w then (0, .nm w, w.length) else noTy 2
theorem wl (l : List UInt8) : (l.take (spanN isNmS l)).length = spanN isNmS l := by
  have := spanN_le isNmS l
  simp; omega
theorem parT_word (r : Nat) (l : List UInt8) : parT r l = if kindW (l.take (spanN isNmS l)) = 0 then nameT (l.take (spanN isNmS l)) else addT (spanN isNmS l) (witT r (kindW (l.take (spanN isNmS l))) (l.drop (spanN isNmS l))) := by
  unfold nameT
  rw [wl]
  cases r with
  | zero =>
    unfold parT witT
    generalize kindW (l.take (spanN isNmS l)) = k
    by_cases h0 : k = 0
    · rw [if_pos h0, if_pos h0]
    · rw [if_neg h0, if_neg h0]
      by_cases h1 : k ≠ 13 ∧ k ≠ 14 ∧ k ≠ 15
      · rw [if_pos h1, if_pos h1]; rfl
      · rw [if_neg h1, if_neg h1]; rfl
  | succ r =>
    unfold parT witT
    generalize kindW (l.take (spanN isNmS l)) = k
    generalize spanN isNmS l = N
    by_cases h0 : k = 0
    · rw [if_pos h0, if_pos h0]
    · rw [if_neg h0, if_neg h0]
      by_cases h1 : k ≠ 13 ∧ k ≠ 14 ∧ k ≠ 15
      · rw [if_pos h1, if_pos h1]; rfl
      · rw [if_neg h1, if_neg h1]
        dsimp only
        unfold innT
        rw [List.drop_drop]
        generalize hp : parT r (l.drop (N + 1)) = p
        obtain ⟨pe, pt, pn⟩ := p
        dsimp only
        by_cases g1 : (l.drop N).head? ≠ some 60
        · rw [if_pos g1, if_pos g1]; rfl
        · rw [if_neg g1, if_neg g1]
          by_cases g2 : pe ≠ 0
          · rw [if_pos g2, if_pos g2]
            unfold addT noTy
            rw [if_pos g2]
          · rw [if_neg g2, if_neg g2]
            have e1 : (l.drop N).drop (1 + pn) = l.drop (N + 1 + pn) := by rw [List.drop_drop]; congr 1; omega
            have e2 : (l.drop N).drop (1 + pn + 1) = l.drop (N + 1 + pn + 1) := by rw [List.drop_drop]; congr 1; omega
            rw [e1, e2]
            by_cases h13 : k = 13
            · rw [if_pos h13, if_pos h13]
              generalize hq : parT r (l.drop (N + 1 + pn + 1)) = q
              obtain ⟨qe, qt, qn⟩ := q
              dsimp only
              by_cases g3 : (l.drop (N + 1 + pn)).head? ≠ some 44
              · rw [if_pos g3, if_pos g3]; rfl
              · rw [if_neg g3, if_neg g3]
                by_cases g4 : qe ≠ 0
                · rw [if_pos g4, if_pos g4]
                  unfold addT noTy
                  rw [if_pos g4]
                · rw [if_neg g4, if_neg g4]
                  have e3 : (l.drop N).drop (1 + pn + 1 + qn) = l.drop (N + 1 + pn + 1 + qn) := by rw [List.drop_drop]; congr 1; omega
                  rw [e3]
                  by_cases g5 : (l.drop (N + 1 + pn + 1 + qn)).head? ≠ some 62
                  · rw [if_pos g5, if_pos g5]; rfl
                  · rw [if_neg g5, if_neg g5]
                    unfold addT
                    rw [if_neg (by simp)]
                    congr 2
                    dsimp only
                    omega
            · rw [if_neg h13, if_neg h13]
              by_cases g3 : (l.drop (N + 1 + pn)).head? ≠ some 62
              · rw [if_pos g3, if_pos g3]; rfl
              · rw [if_neg g3, if_neg g3]
                unfold addT
                rw [if_neg (by simp)]
                congr 2
                dsimp only
                omega
theorem names_len (t : Ty) (h : wfT t) : (namesT t).length ≤ (showT t).length := by
  induction t with
  | nm s =>
    cases s with
    | nil => exact absurd h.1 (by decide)
    | cons c s => simp [namesT, showT]
  | bs k => simp [namesT]
  | l1 k a ih => have := ih h.2; simp [namesT, showT]; omega
  | mp a b iha ihb => have := iha h.1; have := ihb h.2; simp [namesT, showT]; omega
theorem parT_names (r : Nat) (l : List UInt8) (h : (parT r l).1 = 0) : (namesT (parT r l).2.1).length ≤ (parT r l).2.2 ∧ (parT r l).2.2 ≤ l.length := by
  obtain ⟨h1, -, h3, h4⟩ := parT_sound r l h
  refine ⟨?_, h3⟩
  have := names_len _ h1
  rw [← h4] at this
  simp at this
  omega
end Go.Proofs.YtpaacfoiiihbeaaDoor
