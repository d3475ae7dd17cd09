/- The text of types: as a tree, and as a function of its bytes. Plain lemmas. -/
import Derived.Test.YtpaacfoiiihbeaaDoorTokP
set_option linter.unusedVariables false
set_option linter.unusedSimpArgs false
set_option linter.unnecessarySimpa false
namespace Go.Proofs.YtpaacfoiiihbeaaDoor

/-- the words of kinds -/
def wordK (k : Nat) : List UInt8 :=
  if k = 2 then [98, 111, 111, 108] else if k = 3 then [105, 56] else if k = 4 then [100, 111, 117, 98, 108, 101]
  else if k = 6 then [105, 49, 54] else if k = 8 then [105, 51, 50] else if k = 10 then [105, 54, 52]
  else if k = 11 then [115, 116, 114, 105, 110, 103] else if k = 13 then [109, 97, 112] else if k = 14 then [115, 101, 116]
  else if k = 15 then [108, 105, 115, 116] else if k = 16 then [98, 105, 110, 97, 114, 121] else []
def kindW (l : List UInt8) : Nat :=
  if l = [98, 111, 111, 108] then 2 else if l = [105, 56] then 3 else if l = [100, 111, 117, 98, 108, 101] then 4
  else if l = [105, 49, 54] then 6 else if l = [105, 51, 50] then 8 else if l = [105, 54, 52] then 10
  else if l = [115, 116, 114, 105, 110, 103] then 11 else if l = [109, 97, 112] then 13 else if l = [115, 101, 116] then 14
  else if l = [108, 105, 115, 116] then 15 else if l = [98, 105, 110, 97, 114, 121] then 16 else 0
def isKw (k : Nat) : Prop := k = 2 ∨ k = 3 ∨ k = 4 ∨ k = 6 ∨ k = 8 ∨ k = 10 ∨ k = 11 ∨ k = 13 ∨ k = 14 ∨ k = 15 ∨ k = 16
/-- the base words alone -/
def isBs (k : Nat) : Prop := k = 2 ∨ k = 3 ∨ k = 4 ∨ k = 6 ∨ k = 8 ∨ k = 10 ∨ k = 11 ∨ k = 16
theorem kindW_is (l : List UInt8) : kindW l = 0 ∨ (isKw (kindW l) ∧ l = wordK (kindW l)) := by
  unfold kindW
  repeat' split
  all_goals (first | exact .inl rfl | (subst l; exact .inr ⟨by simp [isKw], by simp [wordK]⟩))
theorem kindW_word (k : Nat) (h : isKw k) : kindW (wordK k) = k := by
  rcases h with rfl | rfl | rfl | rfl | rfl | rfl | rfl | rfl | rfl | rfl | rfl <;> decide
theorem wordK_nm (k : Nat) (h : isKw k) : ∀ c ∈ wordK k, isNmS c = true := by
  rcases h with rfl | rfl | rfl | rfl | rfl | rfl | rfl | rfl | rfl | rfl | rfl <;> decide
theorem wordK_len (k : Nat) (h : isKw k) : 2 ≤ (wordK k).length ∧ (wordK k).length ≤ 6 := by
  rcases h with rfl | rfl | rfl | rfl | rfl | rfl | rfl | rfl | rfl | rfl | rfl <;> decide

/-- parts with full stops between; b: a part begins here -/
def farF : Bool → List UInt8 → Bool
  | b, [] => !b
  | true, c :: r => (!isDig c && decide (c ≠ 46)) && farF false r
  | false, c :: r => farF (decide (c = 46)) r
/-- the first part -/
def partN (l : List UInt8) : Nat := spanN (fun c => decide (c ≠ 46)) l
def nameOk (l : List UInt8) : Bool := farF true l && decide (kindW (l.take (partN l)) = 0)

inductive Ty where
  | nm (s : List UInt8)
  | bs (k : Nat)
  | l1 (k : Nat) (a : Ty)
  | mp (a b : Ty)

def showT : Ty → List UInt8
  | .nm s => s
  | .bs k => wordK k
  | .l1 k a => wordK k ++ 60 :: (showT a ++ [62])
  | .mp a b => wordK 13 ++ 60 :: (showT a ++ 44 :: (showT b ++ [62]))
def depthT : Ty → Nat
  | .nm _ => 0
  | .bs _ => 0
  | .l1 _ a => depthT a + 1
  | .mp a b => max (depthT a) (depthT b) + 1
def namesT : Ty → List (List UInt8)
  | .nm s => [s]
  | .bs _ => []
  | .l1 _ a => namesT a
  | .mp a b => namesT a ++ namesT b
def wfT : Ty → Prop
  | .nm s => nameOk s = true ∧ ∀ c ∈ s, isNmS c = true
  | .bs k => isBs k
  | .l1 k a => (k = 14 ∨ k = 15) ∧ wfT a
  | .mp a b => wfT a ∧ wfT b
/-- head: kind, name, parts -/
def headT : Ty → Nat × List UInt8 × List UInt8 × List UInt8
  | .nm s => (0, s, [], [])
  | .bs k => (k, [], [], [])
  | .l1 k a => (k, [], showT a, [])
  | .mp a b => (13, [], showT a, showT b)

def noTy (e : Nat) : Nat × Ty × Nat := (e, .bs 0, 0)
/-- error (2: form, 6: depth), tree, length -/
def parT : Nat → List UInt8 → Nat × Ty × Nat
  | 0, l =>
    if kindW (l.take (spanN isNmS l)) = 0 then (if nameOk (l.take (spanN isNmS l)) then (0, .nm (l.take (spanN isNmS l)), spanN isNmS l) else noTy 2)
    else if kindW (l.take (spanN isNmS l)) ≠ 13 ∧ kindW (l.take (spanN isNmS l)) ≠ 14 ∧ kindW (l.take (spanN isNmS l)) ≠ 15 then (0, .bs (kindW (l.take (spanN isNmS l))), spanN isNmS l)
    else noTy 6
  | r + 1, l =>
    if kindW (l.take (spanN isNmS l)) = 0 then (if nameOk (l.take (spanN isNmS l)) then (0, .nm (l.take (spanN isNmS l)), spanN isNmS l) else noTy 2)
    else if kindW (l.take (spanN isNmS l)) ≠ 13 ∧ kindW (l.take (spanN isNmS l)) ≠ 14 ∧ kindW (l.take (spanN isNmS l)) ≠ 15 then (0, .bs (kindW (l.take (spanN isNmS l))), spanN isNmS l)
    else if (l.drop (spanN isNmS l)).head? ≠ some 60 then noTy 2
    else
      let p := parT r (l.drop (spanN isNmS l + 1))
      if p.1 ≠ 0 then noTy p.1
      else if kindW (l.take (spanN isNmS l)) = 13 then
        if (l.drop (spanN isNmS l + 1 + p.2.2)).head? ≠ some 44 then noTy 2
        else
          let q := parT r (l.drop (spanN isNmS l + 1 + p.2.2 + 1))
          if q.1 ≠ 0 then noTy q.1
          else if (l.drop (spanN isNmS l + 1 + p.2.2 + 1 + q.2.2)).head? ≠ some 62 then noTy 2
          else (0, .mp p.2.1 q.2.1, spanN isNmS l + 1 + p.2.2 + 1 + q.2.2 + 1)
      else if (l.drop (spanN isNmS l + 1 + p.2.2)).head? ≠ some 62 then noTy 2
      else (0, .l1 (kindW (l.take (spanN isNmS l))) p.2.1, spanN isNmS l + 1 + p.2.2 + 1)

example : (parT 12 [109, 97, 112, 60, 105, 56, 44, 97, 46, 66, 62]).1 = 0 ∧ (parT 12 [109, 97, 112, 60, 105, 56, 44, 97, 46, 66, 62]).2.2 = 11 := by decide +kernel
example : (parT 12 [108, 105, 115, 116, 60]).1 = 2 := by decide +kernel
example : (parT 0 [108, 105, 115, 116, 60]).1 = 6 := by decide +kernel

theorem dropA (w X : List UInt8) (n : Nat) : (w ++ X).drop (w.length + n) = X.drop n := by
  induction w with
  | nil => simp
  | cons c w ih => simpa [Nat.add_right_comm] using ih
theorem span_app (w rest : List UInt8) (h1 : ∀ c ∈ w, isNmS c = true) (h2 : rest = [] ∨ ∃ c t, rest = c :: t ∧ isNmS c = false) : spanN isNmS (w ++ rest) = w.length :=
  spanN_is _ _ _ (by simp) (by simpa using h1) (by simpa using h2)
theorem far_ne : farF true [] = false := rfl
theorem kind_name (s : List UInt8) (h : nameOk s = true) : kindW s = 0 := by
  rcases kindW_is s with h0 | ⟨h1, h2⟩
  · exact h0
  · exfalso
    unfold nameOk at h
    rw [h2] at h
    rcases h1 with h1 | h1 | h1 | h1 | h1 | h1 | h1 | h1 | h1 | h1 | h1 <;> rw [h1] at h <;> revert h <;> decide
theorem bs_kw {k : Nat} (h : isBs k) : isKw k := by unfold isBs at h; unfold isKw; omega
theorem bs_ne {k : Nat} (h : isBs k) : k ≠ 0 ∧ k ≠ 13 ∧ k ≠ 14 ∧ k ≠ 15 := by unfold isBs at h; omega

theorem parT_full : ∀ (t : Ty) (r : Nat) (rest : List UInt8), wfT t → depthT t ≤ r → (rest = [] ∨ ∃ c x, rest = c :: x ∧ isNmS c = false) → parT r (showT t ++ rest) = (0, t, (showT t).length) := by
  intro t
  induction t with
  | nm s =>
    intro r rest hw hd hr
    have h1 := span_app s rest hw.2 hr
    have h2 : (s ++ rest).take s.length = s := List.take_left
    have h3 := kind_name s hw.1
    have e : showT (.nm s) ++ rest = s ++ rest := rfl
    rw [e]
    cases r <;> (unfold parT; rw [h1, h2, if_pos h3, if_pos hw.1]; rfl)
  | bs k =>
    intro r rest hw hd hr
    have hk := bs_kw hw
    have h1 := span_app (wordK k) rest (wordK_nm k hk) hr
    have h2 : (wordK k ++ rest).take (wordK k).length = wordK k := List.take_left
    have h3 := kindW_word k hk
    have h4 := bs_ne hw
    have e : showT (.bs k) ++ rest = wordK k ++ rest := rfl
    rw [e]
    cases r <;> (unfold parT; rw [h1, h2, h3, if_neg h4.1, if_pos h4.2]; rfl)
  | l1 k a ih =>
    intro r rest hw hd hr
    have hk : isKw k := by rcases hw.1 with rfl | rfl <;> simp [isKw]
    cases r with
    | zero => simp [depthT] at hd
    | succ r =>
      have e : showT (.l1 k a) ++ rest = wordK k ++ 60 :: (showT a ++ 62 :: rest) := by simp [showT]
      have h1 := span_app (wordK k) (60 :: (showT a ++ 62 :: rest)) (wordK_nm k hk) (.inr ⟨60, _, rfl, by decide⟩)
      have h2 : (wordK k ++ 60 :: (showT a ++ 62 :: rest)).take (wordK k).length = wordK k := List.take_left
      have h3 := kindW_word k hk
      have hd0 : (wordK k ++ 60 :: (showT a ++ 62 :: rest)).drop (wordK k).length = 60 :: (showT a ++ 62 :: rest) := by simpa using dropA (wordK k) (60 :: (showT a ++ 62 :: rest)) 0
      have hd1 : (wordK k ++ 60 :: (showT a ++ 62 :: rest)).drop ((wordK k).length + 1) = showT a ++ 62 :: rest := by simpa using dropA (wordK k) (60 :: (showT a ++ 62 :: rest)) 1
      have hd2 : (wordK k ++ 60 :: (showT a ++ 62 :: rest)).drop ((wordK k).length + 1 + (showT a).length) = 62 :: rest := by
        rw [Nat.add_assoc, dropA, Nat.add_comm 1, List.drop_succ_cons]
        simpa using dropA (showT a) (62 :: rest) 0
      have hi := ih r (62 :: rest) hw.2 (by simp [depthT] at hd; omega) (.inr ⟨62, _, rfl, by decide⟩)
      rw [e]
      unfold parT
      rw [h1, h2, h3, if_neg (by rcases hw.1 with rfl | rfl <;> simp), if_neg (by rcases hw.1 with rfl | rfl <;> simp), hd0, if_neg (by simp), hd1, hi]
      dsimp only
      rw [if_neg (by simp), if_neg (by rcases hw.1 with rfl | rfl <;> simp), hd2, if_neg (by simp)]
      simp [showT]
      omega
  | mp a b iha ihb =>
    intro r rest hw hd hr
    have hk : isKw 13 := by simp [isKw]
    cases r with
    | zero => simp [depthT] at hd
    | succ r =>
      have e : showT (.mp a b) ++ rest = wordK 13 ++ 60 :: (showT a ++ 44 :: (showT b ++ 62 :: rest)) := by simp [showT]
      have h1 := span_app (wordK 13) (60 :: (showT a ++ 44 :: (showT b ++ 62 :: rest))) (wordK_nm 13 hk) (.inr ⟨60, _, rfl, by decide⟩)
      have h2 : (wordK 13 ++ 60 :: (showT a ++ 44 :: (showT b ++ 62 :: rest))).take (wordK 13).length = wordK 13 := List.take_left
      have h3 := kindW_word 13 hk
      have hd0 : (wordK 13 ++ 60 :: (showT a ++ 44 :: (showT b ++ 62 :: rest))).drop (wordK 13).length = 60 :: (showT a ++ 44 :: (showT b ++ 62 :: rest)) := by simpa using dropA (wordK 13) (60 :: (showT a ++ 44 :: (showT b ++ 62 :: rest))) 0
      have hd1 : (wordK 13 ++ 60 :: (showT a ++ 44 :: (showT b ++ 62 :: rest))).drop ((wordK 13).length + 1) = showT a ++ 44 :: (showT b ++ 62 :: rest) := by simpa using dropA (wordK 13) (60 :: (showT a ++ 44 :: (showT b ++ 62 :: rest))) 1
      have hd2 : (wordK 13 ++ 60 :: (showT a ++ 44 :: (showT b ++ 62 :: rest))).drop ((wordK 13).length + 1 + (showT a).length) = 44 :: (showT b ++ 62 :: rest) := by
        rw [Nat.add_assoc, dropA, Nat.add_comm 1, List.drop_succ_cons]
        simpa using dropA (showT a) (44 :: (showT b ++ 62 :: rest)) 0
      have hd3 : (wordK 13 ++ 60 :: (showT a ++ 44 :: (showT b ++ 62 :: rest))).drop ((wordK 13).length + 1 + (showT a).length + 1) = showT b ++ 62 :: rest := by
        rw [← List.drop_drop, hd2]; simp
      have hd4 : (wordK 13 ++ 60 :: (showT a ++ 44 :: (showT b ++ 62 :: rest))).drop ((wordK 13).length + 1 + (showT a).length + 1 + (showT b).length) = 62 :: rest := by
        rw [← List.drop_drop, hd3]
        simpa using dropA (showT b) (62 :: rest) 0
      have hia := iha r (44 :: (showT b ++ 62 :: rest)) hw.1 (by simp [depthT] at hd; omega) (.inr ⟨44, _, rfl, by decide⟩)
      have hib := ihb r (62 :: rest) hw.2 (by simp [depthT] at hd; omega) (.inr ⟨62, _, rfl, by decide⟩)
      rw [e]
      unfold parT
      rw [h1, h2, h3, if_neg (by simp), if_neg (by simp), hd0, if_neg (by simp), hd1, hia]
      dsimp only
      rw [if_neg (by simp), if_pos (rfl : (13:Nat) = 13), hd2, if_neg (by simp), hd3, hib]
      dsimp only
      rw [if_neg (by simp), hd4, if_neg (by simp)]
      simp [showT]
      omega
theorem parT_deep : ∀ (t : Ty) (r : Nat) (rest : List UInt8), wfT t → r < depthT t → (parT r (showT t ++ rest)).1 = 6 := by
  intro t
  induction t with
  | nm s => intro r rest hw hd; simp [depthT] at hd
  | bs k => intro r rest hw hd; simp [depthT] at hd
  | l1 k a ih =>
    intro r rest hw hd
    have hk : isKw k := by rcases hw.1 with rfl | rfl <;> simp [isKw]
    have e : showT (.l1 k a) ++ rest = wordK k ++ 60 :: (showT a ++ 62 :: rest) := by simp [showT]
    have h1 := span_app (wordK k) (60 :: (showT a ++ 62 :: rest)) (wordK_nm k hk) (.inr ⟨60, _, rfl, by decide⟩)
    have h2 : (wordK k ++ 60 :: (showT a ++ 62 :: rest)).take (wordK k).length = wordK k := List.take_left
    have h3 := kindW_word k hk
    rw [e]
    cases r with
    | zero =>
      unfold parT
      rw [h1, h2, h3, if_neg (by rcases hw.1 with rfl | rfl <;> simp), if_neg (by rcases hw.1 with rfl | rfl <;> simp)]
      rfl
    | succ r =>
      have hd0 : (wordK k ++ 60 :: (showT a ++ 62 :: rest)).drop (wordK k).length = 60 :: (showT a ++ 62 :: rest) := by simpa using dropA (wordK k) (60 :: (showT a ++ 62 :: rest)) 0
      have hd1 : (wordK k ++ 60 :: (showT a ++ 62 :: rest)).drop ((wordK k).length + 1) = showT a ++ 62 :: rest := by simpa using dropA (wordK k) (60 :: (showT a ++ 62 :: rest)) 1
      have hi := ih r (62 :: rest) hw.2 (by simp [depthT] at hd; omega)
      unfold parT
      rw [h1, h2, h3, if_neg (by rcases hw.1 with rfl | rfl <;> simp), if_neg (by rcases hw.1 with rfl | rfl <;> simp), hd0, if_neg (by simp), hd1]
      dsimp only
      rw [if_pos (by rw [hi]; simp), hi]
      rfl
  | mp a b iha ihb =>
    intro r rest hw hd
    have hk : isKw 13 := by simp [isKw]
    have e : showT (.mp a b) ++ rest = wordK 13 ++ 60 :: (showT a ++ 44 :: (showT b ++ 62 :: rest)) := by simp [showT]
    have h1 := span_app (wordK 13) (60 :: (showT a ++ 44 :: (showT b ++ 62 :: rest))) (wordK_nm 13 hk) (.inr ⟨60, _, rfl, by decide⟩)
    have h2 : (wordK 13 ++ 60 :: (showT a ++ 44 :: (showT b ++ 62 :: rest))).take (wordK 13).length = wordK 13 := List.take_left
    have h3 := kindW_word 13 hk
    rw [e]
    cases r with
    | zero =>
      unfold parT
      rw [h1, h2, h3, if_neg (by simp), if_neg (by simp)]
      rfl
    | succ r =>
      have hd0 : (wordK 13 ++ 60 :: (showT a ++ 44 :: (showT b ++ 62 :: rest))).drop (wordK 13).length = 60 :: (showT a ++ 44 :: (showT b ++ 62 :: rest)) := by simpa using dropA (wordK 13) (60 :: (showT a ++ 44 :: (showT b ++ 62 :: rest))) 0
      have hd1 : (wordK 13 ++ 60 :: (showT a ++ 44 :: (showT b ++ 62 :: rest))).drop ((wordK 13).length + 1) = showT a ++ 44 :: (showT b ++ 62 :: rest) := by simpa using dropA (wordK 13) (60 :: (showT a ++ 44 :: (showT b ++ 62 :: rest))) 1
      have hd2 : (wordK 13 ++ 60 :: (showT a ++ 44 :: (showT b ++ 62 :: rest))).drop ((wordK 13).length + 1 + (showT a).length) = 44 :: (showT b ++ 62 :: rest) := by
        rw [Nat.add_assoc, dropA, Nat.add_comm 1, List.drop_succ_cons]
        simpa using dropA (showT a) (44 :: (showT b ++ 62 :: rest)) 0
      have hd3 : (wordK 13 ++ 60 :: (showT a ++ 44 :: (showT b ++ 62 :: rest))).drop ((wordK 13).length + 1 + (showT a).length + 1) = showT b ++ 62 :: rest := by
        rw [← List.drop_drop, hd2]; simp
      unfold parT
      rw [h1, h2, h3, if_neg (by simp), if_neg (by simp), hd0, if_neg (by simp), hd1]
      dsimp only
      by_cases hda : r < depthT a
      · have hi := iha r (44 :: (showT b ++ 62 :: rest)) hw.1 hda
        rw [if_pos (by rw [hi]; simp), hi]
        rfl
      · have hi := parT_full a r (44 :: (showT b ++ 62 :: rest)) hw.1 (by omega) (.inr ⟨44, _, rfl, by decide⟩)
        have hj := ihb r (62 :: rest) hw.2 (by simp [depthT] at hd; omega)
        rw [hi]
        dsimp only
        rw [if_neg (by simp), if_pos (rfl : (13:Nat) = 13), hd2, if_neg (by simp), hd3, if_pos (by rw [hj]; simp), hj]
        rfl

theorem head_take (l : List UInt8) (c : UInt8) (n : Nat) (h : (l.drop n).head? = some c) : l.take (n + 1) = l.take n ++ [c] ∧ n + 1 ≤ l.length := by
  rcases Nat.lt_or_ge n l.length with hn | hn
  · rw [List.take_succ_eq_append_getElem hn]
    rw [List.head?_drop, List.getElem?_eq_getElem hn] at h
    cases h
    exact ⟨rfl, by omega⟩
  · rw [List.drop_eq_nil_of_le hn] at h; cases h
theorem take_seg (l : List UInt8) (n m : Nat) : l.take (n + m) = l.take n ++ (l.drop n).take m := List.take_add

theorem parT_sound : ∀ (r : Nat) (l : List UInt8), (parT r l).1 = 0 → wfT (parT r l).2.1 ∧ depthT (parT r l).2.1 ≤ r ∧ (parT r l).2.2 ≤ l.length ∧ l.take (parT r l).2.2 = showT (parT r l).2.1 := by
  intro r
  induction r with
  | zero =>
    intro l h
    have hsp := spanN_le isNmS l
    have htk := spanN_take isNmS l
    unfold parT at h ⊢
    generalize spanN isNmS l = N at *
    rcases kindW_is (l.take N) with h0 | ⟨h1, h2⟩
    · rw [if_pos h0] at h ⊢
      split at h
      · rename_i hn
        rw [if_pos hn]
        exact ⟨⟨hn, htk⟩, Nat.le_refl _, hsp, rfl⟩
      · cases h
    · have h0 : kindW (l.take N) ≠ 0 := by intro e; rw [e] at h1; simp [isKw] at h1
      rw [if_neg h0] at h ⊢
      split at h
      · rename_i hn
        rw [if_pos hn]
        refine ⟨?_, Nat.le_refl _, hsp, h2⟩
        show isBs _
        unfold isBs; unfold isKw at h1; omega
      · cases h
  | succ r ih =>
    intro l h
    have hsp := spanN_le isNmS l
    have htk := spanN_take isNmS l
    unfold parT at h ⊢
    generalize spanN isNmS l = N at *
    rcases kindW_is (l.take N) with h0 | ⟨h1, h2⟩
    · rw [if_pos h0] at h ⊢
      split at h
      · rename_i hn
        rw [if_pos hn]
        exact ⟨⟨hn, htk⟩, Nat.zero_le _, hsp, rfl⟩
      · cases h
    · have h0 : kindW (l.take N) ≠ 0 := by intro e; rw [e] at h1; simp [isKw] at h1
      rw [if_neg h0] at h ⊢
      split at h
      · rename_i hn
        rw [if_pos hn]
        refine ⟨?_, Nat.zero_le _, hsp, h2⟩
        show isBs _
        unfold isBs; unfold isKw at h1; omega
      · rename_i hn
        rw [if_neg hn]
        split at h
        · cases h
        · rename_i h60
          rw [if_neg h60]
          have e60 := head_take l 60 N (by simpa using h60)
          have hA := ih (l.drop (N + 1))
          dsimp only at h ⊢
          generalize parT r (l.drop (N + 1)) = p at *
          obtain ⟨pe, pt, pn⟩ := p
          dsimp only at h hA ⊢
          by_cases hpe : pe ≠ 0
          · rw [if_pos hpe] at h; exact absurd h hpe
          · rw [if_neg hpe] at h ⊢
            have hA' := hA (by simpa using hpe)
            have hlen : pn ≤ l.length - (N + 1) := by simpa using hA'.2.2.1
            have tk1 : l.take (N + 1 + pn) = l.take N ++ 60 :: showT pt := by rw [take_seg, hA'.2.2.2, e60.1]; simp
            by_cases h13 : kindW (l.take N) = 13
            · rw [if_pos h13] at h ⊢
              split at h
              · cases h
              · rename_i h44
                rw [if_neg h44]
                have e44 := head_take l 44 (N + 1 + pn) (by simpa using h44)
                have hB := ih (l.drop (N + 1 + pn + 1))
                generalize parT r (l.drop (N + 1 + pn + 1)) = q at *
                obtain ⟨qe, qt, qn⟩ := q
                dsimp only at h hB ⊢
                by_cases hqe : qe ≠ 0
                · rw [if_pos hqe] at h; exact absurd h hqe
                · rw [if_neg hqe] at h ⊢
                  have hB' := hB (by simpa using hqe)
                  have hlen2 : qn ≤ l.length - (N + 1 + pn + 1) := by simpa using hB'.2.2.1
                  split at h
                  · cases h
                  · rename_i h62
                    rw [if_neg h62]
                    have e62 := head_take l 62 (N + 1 + pn + 1 + qn) (by simpa using h62)
                    have tk2 : l.take (N + 1 + pn + 1 + qn) = l.take N ++ 60 :: (showT pt ++ 44 :: showT qt) := by rw [take_seg, hB'.2.2.2, e44.1, tk1]; simp
                    refine ⟨⟨hA'.1, hB'.1⟩, ?_, e62.2, ?_⟩
                    · show max _ _ + 1 ≤ _
                      have := hA'.2.1
                      have := hB'.2.1
                      omega
                    · dsimp only
                      rw [e62.1, tk2, h2, h13]
                      simp [showT]
            · rw [if_neg h13] at h ⊢
              split at h
              · cases h
              · rename_i h62
                rw [if_neg h62]
                have e62 := head_take l 62 (N + 1 + pn) (by simpa using h62)
                refine ⟨⟨by unfold isKw at h1; omega, hA'.1⟩, ?_, e62.2, ?_⟩
                · show _ + 1 ≤ _
                  have := hA'.2.1
                  omega
                · dsimp only
                  rw [e62.1, tk1]
                  show _ = wordK _ ++ _
                  rw [← h2]
                  simp

/-- the whole text: error, tree -/
def wholeT (l : List UInt8) : Nat × Ty :=
  if (parT 12 l).1 ≠ 0 then ((parT 12 l).1, .bs 0) else if (parT 12 l).2.2 < l.length then (2, .bs 0) else (0, (parT 12 l).2.1)
theorem wholeT_show (l : List UInt8) (h : (wholeT l).1 = 0) : wfT (wholeT l).2 ∧ depthT (wholeT l).2 ≤ 12 ∧ l = showT (wholeT l).2 := by
  have hs := parT_sound 12 l
  unfold wholeT at h ⊢
  split at h
  · rename_i h1; exact absurd h h1
  · rename_i h1
    rw [if_neg h1]
    have hs' := hs (by simpa using h1)
    split at h
    · cases h
    · rename_i h2
      rw [if_neg h2]
      refine ⟨hs'.1, hs'.2.1, ?_⟩
      rw [← hs'.2.2.2, List.take_of_length_le (by omega)]
theorem wholeT_full (t : Ty) (hw : wfT t) (hd : depthT t ≤ 12) : wholeT (showT t) = (0, t) := by
  have h := parT_full t 12 [] hw hd (.inl rfl)
  rw [List.append_nil] at h
  unfold wholeT
  rw [h, if_neg (by simp), if_neg (by simp)]
theorem wholeT_deep (t : Ty) (hw : wfT t) (hd : 12 < depthT t) : wholeT (showT t) = (6, .bs 0) := by
  have h := parT_deep t 12 [] hw hd
  rw [List.append_nil] at h
  unfold wholeT
  rw [h, if_pos (by simp)]
end Go.Proofs.YtpaacfoiiihbeaaDoor
