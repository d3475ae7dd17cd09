/- The words of a text: as a function of its bytes. -/
import Derived.Test.YtpaacfoiiihbeaaDoorDecP
import Derived.Lib.IndexMore
set_option linter.unusedVariables false
set_option linter.unusedSimpArgs false
namespace Go.Proofs.YtpaacfoiiihbeaaDoor
open Go.RowKit

/-- a word: its kind, its text, its number, its bits, its place -/
structure TokV where
  k : Nat
  t : List UInt8
  n : Int
  d : Nat
  p : Nat

def isLetS (c : UInt8) : Bool := (decide (97 ≤ c.toNat) && decide (c.toNat ≤ 122)) || (decide (65 ≤ c.toNat) && decide (c.toNat ≤ 90))
def isNmS (c : UInt8) : Bool := isLetS c || isDig c || decide (c.toNat = 95) || decide (c.toNat = 46)
def isWhS (c : UInt8) : Bool := decide (c.toNat = 9) || decide (c.toNat = 10) || decide (c.toNat = 13) || decide (c.toNat = 32)
def isHexS (c : UInt8) : Bool := isDig c || (decide (97 ≤ c.toNat) && decide (c.toNat ≤ 102)) || (decide (65 ≤ c.toNat) && decide (c.toNat ≤ 70))
def hexV (c : UInt8) : Nat := if 97 ≤ c.toNat ∧ c.toNat ≤ 102 then c.toNat - 97 + 10 else if 65 ≤ c.toNat ∧ c.toNat ≤ 70 then c.toNat - 65 + 10 else c.toNat - 48
/-- how many ahead are such -/
def spanN (p : UInt8 → Bool) : List UInt8 → Nat
  | [] => 0
  | c :: l => if p c then spanN p l + 1 else 0
theorem spanN_le (p : UInt8 → Bool) (l : List UInt8) : spanN p l ≤ l.length := by
  induction l with
  | nil => simp [spanN]
  | cons c l ih => unfold spanN; split <;> simp <;> omega
theorem spanN_take (p : UInt8 → Bool) (l : List UInt8) : ∀ c ∈ l.take (spanN p l), p c = true := by
  induction l with
  | nil => intro c h; simp at h
  | cons c l ih =>
    unfold spanN
    by_cases h : p c = true
    · rw [if_pos h, List.take_succ_cons]
      intro d hd
      rcases List.mem_cons.1 hd with rfl | hd
      · exact h
      · exact ih d hd
    · rw [if_neg h]; intro d hd; simp at hd
theorem spanN_drop (p : UInt8 → Bool) (l : List UInt8) : l.drop (spanN p l) = [] ∨ ∃ c t, l.drop (spanN p l) = c :: t ∧ p c = false := by
  induction l with
  | nil => exact .inl rfl
  | cons c l ih =>
    unfold spanN
    by_cases h : p c = true
    · rw [if_pos h, List.drop_succ_cons]; exact ih
    · rw [if_neg h]; exact .inr ⟨c, l, rfl, by simpa using h⟩
theorem spanN_is (p : UInt8 → Bool) (l : List UInt8) (n : Nat) (hn : n ≤ l.length) (h1 : ∀ c ∈ l.take n, p c = true) (h2 : l.drop n = [] ∨ ∃ c t, l.drop n = c :: t ∧ p c = false) : spanN p l = n := by
  induction l generalizing n with
  | nil => simp at hn; subst hn; rfl
  | cons c l ih =>
    cases n with
    | zero =>
      rcases h2 with h | ⟨d, t, h, hd⟩
      · cases h
      · simp at h; unfold spanN; rw [h.1, hd]; rfl
    | succ n =>
      unfold spanN
      rw [if_pos (h1 c (by simp)), ih n (by simpa using hn) (fun d hd => h1 d (by simp [hd])) (by simpa using h2)]

/-- the length of the line ahead -/
def lineN (l : List UInt8) : Nat := spanN (fun c => decide (c ≠ 10)) l
/-- the next end of a note -/
def noteN : List UInt8 → Option Nat
  | [] => none
  | c :: l => if c = 42 ∧ l.head? = some 47 then some 0 else (noteN l).map (· + 1)
/-- the white space, or the note, ahead; no: a note that does not end -/
def gapS : List UInt8 → Nat × Bool
  | [] => (0, true)
  | c :: r =>
    if c = 35 ∨ (c = 47 ∧ r.head? = some 47) then (lineN (c :: r), true)
    else if c = 47 ∧ r.head? = some 42 then (match noteN (r.drop 1) with | none => (0, false) | some n => (n + 4, true))
    else (spanN isWhS (c :: r), true)
def skipF : Nat → List UInt8 → Nat × Bool
  | 0, _ => (0, true)
  | f + 1, l => if (gapS l).1 = 0 then gapS l else ((gapS l).1 + (skipF f (l.drop (gapS l).1)).1, (skipF f (l.drop (gapS l).1)).2)
/-- all that stands ahead of the next word -/
def skipS (l : List UInt8) : Nat × Bool := skipF (l.length + 1) l

theorem noteN_lt (l : List UInt8) (n : Nat) (h : noteN l = some n) : n + 2 ≤ l.length := by
  induction l generalizing n with
  | nil => cases h
  | cons c l ih =>
    unfold noteN at h
    split at h
    · rename_i hc
      cases l with
      | nil => simp at hc
      | cons d l => cases h; simp
    · cases hl : noteN l with
      | none => rw [hl] at h; cases h
      | some m => rw [hl] at h; simp at h; have := ih m hl; simp; omega
theorem gapS_le (l : List UInt8) : (gapS l).1 ≤ l.length ∧ ((gapS l).1 ≠ 0 → (gapS l).2 = true) := by
  cases l with
  | nil => exact ⟨Nat.le_refl _, fun _ => rfl⟩
  | cons c r =>
    unfold gapS
    dsimp only
    split
    · exact ⟨spanN_le _ _, fun _ => rfl⟩
    · split
      · rename_i h1 h2
        cases hn : noteN (r.drop 1) with
        | none => exact ⟨Nat.zero_le _, fun h => absurd rfl h⟩
        | some n =>
          have := noteN_lt _ _ hn
          refine ⟨?_, fun _ => rfl⟩
          simp at this ⊢
          omega
      · exact ⟨spanN_le _ _, fun _ => rfl⟩
theorem skipF_more : ∀ (f g : Nat) (l : List UInt8), l.length < f → l.length < g → skipF f l = skipF g l := by
  intro f
  induction f with
  | zero => intro g l h; omega
  | succ f ih =>
    intro g l hf hg
    cases g with
    | zero => omega
    | succ g =>
      unfold skipF
      by_cases h0 : (gapS l).1 = 0
      · rw [if_pos h0, if_pos h0]
      · have h1 := (gapS_le l).1
        rw [if_neg h0, if_neg h0, ih g (l.drop (gapS l).1) (by simp; omega) (by simp; omega)]
theorem skipS_step (l : List UInt8) : skipS l = if (gapS l).1 = 0 then gapS l else ((gapS l).1 + (skipS (l.drop (gapS l).1)).1, (skipS (l.drop (gapS l).1)).2) := by
  have hu : skipS l = if (gapS l).1 = 0 then gapS l else ((gapS l).1 + (skipF l.length (l.drop (gapS l).1)).1, (skipF l.length (l.drop (gapS l).1)).2) := rfl
  rw [hu]
  by_cases h0 : (gapS l).1 = 0
  · rw [if_pos h0, if_pos h0]
  · have h1 := (gapS_le l).1
    rw [if_neg h0, if_neg h0]
    unfold skipS
    rw [skipF_more l.length ((l.drop (gapS l).1).length + 1) (l.drop (gapS l).1) (by simp; omega) (by omega)]
theorem skipS_le (l : List UInt8) : (skipS l).1 ≤ l.length := by
  suffices h : ∀ n (l : List UInt8), l.length ≤ n → (skipS l).1 ≤ l.length from h _ l (Nat.le_refl _)
  intro n
  induction n with
  | zero => intro l h; rw [skipS_step]; have := (gapS_le l).1; rw [if_pos (by omega)]; exact this
  | succ n ih =>
    intro l h
    rw [skipS_step]
    have := (gapS_le l).1
    by_cases h0 : (gapS l).1 = 0
    · rw [if_pos h0]; exact this
    · rw [if_neg h0]
      have := ih (l.drop (gapS l).1) (by simp; omega)
      simp at this ⊢
      omega

/-- the sign, the digits ahead -/
def sgnN (l : List UInt8) : Nat := match l with
  | [] => 0
  | c :: _ => if c.toNat = 43 ∨ c.toNat = 45 then 1 else 0
def digN (l : List UInt8) : Nat := spanN isDig l
def fracN (l : List UInt8) : Nat := match l with
  | [] => 0
  | c :: r => if c.toNat = 46 ∧ digN r ≠ 0 then digN r + 1 else 0
def expN (l : List UInt8) : Nat := match l with
  | [] => 0
  | c :: r => if (c.toNat = 101 ∨ c.toNat = 69) ∧ digN (r.drop (sgnN r)) ≠ 0 then 1 + sgnN r + digN (r.drop (sgnN r)) else 0
/-- the longest number ahead -/
def decN (l : List UInt8) : Nat :=
  let n := sgnN l
  let d := digN (l.drop n) + fracN (l.drop (n + digN (l.drop n)))
  if d = 0 then 0 else n + d + expN (l.drop (n + d))
def hexN (l : List UInt8) : Nat := match l with
  | c :: d :: r => if c = 48 ∧ d = 120 ∧ spanN isHexS r ≠ 0 then 2 + spanN isHexS r else 0
  | _ => 0
def wholeB (l : List UInt8) : Bool := decide (sgnN l + digN (l.drop (sgnN l)) = l.length)
/-- digits to a base -/
def natB (b : Nat) (l : List UInt8) : Nat := l.foldl (fun v c => b * v + hexV c) 0
def negB (l : List UInt8) : Bool := match l with
  | [] => false
  | c :: _ => decide (c.toNat = 45)
def wholeS (l : List UInt8) : Int × Nat :=
  let ds := l.drop (sgnN l)
  if 60 < ds.length then (0, 4)
  else if (if negB l then 9223372036854775808 else 9223372036854775807) < natB 10 ds then (0, 5)
  else ((if negB l then -(natB 10 ds : Int) else (natB 10 ds : Int)), 0)
def hexS (ds : List UInt8) : Int × Nat :=
  if 16 < ds.length then (0, 4) else if 9223372036854775807 < natB 16 ds then (0, 5) else ((natB 16 ds : Int), 0)

def tok0 : TokV := ⟨0, [], 0, 0, 0⟩
/-- error, word, length -/
def numberS (l : List UInt8) : Nat × TokV × Nat :=
  if hexN l ≠ 0 then ((hexS ((l.take (hexN l)).drop 2)).2, ⟨2, [], (hexS ((l.take (hexN l)).drop 2)).1, 0, 0⟩, hexN l)
  else if decN l = 0 then (2, tok0, 0)
  else if wholeB (l.take (decN l)) then ((wholeS (l.take (decN l))).2, ⟨2, [], (wholeS (l.take (decN l))).1, 0, 0⟩, decN l)
  else ((parseS (l.take (decN l))).2, ⟨3, [], 0, (parseS (l.take (decN l))).1, 0⟩, decN l)
def dotBad : List UInt8 → Bool
  | [] => false
  | c :: r => (decide (c.toNat = 46) && (r.isEmpty || decide (r.head? = some 46))) || dotBad r
def nameS (l : List UInt8) : Nat × TokV × Nat :=
  if 120 < spanN isNmS l then (4, tok0, 0)
  else if dotBad (l.take (spanN isNmS l)) then (2, tok0, 0)
  else (0, ⟨1, l.take (spanN isNmS l), 0, 0, 0⟩, spanN isNmS l)
def quoteN (q : UInt8) (r : List UInt8) : Nat := spanN (fun c => decide (c ≠ q)) r
def quotedS (q : UInt8) (r : List UInt8) : Nat × TokV × Nat :=
  if quoteN q r = r.length ∨ lineN r < quoteN q r then (2, tok0, 0)
  else (0, ⟨4, r.take (quoteN q r), 0, 0, 0⟩, quoteN q r + 2)
def signsL : List UInt8 := [123, 125, 40, 41, 91, 93, 60, 62, 44, 59, 58, 61, 42]
def firstS : List UInt8 → Nat × TokV × Nat
  | [] => (0, ⟨6, [], 0, 0, 0⟩, 0)
  | c :: r =>
    if isLetS c || decide (c.toNat = 95) then nameS (c :: r)
    else if isDig c || decide (c.toNat = 43) || decide (c.toNat = 45) || decide (c.toNat = 46) then numberS (c :: r)
    else if c.toNat = 34 ∨ c.toNat = 39 then quotedS c r
    else if signsL.contains c then (0, ⟨5, [c], 0, 0, 0⟩, 1)
    else (2, tok0, 0)
def numTok (t : TokV) : Bool := decide (t.k = 2) || decide (t.k = 3)
def goesS : List UInt8 → Bool
  | [] => false
  | c :: _ => isNmS c
/-- error, its place from here, the word -/
def wordS (l : List UInt8) : Nat × Nat × TokV × Nat :=
  if (firstS l).1 ≠ 0 then ((firstS l).1, 0, tok0, 0)
  else if numTok (firstS l).2.1 && goesS (l.drop (firstS l).2.2) then (2, (firstS l).2.2, tok0, 0)
  else (0, 0, (firstS l).2.1, (firstS l).2.2)
def nextS (o : Nat) (l : List UInt8) : Nat × Nat × TokV × Nat :=
  if (skipS l).2 = false then (2, o + (skipS l).1, tok0, 0)
  else if (wordS (l.drop (skipS l).1)).1 ≠ 0 then ((wordS (l.drop (skipS l).1)).1, o + (skipS l).1 + (wordS (l.drop (skipS l).1)).2.1, tok0, 0)
  else (0, 0, { (wordS (l.drop (skipS l).1)).2.2.1 with p := o + (skipS l).1 }, (skipS l).1 + (wordS (l.drop (skipS l).1)).2.2.2)
/-- words, error, its place -/
def lexF : Nat → Nat → List UInt8 → List TokV × Nat × Nat
  | 0, _, _ => ([], 0, 0)
  | f + 1, o, l =>
    if (nextS o l).1 ≠ 0 then ([], (nextS o l).1, (nextS o l).2.1)
    else if (nextS o l).2.2.1.k = 6 then ([(nextS o l).2.2.1], 0, 0)
    else if (lexF f (o + (nextS o l).2.2.2) (l.drop (nextS o l).2.2.2)).2.1 ≠ 0 then lexF f (o + (nextS o l).2.2.2) (l.drop (nextS o l).2.2.2)
    else ((nextS o l).2.2.1 :: (lexF f (o + (nextS o l).2.2.2) (l.drop (nextS o l).2.2.2)).1, 0, 0)
def lexS (l : List UInt8) : List TokV × Nat × Nat := if 2000 < l.length then ([], 4, 0) else lexF (l.length + 1) 0 l
end Go.Proofs.YtpaacfoiiihbeaaDoor
