/- Values' normal form, and of numbers what it is. Plain. -/
import Derived.Test.YtjeadmndnbggmaaOrP
set_option linter.unusedVariables false
set_option linter.unusedSimpArgs false
namespace Go.Proofs.Ytjeadmndnbggmaa

/-- one more among a set's elements -/
def insV (c : Val → Val → Int) (x : Val) : List Val → List Val
  | [] => [x]
  | y :: r => if c x y < 0 then x :: y :: r else if c x y = 0 then y :: r else y :: insV c x r
def setV (c : Val → Val → Int) (l : List Val) : List Val := l.foldl (fun acc x => insV c x acc) []
/-- one more pair among a map's -/
def insM (c : Val → Val → Int) (k v : Val) : List Val → Option (List Val)
  | a :: b :: r => if c k a < 0 then some (k :: v :: a :: b :: r) else if c k a = 0 then (if c v b = 0 then some (a :: b :: r) else none) else (insM c k v r).map fun l => a :: b :: l
  | _ => some [k, v]
def mapV (c : Val → Val → Int) : List Val → List Val → Option (List Val)
  | acc, k :: v :: r => match insM c k v acc with
    | none => none
    | some acc' => mapV c acc' r
  | acc, _ => some acc
/-- one more field among a struct's -/
def insF (i : Int) (x : Val) : List Int → List Val → Option (List Int × List Val)
  | j :: is, y :: ys => if i < j then some (i :: j :: is, x :: y :: ys) else if i = j then none else (insF i x is ys).map fun p => (j :: p.1, y :: p.2)
  | _, _ => some ([i], [x])
def strV : List Int × List Val → List Int → List Val → Option (List Int × List Val)
  | acc, i :: is, x :: xs => match insF i x acc.1 acc.2 with
    | none => none
    | some acc' => strV acc' is xs
  | acc, _, _ => some acc
/-- all parts' normal forms, or the first error -/
def prtV (f : Val → Val × Nat) : List Val → List Val × Nat
  | [] => ([], 0)
  | x :: r => if (f x).2 ≠ 0 then ([], (f x).2) else if (prtV f r).2 ≠ 0 then ([], (prtV f r).2) else ((f x).1 :: (prtV f r).1, 0)
/-- a value's normal form, so deep, and the error -/
def normV : Nat → Val → Val × Nat
  | 0, v => (v, 0)
  | n + 1, .mk k a s l i =>
    if lstK k = false ∧ k ≠ 12 then (.mk k a s l i, 0)
    else if (prtV (normV n) l).2 ≠ 0 then (val0, (prtV (normV n) l).2)
    else if k = 15 then (.mk k a s (prtV (normV n) l).1 i, 0)
    else if k = 14 then (.mk k a s (setV (cmpV n) (prtV (normV n) l).1) i, 0)
    else if k = 13 then (if l.length % 2 = 1 then (val0, 1) else match mapV (cmpV n) [] (prtV (normV n) l).1 with
      | none => (val0, 8)
      | some r => (.mk k a s r i, 0))
    else if l.length ≠ i.length then (val0, 1) else match strV ([], []) i (prtV (normV n) l).1 with
      | none => (val0, 8)
      | some r => (.mk k a s r.2 r.1, 0)
/-- a number of its kind, and nothing else -/
def leafOk : Val → Prop
  | .mk k a s l i => intK k = true ∧ (-9223372036854775808 ≤ a ∧ a ≤ 9223372036854775807) ∧ s = [] ∧ l = [] ∧ i = []
/-- may it be compared? -/
def okV : Nat → Val → Prop
  | 0, _ => False
  | n + 1, .mk k a s l i => k < 32 ∧ k ≠ 12 ∧ (-9223372036854775808 ≤ a ∧ a ≤ 9223372036854775807) ∧ s.length ≤ maxLen ∧ ∀ x ∈ l, okV n x
/-- does it say nothing that is not compared, and are its parts numbers? -/
def netV : Nat → Val → Prop
  | 0, _ => False
  | n + 1, .mk k a s l i => k < 32 ∧ s = [] ∧ (-9223372036854775808 ≤ a ∧ a ≤ 9223372036854775807) ∧ (intK k = true ∨ k = 4 ∨ a = 0) ∧ (k = 12 ∨ i = []) ∧ (lstK k = true ∨ k = 12 ∨ l = []) ∧ l.length ≤ 20 ∧ ∀ x ∈ l, leafOk x
def bareV : Val → Prop
  | .mk k a s l i => s = [] ∧ l = [] ∧ i = []
theorem intK_lt {k : Nat} (hk : intK k = true) : k < 32 ∧ k ≠ 12 ∧ k ≠ 4 ∧ lstK k = false := by
  unfold intK at hk
  unfold lstK
  simp only [Bool.or_eq_true, decide_eq_true_eq] at hk
  simp only [Bool.or_eq_false_iff, decide_eq_false_iff_not]
  omega
theorem leafK_ok {k : Nat} (hk : intK k = true) {x : Int} (h : -9223372036854775808 ≤ x ∧ x ≤ 9223372036854775807) : leafOk (leafV k x) := ⟨hk, h, rfl, rfl, rfl⟩
theorem leafs_ok {k : Nat} (hk : intK k = true) {l : List Int} (h : ∀ x ∈ l, -9223372036854775808 ≤ x ∧ x ≤ 9223372036854775807) : ∀ x ∈ l.map (leafV k), leafOk x := fun x hx => by
  obtain ⟨y, hy, rfl⟩ := List.mem_map.1 hx
  exact leafK_ok hk (h y hy)
theorem leaf_okV (n : Nat) {k : Nat} (hk : k < 32) (h12 : k ≠ 12) {x : Int} (h : -9223372036854775808 ≤ x ∧ x ≤ 9223372036854775807) : okV (n + 1) (leafV k x) := ⟨hk, h12, h, Nat.zero_le _, fun _ h => by cases h⟩
theorem leafs_okV (n : Nat) {K k : Nat} (hK : K < 32) (h12 : K ≠ 12) (hk : intK k = true) {l : List Int} (h : ∀ x ∈ l, -9223372036854775808 ≤ x ∧ x ≤ 9223372036854775807) (i : List Int) : okV (n + 2) (.mk K 0 [] (l.map (leafV k)) i) :=
  ⟨hK, h12, by decide, Nat.zero_le _, fun x hx => by
    obtain ⟨y, hy, rfl⟩ := List.mem_map.1 hx
    exact leaf_okV n (intK_lt hk).1 (intK_lt hk).2.1 (h y hy)⟩
/-- numbers, each once, as they rise -/
def insI (x : Int) : List Int → List Int
  | [] => [x]
  | y :: r => if x < y then x :: y :: r else if x = y then y :: r else y :: insI x r
def srt (l : List Int) : List Int := l.foldl (fun acc x => insI x acc) []
theorem insI_mem (x : Int) : ∀ (l : List Int) (y : Int), y ∈ insI x l ↔ y = x ∨ y ∈ l
  | [], y => by unfold insI; simp
  | z :: r, y => by
    unfold insI
    split
    · simp
    · split
      · rename_i h; subst h; simp
      · rw [List.mem_cons, insI_mem x r y, List.mem_cons]
        constructor
        · rintro (h | h | h)
          · exact .inr (.inl h)
          · exact .inl h
          · exact .inr (.inr h)
        · rintro (h | h | h)
          · exact .inr (.inl h)
          · exact .inl h
          · exact .inr (.inr h)
theorem insI_up (x : Int) : ∀ {l : List Int}, l.Pairwise (· < ·) → (insI x l).Pairwise (· < ·)
  | [], _ => by unfold insI; simp
  | z :: r, h => by
    obtain ⟨h1, h2⟩ := List.pairwise_cons.1 h
    unfold insI
    split
    · rename_i h0
      refine List.pairwise_cons.2 ⟨fun y hy => ?_, h⟩
      rcases List.mem_cons.1 hy with rfl | hy
      · exact h0
      · exact Int.lt_trans h0 (h1 y hy)
    · split
      · exact h
      · rename_i h0 h3
        refine List.pairwise_cons.2 ⟨fun y hy => ?_, insI_up x h2⟩
        rcases (insI_mem x r y).1 hy with rfl | hy
        · omega
        · exact h1 y hy
theorem srt_fold : ∀ (l acc : List Int), acc.Pairwise (· < ·) → (l.foldl (fun acc x => insI x acc) acc).Pairwise (· < ·) ∧ ∀ y, y ∈ l.foldl (fun acc x => insI x acc) acc ↔ y ∈ acc ∨ y ∈ l
  | [], acc, h => ⟨h, fun y => by simp⟩
  | x :: r, acc, h => by
    obtain ⟨h1, h2⟩ := srt_fold r (insI x acc) (insI_up x h)
    refine ⟨h1, fun y => ?_⟩
    rw [List.foldl_cons, h2, insI_mem, List.mem_cons]
    constructor
    · rintro ((h | h) | h)
      · exact .inr (.inl h)
      · exact .inl h
      · exact .inr (.inr h)
    · rintro (h | h | h)
      · exact .inl (.inr h)
      · exact .inl (.inl h)
      · exact .inr h
theorem srt_up (l : List Int) : (srt l).Pairwise (· < ·) := (srt_fold l [] List.Pairwise.nil).1
theorem srt_mem (l : List Int) (y : Int) : y ∈ srt l ↔ y ∈ l := by
  unfold srt; rw [(srt_fold l [] List.Pairwise.nil).2 y]; simp
/-- two rows that rise and have the same numbers are one -/
theorem up_uniq : ∀ {l m : List Int}, l.Pairwise (· < ·) → m.Pairwise (· < ·) → (∀ y, y ∈ l ↔ y ∈ m) → l = m
  | [], [], _, _, _ => rfl
  | [], y :: m, _, _, h => absurd ((h y).2 (by simp)) (by simp)
  | x :: l, [], _, _, h => absurd ((h x).1 (by simp)) (by simp)
  | x :: l, y :: m, h1, h2, h => by
    obtain ⟨a1, a2⟩ := List.pairwise_cons.1 h1
    obtain ⟨b1, b2⟩ := List.pairwise_cons.1 h2
    have e : x = y := by
      have p := (h x).1 (by simp)
      have q := (h y).2 (by simp)
      rcases List.mem_cons.1 p with p | p
      · exact p
      · rcases List.mem_cons.1 q with q | q
        · exact q.symm
        · have := b1 x p; have := a1 y q; omega
    subst e
    rw [up_uniq a2 b2 fun z => ?_]
    constructor
    · intro hz
      have := (h z).1 (by simp [hz])
      rcases List.mem_cons.1 this with rfl | h'
      · exact absurd (a1 z hz) (by omega)
      · exact h'
    · intro hz
      have := (h z).2 (by simp [hz])
      rcases List.mem_cons.1 this with rfl | h'
      · exact absurd (b1 z hz) (by omega)
      · exact h'
theorem srt_same {l m : List Int} (h : ∀ y, y ∈ l ↔ y ∈ m) : srt l = srt m := up_uniq (srt_up l) (srt_up m) fun y => by rw [srt_mem, srt_mem, h]
theorem srt_self {l : List Int} (h : l.Pairwise (· < ·)) : srt l = l := up_uniq (srt_up l) h fun y => srt_mem l y
theorem srt_srt (l : List Int) : srt (srt l) = srt l := srt_self (srt_up l)
theorem insI_len (x : Int) : ∀ l : List Int, (insI x l).length ≤ l.length + 1
  | [] => Nat.le_refl _
  | y :: r => by
    unfold insI
    have := insI_len x r
    split
    · simp
    · split
      · simp
      · simp only [List.length_cons]; omega
theorem srt_len_fold : ∀ (l acc : List Int), (l.foldl (fun acc x => insI x acc) acc).length ≤ acc.length + l.length
  | [], acc => Nat.le_refl _
  | x :: r, acc => by
    have := srt_len_fold r (insI x acc)
    have := insI_len x acc
    rw [List.foldl_cons, List.length_cons]; omega
theorem srt_len (l : List Int) : (srt l).length ≤ l.length := by
  have := srt_len_fold l []
  unfold srt
  simpa using this
/-- a set of numbers of one kind -/
theorem insV_leaf (n : Nat) {k : Nat} (hk : intK k = true) (x : Int) : ∀ l : List Int, insV (cmpV (n + 1)) (leafV k x) (l.map (leafV k)) = (insI x l).map (leafV k)
  | [] => rfl
  | y :: r => by
    have hc := leaf_cmp n k hk x y
    rw [List.map_cons]
    unfold insV insI
    rw [hc]
    unfold cmpI
    by_cases h : x < y
    · rw [if_pos h, if_pos (by decide), if_pos h]; rfl
    · rw [if_neg h, if_neg h]
      by_cases h2 : y < x
      · rw [if_pos h2, if_neg (by decide), if_neg (by decide), if_neg (by omega), insV_leaf n hk x r]; rfl
      · rw [if_neg h2, if_neg (by decide), if_pos rfl, if_pos (by omega)]; rfl
theorem setV_fold (n : Nat) {k : Nat} (hk : intK k = true) : ∀ (l acc : List Int), (l.map (leafV k)).foldl (fun acc x => insV (cmpV (n + 1)) x acc) (acc.map (leafV k)) = (l.foldl (fun acc x => insI x acc) acc).map (leafV k)
  | [], _ => rfl
  | x :: r, acc => by
    rw [List.map_cons, List.foldl_cons, insV_leaf n hk x acc, setV_fold n hk r (insI x acc)]; rfl
theorem setV_leaf (n : Nat) {k : Nat} (hk : intK k = true) (l : List Int) : setV (cmpV (n + 1)) (l.map (leafV k)) = (srt l).map (leafV k) := setV_fold n hk l []
theorem norm_leaf (n : Nat) {k : Nat} (hk : intK k = true) (x : Int) : normV (n + 1) (leafV k x) = (leafV k x, 0) := by
  unfold leafV normV
  have : lstK k = false ∧ k ≠ 12 := by
    unfold intK at hk
    unfold lstK
    simp only [Bool.or_eq_true, decide_eq_true_eq] at hk
    simp only [Bool.or_eq_false_iff, decide_eq_false_iff_not]
    omega
  rw [if_pos this]
theorem prt_leaf (n : Nat) {k : Nat} (hk : intK k = true) : ∀ l : List Int, prtV (normV (n + 1)) (l.map (leafV k)) = (l.map (leafV k), 0)
  | [] => rfl
  | x :: r => by
    rw [List.map_cons]
    unfold prtV
    rw [norm_leaf n hk, prt_leaf n hk r]; rfl
/-- a set's normal form, of numbers of one kind -/
theorem norm_set (n : Nat) {k : Nat} (hk : intK k = true) (l : List Int) : normV (n + 2) (.mk 14 0 [] (l.map (leafV k)) []) = (.mk 14 0 [] ((srt l).map (leafV k)) [], 0) := by
  unfold normV
  rw [if_neg (by decide), prt_leaf n hk]
  dsimp only
  rw [if_neg (by decide), if_neg (by decide), if_pos rfl, setV_leaf n hk]
theorem leaf_net (n : Nat) {k : Nat} (hk : intK k = true) {x : Int} (h : -9223372036854775808 ≤ x ∧ x ≤ 9223372036854775807) : netV (n + 1) (leafV k x) :=
  ⟨(intK_lt hk).1, rfl, h, .inl hk, .inr rfl, .inr (.inr rfl), Nat.zero_le _, fun _ h => by cases h⟩
end Go.Proofs.Ytjeadmndnbggmaa
