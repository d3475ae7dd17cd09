/- Files that include each other, all of them there: what a visit finds. Plain lemmas. -/
import Derived.Test.YtpbjkgpdkopgmaaGreatDoorG29
set_option linter.unusedVariables false
set_option linter.unusedSimpArgs false
namespace Go.Proofs.YtpbjkgpdkopgmaaGreatDoor

theorem getM_put : ∀ (m : MapV) (k : List UInt8) (v : List UInt8 × Nat) (j : List UInt8), getM (putM m k v) j = if j = k then some v else getM m j
  | [], k, v, j => by
    by_cases h : j = k
    · subst h; simp [getM, putM]
    · have : ¬ k = j := fun e => h e.symm
      simp [getM, putM, h, this]
  | y :: r, k, v, j => by
    have ih := getM_put r k v j
    unfold putM
    by_cases hy : y.1 = k
    · rw [if_pos hy]
      subst hy
      by_cases h : j = y.1
      · subst h; simp [getM]
      · have : ¬ y.1 = j := fun e => h e.symm
        simp [getM, h, this]
    · rw [if_neg hy]
      by_cases hj : y.1 = j
      · subst hj
        simp [getM, hy]
      · have e1 : getM (y :: putM r k v) j = getM (putM r k v) j := by simp [getM, hj]
        have e2 : getM (y :: r) j = getM r j := by simp [getM, hj]
        rw [e1, e2, ih]
theorem putM_keys_eq : ∀ {m : MapV} {k : List UInt8} (v : List UInt8 × Nat), k ∈ m.map (·.1) → (putM m k v).map (·.1) = m.map (·.1)
  | [], _, _, h => by simp at h
  | y :: r, k, v, h => by
    unfold putM
    by_cases hy : y.1 = k
    · rw [if_pos hy]; simp [hy]
    · rw [if_neg hy]
      simp only [List.map_cons, List.mem_cons] at h ⊢
      rw [putM_keys_eq v (h.resolve_left (fun e => hy e.symm))]
theorem getM_isSome : ∀ {m : MapV} {k : List UInt8}, (getM m k).isSome = true ↔ k ∈ m.map (·.1)
  | [], k => by simp [getM]
  | y :: r, k => by
    have ih := getM_isSome (m := r) (k := k)
    by_cases hy : y.1 = k
    · subst hy; simp [getM]
    · have e2 : getM (y :: r) k = getM r k := by simp [getM, hy]
      rw [e2, ih]
      simp only [List.map_cons, List.mem_cons]
      constructor
      · exact .inr
      · exact fun h => h.resolve_left (fun e => hy e.symm)

section
variable (f : List UInt8 → Fil)
/-- a file includes another -/
def Inc (x y : List UInt8) : Prop := y ∈ (f x).incs
inductive Rc : List UInt8 → List UInt8 → Prop where
  | refl (a : List UInt8) : Rc a a
  | step {a b c : List UInt8} : Inc f a b → Rc b c → Rc a c
def Tc (a c : List UInt8) : Prop := ∃ b, Inc f a b ∧ Rc f b c
end
section
variable {f : List UInt8 → Fil}
theorem Rc.trans {a b c : List UInt8} (h : Rc f a b) : Rc f b c → Rc f a c := by
  induction h with
  | refl a => exact id
  | step h1 h2 ih => exact fun k => .step h1 (ih k)
theorem Rc.one {a b : List UInt8} (h : Inc f a b) : Rc f a b := .step h (.refl b)
theorem Tc.snoc {a b c : List UInt8} (h : Tc f a b) (k : Inc f b c) : Tc f a c := by
  obtain ⟨d, h1, h2⟩ := h
  exact ⟨d, h1, h2.trans (.one k)⟩
theorem Tc.one {a b : List UInt8} (h : Inc f a b) : Tc f a b := ⟨b, h, .refl b⟩

def visO (s : LdV) (k : List UInt8) : Nat := (getV s k).2
/-- all files are there, and are files -/
structure GoodB (f : List UInt8 → Fil) (K : List (List UInt8)) (s : LdV) : Prop where
  keys : s.m.map (·.1) = K
  parse : ∀ k ∈ K, parseF (getV s k).1 = (f k, 0, 0)
  incs : ∀ k ∈ K, ∀ x ∈ (f k).incs, x ∈ K
/-- each behind all that it includes -/
def Ordr (f : List UInt8 → Fil) (l : List (List UInt8)) : Prop := ∀ i x, l[i]? = some x → ∀ y ∈ (f x).incs, y ∈ l.take i
structure Inv (f : List UInt8 → Fil) (s : LdV) : Prop where
  files : s.files = s.names.map f
  nodup : s.names.Nodup
  done : ∀ k, k ∈ s.names ↔ visO s k ≠ 0 ∧ visO s k ≠ 1
  ord : Ordr f s.names
theorem getV_set (s : LdV) (k : List UInt8) (v : List UInt8 × Nat) (j : List UInt8) : getV (setV k v s) j = if j = k then v else getV s j := by
  unfold getV setV
  simp only [getM_put]
  split <;> rfl
theorem GoodB.has {K : List (List UInt8)} {s : LdV} (h : GoodB f K s) {k : List UInt8} (hk : k ∈ K) : hasV s k = true := by
  unfold hasV; rw [getM_isSome, h.keys]; exact hk
theorem GoodB.set {K : List (List UInt8)} {s : LdV} (h : GoodB f K s) {k t : List UInt8} (hk : k ∈ K) (ht : parseF t = (f k, 0, 0)) (v : Nat) : GoodB f K (setV k (t, v) s) := by
  refine ⟨?_, fun j hj => ?_, h.incs⟩
  · show (putM s.m k (t, v)).map (·.1) = K
    rw [putM_keys_eq _ (by rw [h.keys]; exact hk), h.keys]
  · rw [getV_set]
    split
    · rename_i e; subst e; exact ht
    · exact h.parse j hj
theorem GoodB.need {K : List (List UInt8)} {s : LdV} (h : GoodB f K s) {k : List UInt8} (hk : k ∈ K) (a : List UInt8) : needV k a s = s := by
  unfold needV; rw [if_pos (h.has hk)]
theorem visV_err : ∀ (n : Nat) (name : List UInt8) (s : LdV), s.e ≠ 0 → visV n name s = s
  | 0, _, _, _ => rfl
  | n + 1, name, s, h => by
    show (if s.e ≠ 0 then s else _) = s
    rw [if_pos h]
theorem failV_err {s : LdV} (h : s.e ≠ 0) (e : Nat) (fl : List UInt8) (a : Nat) : failV e fl a s = s := by
  unfold failV; rw [if_neg h]
theorem needV_err {s : LdV} (h : s.e ≠ 0) (n a : List UInt8) : needV n a s = s := by
  unfold needV; split
  · rfl
  · exact failV_err h _ _ _
theorem incV_err {s : LdV} (h : s.e ≠ 0) (n : Nat) (asking name : List UInt8) : incV (visV n) asking s name = s := by
  unfold incV
  rw [needV_err h]
  split
  · exact visV_err n name s h
  · split
    · exact failV_err h _ _ _
    · rfl
theorem Ordr.snoc {l : List (List UInt8)} (h : Ordr f l) {x : List UInt8} (hx : ∀ y ∈ (f x).incs, y ∈ l) : Ordr f (l ++ [x]) := by
  intro i z hz y hy
  rcases Nat.lt_or_ge i l.length with hi | hi
  · rw [List.getElem?_append_left hi] at hz
    have := h i z hz y hy
    rw [List.take_append_of_le_length (by omega)]; exact this
  · have : i = l.length := by
      rcases Nat.lt_or_ge i (l ++ [x]).length with h1 | h1
      · simp at h1; omega
      · rw [List.getElem?_eq_none h1] at hz; cases hz
    subst this
    rw [List.getElem?_append_right (by omega)] at hz
    simp at hz
    subst hz
    rw [List.take_left' rfl]
    exact hx y hy

/-- what a visit of a file makes of a load -/
def Out (f : List UInt8 → Fil) (K : List (List UInt8)) (name : List UInt8) (s s' : LdV) : Prop :=
  (s'.e = 9 ∧ ∃ c, Rc f name c ∧ Tc f c c) ∨
  (s'.e = 0 ∧ GoodB f K s' ∧ Inv f s' ∧ (∀ k, visO s' k = 1 ↔ visO s k = 1) ∧ ∃ add, s'.names = s.names ++ add ++ [name] ∧ ∀ x ∈ add, Rc f name x)
/-- within the visit of a file, some of its includes looked at -/
def Mid (f : List UInt8 → Fil) (K : List (List UInt8)) (name : List UInt8) (s : LdV) (seen : List (List UInt8)) (s' : LdV) : Prop :=
  (s'.e = 9 ∧ ∃ c, Rc f name c ∧ Tc f c c) ∨
  (s'.e = 0 ∧ GoodB f K s' ∧ Inv f s' ∧ (∀ k, visO s' k = 1 ↔ visO s k = 1) ∧ (∃ add, s'.names = s.names ++ add ∧ ∀ x ∈ add, Rc f name x) ∧ ∀ y ∈ seen, y ∈ s'.names)

theorem mid_step {K : List (List UInt8)} (n : Nat)
    (ih : ∀ name s, s.e = 0 → GoodB f K s → name ∈ K → visO s name = 0 → K.countP (fun k => decide (visO s k ≠ 1)) ≤ n → (∀ k, visO s k = 1 → Tc f k name) → Inv f s → Out f K name s (visV n name s))
    {name : List UInt8} {s : LdV} (hname : name ∈ K) (hcount : K.countP (fun k => decide (visO s k ≠ 1)) ≤ n) (hway : ∀ k, visO s k = 1 → k = name ∨ Tc f k name)
    {seen : List (List UInt8)} {s' : LdV} (h : Mid f K name s seen s') {y : List UInt8} (hy : y ∈ (f name).incs) : Mid f K name s (seen ++ [y]) (incV (visV n) name s' y) := by
  rcases h with ⟨he, hc⟩ | ⟨he, hg, hi, hw, ⟨add, hadd, hr⟩, hseen⟩
  · rw [incV_err (by omega)]
    exact .inl ⟨he, hc⟩
  · have hyK := hg.incs name hname y hy
    unfold incV
    rw [hg.need hyK]
    have hwy : ∀ k, visO s' k = 1 → Tc f k y := fun k hk => by
      rcases hway k ((hw k).1 hk) with rfl | ht
      · exact Tc.one hy
      · exact ht.snoc hy
    by_cases h0 : (getV s' y).2 = 0
    · rw [if_pos h0]
      have hcnt : K.countP (fun k => decide (visO s' k ≠ 1)) ≤ n := by
        have : K.countP (fun k => decide (visO s' k ≠ 1)) = K.countP (fun k => decide (visO s k ≠ 1)) := by
          apply List.countP_congr
          intro k _
          simp [hw k]
        omega
      rcases ih y s' he hg hyK h0 hcnt hwy hi with ⟨h1, c, h2, h3⟩ | ⟨h1, h2, h3, h4, add', h5, h6⟩
      · exact .inl ⟨h1, c, .step hy h2, h3⟩
      · refine .inr ⟨h1, h2, h3, fun k => (h4 k).trans (hw k), ⟨add ++ add' ++ [y], by rw [h5, hadd]; simp, fun x hx => ?_⟩, fun z hz => ?_⟩
        · simp only [List.mem_append, List.mem_singleton] at hx
          rcases hx with (hx | hx) | rfl
          · exact hr x hx
          · exact .step hy (h6 x hx)
          · exact .one hy
        · rw [h5]
          simp only [List.mem_append, List.mem_singleton] at hz ⊢
          rcases hz with hz | rfl
          · exact .inl (.inl (hseen z hz))
          · exact .inr rfl
    · rw [if_neg h0]
      by_cases h1 : (getV s' y).2 = 1
      · rw [if_pos h1]
        unfold failV
        rw [if_pos he]
        exact .inl ⟨rfl, y, .one hy, hwy y h1⟩
      · rw [if_neg h1]
        refine .inr ⟨he, hg, hi, hw, ⟨add, hadd, hr⟩, fun z hz => ?_⟩
        simp only [List.mem_append, List.mem_singleton] at hz
        rcases hz with hz | rfl
        · exact hseen z hz
        · exact (hi.done z).2 ⟨h0, h1⟩
theorem mid_all {K : List (List UInt8)} (n : Nat)
    (ih : ∀ name s, s.e = 0 → GoodB f K s → name ∈ K → visO s name = 0 → K.countP (fun k => decide (visO s k ≠ 1)) ≤ n → (∀ k, visO s k = 1 → Tc f k name) → Inv f s → Out f K name s (visV n name s))
    {name : List UInt8} {s : LdV} (hname : name ∈ K) (hcount : K.countP (fun k => decide (visO s k ≠ 1)) ≤ n) (hway : ∀ k, visO s k = 1 → k = name ∨ Tc f k name) :
    ∀ (l seen : List (List UInt8)) (s' : LdV), (∀ y ∈ l, y ∈ (f name).incs) → Mid f K name s seen s' → Mid f K name s (seen ++ l) (l.foldl (incV (visV n) name) s')
  | [], seen, s', _, h => by simpa using h
  | y :: r, seen, s', hl, h => by
    have h1 := mid_step n ih hname hcount hway h (hl y (by simp))
    have := mid_all n ih hname hcount hway r (seen ++ [y]) _ (fun z hz => hl z (by simp [hz])) h1
    simpa using this

theorem visV_ok {K : List (List UInt8)} : ∀ (n : Nat) (name : List UInt8) (s : LdV), s.e = 0 → GoodB f K s → name ∈ K → visO s name = 0 → K.countP (fun k => decide (visO s k ≠ 1)) ≤ n → (∀ k, visO s k = 1 → Tc f k name) → Inv f s → Out f K name s (visV n name s)
  | 0, name, s, _, _, hk, h0, hc, _, _ => by
    exfalso
    have : 0 < K.countP (fun k => decide (visO s k ≠ 1)) := List.countP_pos_iff.2 ⟨name, hk, by simp [h0]⟩
    omega
  | n + 1, name, s, he, hg, hk, h0, hc, hway, hi => by
    have ih := visV_ok (K := K) n
    have e0 : visV (n + 1) name s = addV name (parseF (getV s name).1).1 (setV name ((getV s name).1, 2) ((parseF (getV s name).1).1.incs.foldl (incV (visV n) name) (preV name s))) := by
      show (if s.e ≠ 0 then s else _) = _
      rw [if_neg (by omega)]
    obtain ⟨t, ht⟩ : ∃ t, (getV s name).1 = t := ⟨_, rfl⟩
    have hp := hg.parse name hk
    rw [ht] at hp e0
    have e1 : preV name s = setV name (t, 1) s := by
      unfold preV
      simp only [ht, hp]
      simp
    rw [e0, hp, e1]
    have hv1 : ∀ k, visO (setV name (t, 1) s) k = if k = name then 1 else visO s k := fun k => by
      unfold visO; rw [getV_set]; split <;> rfl
    have hg1 : GoodB f K (setV name (t, 1) s) := hg.set hk hp 1
    have hi1 : Inv f (setV name (t, 1) s) := ⟨hi.files, hi.nodup, fun k => by
      rw [hv1]
      split
      · rename_i e
        subst e
        have := hi.done k
        rw [h0] at this
        constructor
        · intro h; exact absurd rfl (this.1 h).1
        · intro h; exact absurd rfl h.2
      · exact hi.done k, hi.ord⟩
    have hcnt : K.countP (fun k => decide (visO (setV name (t, 1) s) k ≠ 1)) ≤ n := by
      have h2 : K.countP (fun k => decide (visO (setV name (t, 1) s) k ≠ 1)) < K.countP (fun k => decide (visO s k ≠ 1)) := by
        have hsplit : ∀ (L : List (List UInt8)), L.countP (fun k => decide (visO (setV name (t, 1) s) k ≠ 1)) + L.countP (fun k => decide (k = name)) = L.countP (fun k => decide (visO s k ≠ 1)) := by
          intro L
          induction L with
          | nil => rfl
          | cons a L ih =>
            simp only [List.countP_cons]
            by_cases ha : a = name
            · subst ha
              have : visO (setV a (t, 1) s) a = 1 := by rw [hv1]; simp
              simp [this, h0] at ih ⊢
              omega
            · have : visO (setV name (t, 1) s) a = visO s a := by rw [hv1]; simp [ha]
              simp [this, ha] at ih ⊢
              omega
        have hpos : 0 < K.countP (fun k => decide (k = name)) := List.countP_pos_iff.2 ⟨name, hk, by simp⟩
        have := hsplit K
        omega
      omega
    have hway1 : ∀ k, visO (setV name (t, 1) s) k = 1 → k = name ∨ Tc f k name := fun k h => by
      rw [hv1] at h
      by_cases e : k = name
      · exact .inl e
      · rw [if_neg e] at h
        exact .inr (hway k h)
    have hmid := mid_all (f := f) n ih hk hcnt hway1 (f name).incs [] (setV name (t, 1) s) (fun _ h => h) (.inr ⟨he, hg1, hi1, fun _ => Iff.rfl, ⟨[], by simp, fun x hx => by simp at hx⟩, fun y hy => by simp at hy⟩)
    rw [List.nil_append] at hmid
    obtain ⟨s3, h3⟩ : ∃ s3, (f name).incs.foldl (incV (visV n) name) (setV name (t, 1) s) = s3 := ⟨_, rfl⟩
    rw [h3] at hmid
    show Out f K name s (addV name (f name) (setV name (t, 2) ((f name).incs.foldl (incV (visV n) name) (setV name (t, 1) s))))
    rw [h3]
    rcases hmid with ⟨m1, m2⟩ | ⟨m1, m2, m3, m4, ⟨add, m5, m6⟩, m7⟩
    · exact .inl ⟨m1, m2⟩
    · have hv4 : ∀ k, visO (addV name (f name) (setV name (t, 2) s3)) k = if k = name then 2 else visO s3 k := fun k => by
        show (getV (setV name (t, 2) s3) k).2 = _
        rw [getV_set]; split <;> rfl
      have hn3 : visO s3 name = 1 := (m4 name).2 (by rw [hv1]; simp)
      have hg4 : GoodB f K (setV name (t, 2) s3) := m2.set hk hp 2
      refine .inr ⟨m1, ⟨hg4.keys, hg4.parse, hg4.incs⟩, ⟨?_, ?_, fun k => ?_, ?_⟩, fun k => ?_, add, ?_, m6⟩
      · show s3.files ++ [f name] = (s3.names ++ [name]).map f
        rw [m3.files]; simp
      · show (s3.names ++ [name]).Nodup
        rw [List.nodup_append]
        refine ⟨m3.nodup, by simp, fun a ha b hb => ?_⟩
        simp at hb
        subst hb
        intro e
        subst e
        exact ((m3.done a).1 ha).2 hn3
      · rw [hv4]
        show k ∈ s3.names ++ [name] ↔ _
        rw [List.mem_append, List.mem_singleton]
        by_cases e : k = name
        · subst e; simp
        · rw [if_neg e]
          simp only [e, or_false]
          exact m3.done k
      · exact m3.ord.snoc m7
      · rw [hv4]
        by_cases e : k = name
        · subst e; simp [h0]
        · rw [if_neg e, m4 k, hv1, if_neg e]
      · show s3.names ++ [name] = s.names ++ add ++ [name]
        rw [m5]; rfl
end
end Go.Proofs.YtpbjkgpdkopgmaaGreatDoor
