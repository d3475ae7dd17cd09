/- A region that draws its order, holds calls that make memory, and ends in a store: the walk of Hyb, the store aside. Plain. -/
import Derived.Test.YtjeadmndnbggmaaBlk
import Derived.Test.YtjeadmndnbggmaaHyb
set_option linter.unusedVariables false
set_option linter.unusedSimpArgs false
namespace Go.Proofs.Ytjeadmndnbggmaa
open Go.RowKit
namespace EF
section
variable {st : Nat} {P : Program} {ops : Array Oper} {md : Region.Mode}

def GA (st : Nat) (P : Program) (md : Region.Mode) (ops : Array Oper) (Q : Act → World → Prop) : Nat → Array Bool → Act → World → Prop
  | 0, listed, a, w => Region.ready md ops listed = [] ∧ ∀ w1, Nx w w1 → Q a w1
  | f + 1, listed, a, w => ∀ w1, Nx w w1 → (Region.ready md ops listed = [] → Q a w1) ∧
      ∀ i ∈ Region.ready md ops listed, gOp P ops i (fun a' w' => (i = st ∨ Nx w1 w') ∧ GA st P md ops Q f (listed.setIfInBounds i true) a' w') a w1

theorem GA.grow {Q : Act → World → Prop} {f : Nat} {listed : Array Bool} {a : Act} {w w1 : World} (h : GA st P md ops Q f listed a w) (hn : Nx w w1) : GA st P md ops Q f listed a w1 := by
  cases f with
  | zero => exact ⟨h.1, fun w2 h2 => h.2 w2 (hn.trans h2)⟩
  | succ f => exact fun w2 h2 => h w2 (hn.trans h2)

theorem wpAny_of_GA {Q : Act → World → Prop} {Q' : Exit → Act → World → Prop} (hQ : ∀ a w, Q a w → Q' .normal a w) : ∀ (f : Nat) (listed : Array Bool) (a : Act) (w : World),
    GA st P md ops Q f listed a w → wpAny P md ops Q' f listed a w
  | 0, _, _, w, h => ⟨h.1, hQ _ _ (h.2 w (Nx.refl w))⟩
  | f + 1, listed, a, w, h => by
    refine ⟨fun h0 => hQ _ _ ((h w (Nx.refl w)).1 h0), fun i hi => ?_⟩
    have := (h w (Nx.refl w)).2 i hi
    unfold gOp at this
    unfold wpOp
    split
    · rename_i ho; simp only [ho] at this; exact wpAny_of_GA hQ f _ _ _ this.2
    · rename_i o ho
      simp only [ho] at this
      split
      · rename_i hw; simp only [hw, if_true] at this; exact .inl (wp_mono_both (fun a' w' h' => wpAny_of_GA hQ f _ _ _ h'.2) this trivial)
      · rename_i hw; simp only [hw] at this; exact wpAny_of_GA hQ f _ _ _ this.2

/-- a calm operation that may come up now may be taken first -/
theorem GA_first {Q : Act → World → Prop} {i : Nat} {oi : Oper} {v : Value} (hi : ops[i]? = some oi) (hsel : ∀ (j : Nat) (o : Oper) cs b, ops[j]? = some o → o.op ≠ .select cs b)
    (D : Nat → Bool) (hD1 : D st = true) (hD2 : ∀ j o, ops[j]? = some o → D j = true → ∃ e ∈ o.after, Region.binds md e = true ∧ (e.on = i ∨ D e.on = true)) :
    ∀ (f : Nat) (listed : Array Bool) (a : Act) (w : World),
      (∀ j oj, ops[j]? = some oj → j ≠ i → listed.getD j true = false → (∀ e ∈ oj.after, Region.binds md e = true → e.on ≠ i) → oi.apart ops oj = true) →
      (∀ j, D j = true → listed.getD j true = false) →
      i ∈ Region.ready md ops listed → YG P ops w oi v a →
      GA st P md ops Q f (listed.setIfInBounds i true) (a.put oi.dst v) w → GA st P md ops Q (f + 1) listed a w := by
  intro f
  induction f with
  | zero =>
    intro listed a w _ _ hr hy H w1 hn
    refine ⟨fun h => (by rw [h] at hr; cases hr), fun j hj => ?_⟩
    by_cases hji : j = i
    · subst hji; exact (hy.grow hn).gOp hi ⟨.inr (Nx.refl _), H.grow hn⟩
    · have := ready_mono hj hji
      rw [H.1] at this
      cases this
  | succ f ih =>
    intro listed a w hfree hl hr hy H w1 hn
    refine ⟨fun h => (by rw [h] at hr; cases hr), fun j hj => ?_⟩
    by_cases hji : j = i
    · subst hji; exact (hy.grow hn).gOp hi ⟨.inr (Nx.refl _), H.grow hn⟩
    · have h1 := (H w1 hn).2 j (ready_mono hj hji)
      obtain ⟨hjun, oj, hoj, hall⟩ := mem_ready.1 hj
      have hnot : ∀ e ∈ oj.after, Region.binds md e = true → e.on ≠ i := fun e he hb heq => by
        have h1 := hall e he hb
        have h0 := (mem_ready.1 hr).1
        rw [heq] at h1
        rcases Nat.lt_or_ge i listed.size with h' | h'
        · simp [h'] at h0 h1; rw [h0] at h1; cases h1
        · simp [Array.getElem?_eq_none h'] at h1
      have h2 := gOp_put hoj (hfree j oj hoj hji hjun hnot) (fun cs b => hsel i oi cs b hi) (fun cs b => hsel j oj cs b hoj) (hy.grow hn) h1
      have hfree' : ∀ k ok, ops[k]? = some ok → k ≠ i → (listed.setIfInBounds j true).getD k true = false →
          (∀ e ∈ ok.after, Region.binds md e = true → e.on ≠ i) → oi.apart ops ok = true := fun k ok hk hki hun hno => by
        refine hfree k ok hk hki ?_ hno
        by_cases hjk : j = k
        · subst hjk; exact hjun
        · rw [getD_set_ne true hjk] at hun; exact hun
      have hjD : D j = false := by
        rw [Bool.eq_false_iff]
        intro hd
        obtain ⟨e, he, hb, heq⟩ := hD2 j oj hoj hd
        rcases heq with heq | heq
        · exact hnot e he hb heq
        · have h1 := hall e he hb
          have h0 := hl _ heq
          rcases Nat.lt_or_ge e.on listed.size with h' | h'
          · simp [h'] at h0 h1; rw [h0] at h1; cases h1
          · simp [Array.getElem?_eq_none h'] at h1
      have hjst : j ≠ st := by
        rintro rfl
        rw [hD1] at hjD; cases hjD
      have hl' : ∀ k, D k = true → (listed.setIfInBounds j true).getD k true = false := fun k hk => by
        have hne : j ≠ k := by rintro rfl; rw [hk] at hjD; cases hjD
        rw [getD_set_ne true hne]; exact hl k hk
      refine gOp_mono (fun a' w' h3 => have hN := h3.2.1.resolve_left hjst; ⟨.inr hN, ih (listed.setIfInBounds j true) a' w' hfree' hl' (ready_mono hr (Ne.symm hji)) (h3.1.grow hN) ?_⟩) h2
      rw [Array.setIfInBounds_comm _ _ hji]
      exact h3.2.2

/-- the walk along a schedule: true: the operation is calm; false: it is the only one that can come up -/
def wpHyb (st : Nat) (P : Program) (ops : Array Oper) (Q : Act → World → Prop) : List (Nat × Bool) → Act → World → Prop
  | [], a, w => ∀ w1, Nx w w1 → Q a w1
  | (k, true) :: rest, a, w => match ops[k]? with
    | none => False
    | some o => if Region.wanted o (yielded ops a.tmps) then calm P o a w (fun a' => wpHyb st P ops Q rest a' w) else wpHyb st P ops Q rest (a.put o.dst undef) w
  | (k, false) :: rest, a, w => ∀ w1, Nx w w1 → match ops[k]? with
    | none => False
    | some o => if Region.wanted o (yielded ops a.tmps) then o.wp P a w1 (fun a' w' => (k = st ∨ Nx w1 w') ∧ wpHyb st P ops Q rest a' w') (fun _ _ _ => False) else wpHyb st P ops Q rest (a.put o.dst undef) w1

/-- what hangs on k, some steps off -/
def dep (md : Region.Mode) (ops : Array Oper) (k : Nat) : Nat → Nat → Bool
  | 0, _ => false
  | f + 1, j => match ops[j]? with
    | some o => o.after.any (fun e => Region.binds md e && (e.on == k || dep md ops k f e.on))
    | none => false
def edge (st : Nat) (md : Region.Mode) (ops : Array Oper) (k : Nat) (listed : Array Bool) : Bool :=
  dep md ops k ops.size st && (List.range ops.size).all (fun j => !dep md ops k ops.size j || ((match ops[j]? with | some o => o.after.any (fun e => Region.binds md e && (e.on == k || dep md ops k ops.size e.on)) | none => false) && !listed.getD j true))
theorem edge_spec {st k : Nat} {listed : Array Bool} (h : edge st md ops k listed = true) : dep md ops k ops.size st = true ∧ (∀ j o, ops[j]? = some o → dep md ops k ops.size j = true → ∃ e ∈ o.after, Region.binds md e = true ∧ (e.on = k ∨ dep md ops k ops.size e.on = true)) ∧ ∀ j, dep md ops k ops.size j = true → listed.getD j true = false := by
  unfold edge at h
  simp only [Bool.and_eq_true, List.all_eq_true, List.mem_range] at h
  obtain ⟨h1, h2⟩ := h
  have hlt : ∀ j, dep md ops k ops.size j = true → j < ops.size := by
    intro j hj
    rcases Nat.lt_or_ge j ops.size with h | h
    · exact h
    · exfalso
      generalize ops.size = f at hj
      cases f with
      | zero => cases hj
      | succ f => unfold dep at hj; rw [Array.getElem?_eq_none h] at hj; cases hj
  refine ⟨h1, fun j o ho hj => ?_, fun j hj => ?_⟩
  · have := h2 j (hlt j hj)
    rw [hj, ho] at this
    simp only [Bool.not_true, Bool.false_or, Bool.and_eq_true] at this
    obtain ⟨e, he, hb⟩ := Array.any_eq_true'.1 this.1
    simp only [Bool.and_eq_true, Bool.or_eq_true, beq_iff_eq] at hb
    exact ⟨e, he, hb.1, hb.2⟩
  · have := h2 j (hlt j hj)
    rw [hj] at this
    simp only [Bool.not_true, Bool.false_or, Bool.and_eq_true, Bool.not_eq_true'] at this
    exact this.2
def hybFrom (st : Nat) (md : Region.Mode) (ops : Array Oper) : List (Nat × Bool) → Array Bool → Bool
  | [], listed => (Region.ready md ops listed).isEmpty
  | (k, true) :: rest, listed => (Region.ready md ops listed).contains k && Region.free md ops listed k && edge st md ops k listed && hybFrom st md ops rest (listed.setIfInBounds k true)
  | (k, false) :: rest, listed => Region.ready md ops listed == [k] && hybFrom st md ops rest (listed.setIfInBounds k true)
def hybB (st : Nat) (md : Region.Mode) (ops : Array Oper) (s : List (Nat × Bool)) : Bool := Region.noSelect ops && s.length == ops.size && hybFrom st md ops s (Array.replicate ops.size false)

theorem GA_hyb {Q : Act → World → Prop} (hs : Region.noSelect ops = true) : ∀ (s : List (Nat × Bool)) (listed : Array Bool) (a : Act) (w : World),
    hybFrom st md ops s listed = true → wpHyb st P ops Q s a w → GA st P md ops Q s.length listed a w
  | [], listed, a, w, hB, h => ⟨by simpa [hybFrom] using hB, h⟩
  | (k, true) :: rest, listed, a, w, hB, h => by
    simp only [hybFrom, Bool.and_eq_true] at hB
    obtain ⟨⟨⟨hr, hf⟩, hed⟩, hB'⟩ := hB
    have hr' : k ∈ Region.ready md ops listed := by simpa using hr
    obtain ⟨_, o, ho, _⟩ := mem_ready.1 hr'
    simp only [wpHyb, ho] at h
    by_cases hw : Region.wanted o (yielded ops a.tmps) = true
    · simp only [hw, if_true] at h
      obtain ⟨v, h1, h2⟩ := h
      exact GA_first ho (Region.noSelect_spec hs) _ (edge_spec hed).1 (edge_spec hed).2.1 rest.length listed a w (Region.free_spec ho hf) (edge_spec hed).2.2 hr' (.inl ⟨hw, h1⟩) (GA_hyb hs rest _ _ _ hB' h2)
    · simp only [hw] at h
      exact GA_first ho (Region.noSelect_spec hs) _ (edge_spec hed).1 (edge_spec hed).2.1 rest.length listed a w (Region.free_spec ho hf) (edge_spec hed).2.2 hr' (.inr ⟨by simpa using hw, rfl⟩) (GA_hyb hs rest _ _ _ hB' h)
  | (k, false) :: rest, listed, a, w, hB, h => by
    simp only [hybFrom, Bool.and_eq_true, beq_iff_eq] at hB
    obtain ⟨hr, hB'⟩ := hB
    intro w1 hn
    refine ⟨fun h0 => (by rw [hr] at h0; cases h0), fun i hi => ?_⟩
    rw [hr] at hi
    obtain rfl : i = k := by simpa using hi
    have h := h w1 hn
    unfold gOp
    cases ho : ops[i]? with
    | none => rw [ho] at h; exact h.elim
    | some o =>
      rw [ho] at h
      simp only at h ⊢
      by_cases hw : Region.wanted o (yielded ops a.tmps) = true
      · simp only [hw, if_true] at h ⊢
        exact wp_mono_both (fun a' w' h' => ⟨h'.1, GA_hyb hs rest _ _ _ hB' h'.2⟩) h trivial
      · simp only [hw] at h ⊢
        exact ⟨.inr (Nx.refl _), GA_hyb hs rest _ _ _ hB' h⟩

/-- the same, shut: the elaborator does not look into it -/
structure Hyb (st : Nat) (P : Program) (ops : Array Oper) (Q : Act → World → Prop) (s : List (Nat × Bool)) (a : Act) (w : World) : Prop where
  out : wpHyb st P ops Q s a w

/-- the region -/
theorem wp_region_hyb {id : Nat} {Q : Exit → Act → World → Prop} {a : Act} {w : World} {l : List Oper} (s : List (Nat × Bool)) (hm : P.follows .mixedOrders = true) (hB : hybB st .any l.toArray s = true)
    (h : Hyb st P l.toArray (fun a w => Q .normal a w) s a w) : (Code.region id l.toArray true).wp P Q a w := by
  simp only [hybB, Bool.and_eq_true, beq_iff_eq] at hB
  obtain ⟨⟨h1, h2⟩, h3⟩ := hB
  refine wp_region_any hm (wpAny_of_GA (st := st) (Q := fun a w => Q .normal a w) (fun _ _ h => h) _ _ _ _ ?_)
  have := GA_hyb (st := st) (md := .any) h1 s _ _ _ h3 h.out
  rw [h2] at this
  exact this.grow (Nx.drawn w)

theorem hyb_calm {Q : Act → World → Prop} {k : Nat} {o : Oper} {rest : List (Nat × Bool)} {a : Act} {w : World} (ho : ops[k]? = some o)
    (h : ∀ K : Act → Prop, (∀ a, Hyb st P ops Q rest a w → K a) → if Region.wanted o (yielded ops a.tmps) then calm P o a w K else K (a.put o.dst undef)) : Hyb st P ops Q ((k, true) :: rest) a w := by
  refine ⟨?_⟩
  simp only [wpHyb, ho]
  exact h _ (fun _ h => h.out)
theorem hyb_alone {Q : Act → World → Prop} {k : Nat} {o : Oper} {rest : List (Nat × Bool)} {a : Act} {w : World} (ho : ops[k]? = some o)
    (h : ∀ w1, Nx w w1 → ∀ K : Act → World → Prop, (∀ a' w', (k = st ∨ Nx w1 w') → Hyb st P ops Q rest a' w' → K a' w') → if Region.wanted o (yielded ops a.tmps) then o.wp P a w1 K (fun _ _ _ => False) else K (a.put o.dst undef) w1) : Hyb st P ops Q ((k, false) :: rest) a w := by
  refine ⟨?_⟩
  intro w1 hn
  simp only [ho]
  have := h w1 hn (fun a' w' => (k = st ∨ Nx w1 w') ∧ wpHyb st P ops Q rest a' w') (fun a' w' h1 h2 => ⟨h1, h2.out⟩)
  split
  · rename_i hw; simpa [hw] using this
  · rename_i hw; simp [hw] at this; exact this.2
/-- an operation whose guard says no -/
theorem hyb_skip {Q : Act → World → Prop} {k : Nat} {o : Oper} {rest : List (Nat × Bool)} {a : Act} {w : World} (ho : ops[k]? = some o) (hw : Region.wanted o (yielded ops a.tmps) = false)
    (h : Hyb st P ops Q rest (a.put o.dst undef) w) : Hyb st P ops Q ((k, true) :: rest) a w := by
  refine ⟨?_⟩
  simp only [wpHyb, ho, hw]; exact h.out
theorem hyb_nil {Q : Act → World → Prop} {a : Act} {w : World} (h : ∀ w1, Nx w w1 → Q a w1) : Hyb st P ops Q [] a w := ⟨h⟩
end
end EF
end Go.Proofs.Ytjeadmndnbggmaa
