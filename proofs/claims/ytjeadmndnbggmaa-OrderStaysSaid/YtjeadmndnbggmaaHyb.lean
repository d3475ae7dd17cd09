/- A region that draws its order, in which some operations read and others make memory: one walk serves every order, if at each step the operation taken either reads alone (and gives one value however memory has grown) or is the only one that can come up. Plain lemmas over any program. -/
import Derived.Test.YtjeadmndnbggmaaBase
import Derived.Still
import Derived.Deep.Quiet
import Derived.Deep.QuietTactic
set_option linter.unusedVariables false
set_option linter.unusedSimpArgs false
namespace Go.Proofs.Ytjeadmndnbggmaa
open Go.RowKit

/-- the world has grown: what was there is there -/
def Nx (w w' : World) : Prop := Below w.heap.size w w'
theorem Nx.refl (w : World) : Nx w w := Below.refl _ _
theorem Nx.trans {a b c : World} (h : Nx a b) (k : Nx b c) : Nx a c := nx h k
theorem Nx.drawn (w : World) : Nx w { w with drawn := w.drawn + 1 } := ⟨rfl, rfl, rfl, Nat.le_refl _, fun _ _ => rfl⟩
theorem Nx.drewN (w : World) (n : Nat) : Nx w (w.drewN n) := ⟨rfl, rfl, rfl, Nat.le_refl _, fun _ _ => rfl⟩
/-- the worlds that have grown out of one -/
abbrev Gr (w : World) := { w' : World // Nx w w' }
instance grNonempty (w : World) : Nonempty (Gr w) := ⟨⟨w, Nx.refl w⟩⟩

section
variable {P : Program} {ops : Array Oper} {md : Region.Mode}

/-- an operation that gives one value in every world that has grown out of w, and leaves that world as it is -/
def calm (P : Program) (o : Oper) (a : Act) (w : World) (next : Act → Prop) : Prop :=
  ∃ v, (∀ x : Gr w, o.quietAt P a (fun w'' => w'' = x.1) x.1 v) ∧ next (a.put o.dst v)

def gOp (P : Program) (ops : Array Oper) (i : Nat) (K : Act → World → Prop) (a : Act) (w : World) : Prop :=
  match ops[i]? with
  | none => K a w
  | some o => if Region.wanted o (yielded ops a.tmps) then o.wp P a w K (fun _ _ _ => False) else K (a.put o.dst undef) w

def GA (P : Program) (md : Region.Mode) (ops : Array Oper) (Q : Act → World → Prop) : Nat → Array Bool → Act → World → Prop
  | 0, listed, a, w => Region.ready md ops listed = [] ∧ ∀ w1, Nx w w1 → Q a w1
  | f + 1, listed, a, w => ∀ w1, Nx w w1 → (Region.ready md ops listed = [] → Q a w1) ∧
      ∀ i ∈ Region.ready md ops listed, gOp P ops i (fun a' w' => Nx w1 w' ∧ GA P md ops Q f (listed.setIfInBounds i true) a' w') a w1

theorem GA.grow {Q : Act → World → Prop} {f : Nat} {listed : Array Bool} {a : Act} {w w1 : World} (h : GA P md ops Q f listed a w) (hn : Nx w w1) : GA P md ops Q f listed a w1 := by
  cases f with
  | zero => exact ⟨h.1, fun w2 h2 => h.2 w2 (hn.trans h2)⟩
  | succ f => exact fun w2 h2 => h w2 (hn.trans h2)

theorem wp_mono_both {o : Oper} {a : Act} {w : World} {K K' : Act → World → Prop} {Q : Exit → Act → World → Prop} (h : ∀ a w, K a w → K' a w) (hh : o.wp P a w K (fun _ _ _ => False)) (hl : True) : o.wp P a w K' Q := by
  unfold Oper.wp at *
  generalize (execOp a.eval o).run P w = r at *
  cases r with
  | ok n w' =>
    cases n <;> simp only [Oper.upon] at hh ⊢
    case value v => exact h _ _ hh
    case skip => exact h _ _ hh
    case defer d => exact h _ _ hh
    case enter f args =>
      refine hh.mono fun e w'' he => ?_
      cases e with
      | returned v => exact h _ _ he
      | panicked c => exact he.elim
      | outgrown => exact absurd he (by simp [LetsOut])
    case row r args => exact hh.mono fun v w'' he => h _ _ he
  | halt x w' => cases x <;> simp only [Oper.upon] at hh

theorem wpAny_of_GA {Q : Act → World → Prop} {Q' : Exit → Act → World → Prop} (hQ : ∀ a w, Q a w → Q' .normal a w) : ∀ (f : Nat) (listed : Array Bool) (a : Act) (w : World),
    GA P md ops Q f listed a w → wpAny P md ops Q' f listed a w
  | 0, _, _, w, h => ⟨h.1, hQ _ _ (h.2 w (Nx.refl w))⟩
  | f + 1, listed, a, w, h => by
    refine ⟨fun h0 => hQ _ _ ((h w (Nx.refl w)).1 h0), fun i hi => ?_⟩
    have := (h w (Nx.refl w)).2 i hi
    unfold gOp at this
    unfold wpOp
    split
    · rename_i ho; simp only [ho] at this; exact wpAny_of_GA hQ f _ _ _ this.2
    · rename_i o ho
      simp only [ho] at this
      split
      · rename_i hw; simp only [hw, if_true] at this; exact .inl (wp_mono_both (fun a' w' h' => wpAny_of_GA hQ f _ _ _ h'.2) this trivial)
      · rename_i hw; simp only [hw] at this; exact wpAny_of_GA hQ f _ _ _ this.2

/-- in state a, in every world that has grown out of w, the operation leaves v in its slot -/
def YG (P : Program) (ops : Array Oper) (w : World) (o : Oper) (v : Value) (a : Act) : Prop :=
  (Region.wanted o (yielded ops a.tmps) = true ∧ ∀ x : Gr w, o.quietAt P a (fun w'' => w'' = x.1) x.1 v) ∨
  (Region.wanted o (yielded ops a.tmps) = false ∧ v = undef)

theorem YG.grow {w w1 : World} {o : Oper} {v : Value} {a : Act} (h : YG P ops w o v a) (hn : Nx w w1) : YG P ops w1 o v a := by
  rcases h with ⟨h1, h2⟩ | h
  · exact .inl ⟨h1, fun x => h2 ⟨x.1, hn.trans x.2⟩⟩
  · exact .inr h

theorem YG.gOp {i : Nat} {w : World} {o : Oper} {v : Value} {a : Act} (hi : ops[i]? = some o) (hy : YG P ops w o v a) {K : Act → World → Prop} (h : K (a.put o.dst v) w) : gOp P ops i K a w := by
  unfold Go.Proofs.Ytjeadmndnbggmaa.gOp
  simp only [hi]
  rcases hy with ⟨hw, hv⟩ | ⟨hw, rfl⟩
  · simp only [hw, if_true]
    have h3 := hv ⟨w, Nx.refl w⟩
    unfold Oper.quietAt at h3
    unfold Oper.wp
    generalize (execOp a.eval o).run P w = r at *
    cases r with
    | ok n w' =>
      cases n <;> simp only [Oper.quietUpon] at h3 <;> simp only [Oper.upon]
      case value u => obtain ⟨e1, e2⟩ := h3; rw [e1, e2]; exact h
      case skip => obtain ⟨e1, e2⟩ := h3; rw [e1, ← e2]; exact h
      case enter f args =>
        obtain ⟨e1, hc⟩ := h3
        rw [e1]
        exact hc.mono fun e w'' ⟨he, hw''⟩ => by subst he; rw [hw'']; exact h
    | halt x w' => simp only [Oper.quietUpon] at h3
  · simp only [hw, Bool.false_eq_true, if_false]; exact h

theorem YG.of_same {w : World} {o : Oper} {v : Value} {a a' : Act} (hy : YG P ops w o v a) (he : execOp a'.eval o = execOp a.eval o)
    (hw : Region.wanted o (yielded ops a'.tmps) = Region.wanted o (yielded ops a.tmps)) : YG P ops w o v a' := by
  unfold YG Oper.quietAt at *
  rw [he, hw]
  exact hy

theorem defers_put (a : Act) (ds : List Deferred) (x : Option Tmp) (v : Value) : ({ a with defers := ds } : Act).put x v = { a.put x v with defers := ds } := by cases x <;> rfl

/-- one operation oj apart from oi: whether oi's value is in its slot already makes no difference to it -/
theorem gOp_put {j : Nat} {w : World} {oi oj : Oper} {v : Value} (hj : ops[j]? = some oj) (hap : oi.apart ops oj = true)
    (hsi : ∀ cs b, oi.op ≠ .select cs b) (hsj : ∀ cs b, oj.op ≠ .select cs b) {K : Act → World → Prop} {a : Act}
    (hy : YG P ops w oi v a) (h : gOp P ops j K (a.put oi.dst v) w) :
    gOp P ops j (fun a' w' => YG P ops w oi v a' ∧ K (a'.put oi.dst v) w') a w := by
  obtain ⟨h1, h2, h3⟩ := Oper.apart_spec hap
  have keep : ∀ u, YG P ops w oi v (a.put oj.dst u) := fun u =>
    hy.of_same (execOp_put oi hsi a oj.dst u h3) (wanted_put oi a oj.dst u h3)
  have pc : ∀ u, (a.put oi.dst v).put oj.dst u = (a.put oj.dst u).put oi.dst v := fun u => Act.put_comm a v u h2
  unfold Go.Proofs.Ytjeadmndnbggmaa.gOp at *
  simp only [hj] at *
  rw [wanted_put oj a oi.dst v h1] at h
  split
  · rename_i hw
    simp only [hw, if_true] at h
    unfold Oper.wp at *
    rw [execOp_put oj hsj a oi.dst v h1] at h
    generalize (execOp a.eval oj).run P w = r at *
    cases r with
    | ok n w' =>
      cases n <;> simp only [Oper.upon] at h ⊢
      case value u => exact ⟨keep u, by rw [← pc]; exact h⟩
      case skip => exact ⟨keep _, by rw [← pc]; exact h⟩
      case defer d =>
        have hd : (a.put oi.dst v).defers = a.defers := by cases oi.dst <;> rfl
        rw [hd, defers_put, pc] at h
        rw [defers_put]
        refine ⟨(keep undef).of_same rfl rfl, ?_⟩
        rw [defers_put]
        exact h
      case enter f args =>
        refine h.mono fun e w'' he => ?_
        cases e with
        | returned u => exact ⟨keep u, by rw [← pc]; exact he⟩
        | panicked c => exact he.elim
        | outgrown => exact absurd he (by simp [LetsOut])
      case row r args => exact h.mono fun u w'' he => ⟨keep u, by rw [← pc]; exact he⟩
    | halt x w' => cases x <;> simp only [Oper.upon] at h
  · rename_i hw
    simp only [hw] at h
    exact ⟨keep _, by rw [← pc]; exact h⟩

theorem gOp_mono {i : Nat} {a : Act} {w : World} {K K' : Act → World → Prop} (h : ∀ a w, K a w → K' a w) (hh : gOp P ops i K a w) : gOp P ops i K' a w := by
  unfold Go.Proofs.Ytjeadmndnbggmaa.gOp at *
  split
  · exact h _ _ (by simpa [*] using hh)
  · rename_i o ho
    simp only [ho] at hh
    split
    · rename_i hw; simp only [hw, if_true] at hh; exact wp_mono_both h hh trivial
    · rename_i hw; simp only [hw] at hh; exact h _ _ hh

/-- a calm operation that may come up now may be taken first -/
theorem GA_first {Q : Act → World → Prop} {i : Nat} {oi : Oper} {v : Value} (hi : ops[i]? = some oi) (hsel : ∀ (j : Nat) (o : Oper) cs b, ops[j]? = some o → o.op ≠ .select cs b) :
    ∀ (f : Nat) (listed : Array Bool) (a : Act) (w : World),
      (∀ j oj, ops[j]? = some oj → j ≠ i → listed.getD j true = false → (∀ e ∈ oj.after, Region.binds md e = true → e.on ≠ i) → oi.apart ops oj = true) →
      i ∈ Region.ready md ops listed → YG P ops w oi v a →
      GA P md ops Q f (listed.setIfInBounds i true) (a.put oi.dst v) w → GA P md ops Q (f + 1) listed a w := by
  intro f
  induction f with
  | zero =>
    intro listed a w _ hr hy H w1 hn
    refine ⟨fun h => (by rw [h] at hr; cases hr), fun j hj => ?_⟩
    by_cases hji : j = i
    · subst hji; exact (hy.grow hn).gOp hi ⟨Nx.refl _, H.grow hn⟩
    · have := ready_mono hj hji
      rw [H.1] at this
      cases this
  | succ f ih =>
    intro listed a w hfree hr hy H w1 hn
    refine ⟨fun h => (by rw [h] at hr; cases hr), fun j hj => ?_⟩
    by_cases hji : j = i
    · subst hji; exact (hy.grow hn).gOp hi ⟨Nx.refl _, H.grow hn⟩
    · have h1 := (H w1 hn).2 j (ready_mono hj hji)
      obtain ⟨hjun, oj, hoj, hall⟩ := mem_ready.1 hj
      have hnot : ∀ e ∈ oj.after, Region.binds md e = true → e.on ≠ i := fun e he hb heq => by
        have h1 := hall e he hb
        have h0 := (mem_ready.1 hr).1
        rw [heq] at h1
        rcases Nat.lt_or_ge i listed.size with h' | h'
        · simp [h'] at h0 h1; rw [h0] at h1; cases h1
        · simp [Array.getElem?_eq_none h'] at h1
      have h2 := gOp_put hoj (hfree j oj hoj hji hjun hnot) (fun cs b => hsel i oi cs b hi) (fun cs b => hsel j oj cs b hoj) (hy.grow hn) h1
      have hfree' : ∀ k ok, ops[k]? = some ok → k ≠ i → (listed.setIfInBounds j true).getD k true = false →
          (∀ e ∈ ok.after, Region.binds md e = true → e.on ≠ i) → oi.apart ops ok = true := fun k ok hk hki hun hno => by
        refine hfree k ok hk hki ?_ hno
        by_cases hjk : j = k
        · subst hjk; exact hjun
        · rw [getD_set_ne true hjk] at hun; exact hun
      refine gOp_mono (fun a' w' h3 => ⟨h3.2.1, ih (listed.setIfInBounds j true) a' w' hfree' (ready_mono hr (Ne.symm hji)) (h3.1.grow h3.2.1) ?_⟩) h2
      rw [Array.setIfInBounds_comm _ _ hji]
      exact h3.2.2

/-- the walk along a schedule: true: the operation is calm; false: it is the only one that can come up -/
def wpHyb (P : Program) (ops : Array Oper) (Q : Act → World → Prop) : List (Nat × Bool) → Act → World → Prop
  | [], a, w => ∀ w1, Nx w w1 → Q a w1
  | (k, true) :: rest, a, w => match ops[k]? with
    | none => False
    | some o => if Region.wanted o (yielded ops a.tmps) then calm P o a w (fun a' => wpHyb P ops Q rest a' w) else wpHyb P ops Q rest (a.put o.dst undef) w
  | (k, false) :: rest, a, w => ∀ w1, Nx w w1 → match ops[k]? with
    | none => False
    | some o => if Region.wanted o (yielded ops a.tmps) then o.wp P a w1 (fun a' w' => Nx w1 w' ∧ wpHyb P ops Q rest a' w') (fun _ _ _ => False) else wpHyb P ops Q rest (a.put o.dst undef) w1

def hybFrom (md : Region.Mode) (ops : Array Oper) : List (Nat × Bool) → Array Bool → Bool
  | [], listed => (Region.ready md ops listed).isEmpty
  | (k, true) :: rest, listed => (Region.ready md ops listed).contains k && Region.free md ops listed k && hybFrom md ops rest (listed.setIfInBounds k true)
  | (k, false) :: rest, listed => Region.ready md ops listed == [k] && hybFrom md ops rest (listed.setIfInBounds k true)
def hybB (md : Region.Mode) (ops : Array Oper) (s : List (Nat × Bool)) : Bool := Region.noSelect ops && s.length == ops.size && hybFrom md ops s (Array.replicate ops.size false)

theorem GA_hyb {Q : Act → World → Prop} (hs : Region.noSelect ops = true) : ∀ (s : List (Nat × Bool)) (listed : Array Bool) (a : Act) (w : World),
    hybFrom md ops s listed = true → wpHyb P ops Q s a w → GA P md ops Q s.length listed a w
  | [], listed, a, w, hB, h => ⟨by simpa [hybFrom] using hB, h⟩
  | (k, true) :: rest, listed, a, w, hB, h => by
    simp only [hybFrom, Bool.and_eq_true] at hB
    obtain ⟨⟨hr, hf⟩, hB'⟩ := hB
    have hr' : k ∈ Region.ready md ops listed := by simpa using hr
    obtain ⟨_, o, ho, _⟩ := mem_ready.1 hr'
    simp only [wpHyb, ho] at h
    by_cases hw : Region.wanted o (yielded ops a.tmps) = true
    · simp only [hw, if_true] at h
      obtain ⟨v, h1, h2⟩ := h
      exact GA_first ho (Region.noSelect_spec hs) rest.length listed a w (Region.free_spec ho hf) hr' (.inl ⟨hw, h1⟩) (GA_hyb hs rest _ _ _ hB' h2)
    · simp only [hw] at h
      exact GA_first ho (Region.noSelect_spec hs) rest.length listed a w (Region.free_spec ho hf) hr' (.inr ⟨by simpa using hw, rfl⟩) (GA_hyb hs rest _ _ _ hB' h)
  | (k, false) :: rest, listed, a, w, hB, h => by
    simp only [hybFrom, Bool.and_eq_true, beq_iff_eq] at hB
    obtain ⟨hr, hB'⟩ := hB
    intro w1 hn
    refine ⟨fun h0 => (by rw [hr] at h0; cases h0), fun i hi => ?_⟩
    rw [hr] at hi
    obtain rfl : i = k := by simpa using hi
    have h := h w1 hn
    unfold gOp
    cases ho : ops[i]? with
    | none => rw [ho] at h; exact h.elim
    | some o =>
      rw [ho] at h
      simp only at h ⊢
      by_cases hw : Region.wanted o (yielded ops a.tmps) = true
      · simp only [hw, if_true] at h ⊢
        exact wp_mono_both (fun a' w' h' => ⟨h'.1, GA_hyb hs rest _ _ _ hB' h'.2⟩) h trivial
      · simp only [hw] at h ⊢
        exact ⟨Nx.refl _, GA_hyb hs rest _ _ _ hB' h⟩

/-- the same, shut: the elaborator does not look into it -/
structure Hyb (P : Program) (ops : Array Oper) (Q : Act → World → Prop) (s : List (Nat × Bool)) (a : Act) (w : World) : Prop where
  out : wpHyb P ops Q s a w

/-- the region -/
theorem wp_region_hyb {id : Nat} {Q : Exit → Act → World → Prop} {a : Act} {w : World} {l : List Oper} (s : List (Nat × Bool)) (hm : P.follows .mixedOrders = true) (hB : hybB .any l.toArray s = true)
    (h : Hyb P l.toArray (fun a w => Q .normal a w) s a w) : (Code.region id l.toArray true).wp P Q a w := by
  simp only [hybB, Bool.and_eq_true, beq_iff_eq] at hB
  obtain ⟨⟨h1, h2⟩, h3⟩ := hB
  refine wp_region_any hm (wpAny_of_GA (Q := fun a w => Q .normal a w) (fun _ _ h => h) _ _ _ _ ?_)
  have := GA_hyb (md := .any) h1 s _ _ _ h3 h.out
  rw [h2] at this
  exact this.grow (Nx.drawn w)

theorem hyb_calm {Q : Act → World → Prop} {k : Nat} {o : Oper} {rest : List (Nat × Bool)} {a : Act} {w : World} (ho : ops[k]? = some o)
    (h : ∀ K : Act → Prop, (∀ a, Hyb P ops Q rest a w → K a) → if Region.wanted o (yielded ops a.tmps) then calm P o a w K else K (a.put o.dst undef)) : Hyb P ops Q ((k, true) :: rest) a w := by
  refine ⟨?_⟩
  simp only [wpHyb, ho]
  exact h _ (fun _ h => h.out)
theorem hyb_alone {Q : Act → World → Prop} {k : Nat} {o : Oper} {rest : List (Nat × Bool)} {a : Act} {w : World} (ho : ops[k]? = some o)
    (h : ∀ w1, Nx w w1 → ∀ K : Act → World → Prop, (∀ a' w', Nx w1 w' → Hyb P ops Q rest a' w' → K a' w') → if Region.wanted o (yielded ops a.tmps) then o.wp P a w1 K (fun _ _ _ => False) else K (a.put o.dst undef) w1) : Hyb P ops Q ((k, false) :: rest) a w := by
  refine ⟨?_⟩
  intro w1 hn
  simp only [ho]
  have := h w1 hn (fun a' w' => Nx w1 w' ∧ wpHyb P ops Q rest a' w') (fun a' w' h1 h2 => ⟨h1, h2.out⟩)
  split
  · rename_i hw; simpa [hw] using this
  · rename_i hw; simp [hw] at this; exact this.2
/-- an operation whose guard says no -/
theorem hyb_skip {Q : Act → World → Prop} {k : Nat} {o : Oper} {rest : List (Nat × Bool)} {a : Act} {w : World} (ho : ops[k]? = some o) (hw : Region.wanted o (yielded ops a.tmps) = false)
    (h : Hyb P ops Q rest (a.put o.dst undef) w) : Hyb P ops Q ((k, true) :: rest) a w := by
  refine ⟨?_⟩
  simp only [wpHyb, ho, hw]; exact h.out
theorem hyb_nil {Q : Act → World → Prop} {a : Act} {w : World} (h : ∀ w1, Nx w w1 → Q a w1) : Hyb P ops Q [] a w := ⟨h⟩
end
attribute [go_sem] calm
end Go.Proofs.Ytjeadmndnbggmaa
