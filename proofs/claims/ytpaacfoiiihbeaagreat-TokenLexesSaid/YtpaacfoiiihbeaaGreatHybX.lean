/- The walk of HybE, where a value may be taken out of a pair behind the store too. Plain. -/
import Derived.Test.YtpaacfoiiihbeaaGreatHybE
namespace Go.Proofs.YtpaacfoiiihbeaaGreat
open Go.RowKit

theorem YG.any {P : Program} {ops : Array Oper} {w w' : World} {o : Oper} {v : Value} {a : Act} {x : Operand} {n : Nat} (ho : o.op = .extract x n) (h : YG P ops w o v a) : YG P ops w' o v a := by
  rcases h with ⟨h1, h2⟩ | h
  · refine .inl ⟨h1, fun y => ?_⟩
    have h := h2 ⟨w, Nx.refl w⟩
    unfold Oper.quietAt at *
    have e : execOp a.eval o = (do pure (.value (← Instr.extract (a.eval x) n))) := by
      unfold execOp; rw [ho]
    rw [e] at h ⊢
    cases hv : a.eval x with
    | tuple vs =>
      rw [hv] at h
      simp only [Instr.extract] at h ⊢
      cases hn : vs[n]? with
      | none => rw [hn] at h; exact h.elim
      | some u => rw [hn] at h; exact ⟨rfl, h.2⟩
    | _ => rw [hv] at h; exact h.elim
  · exact .inr h
namespace E
namespace X
section
variable {st : Nat} {P : Program} {ops : Array Oper} {md : Region.Mode}

/-- a calm operation that may come up now may be taken first -/
theorem GA_first {Q : Act → World → Prop} {i : Nat} {oi : Oper} {v : Value} (hi : ops[i]? = some oi) (hsel : ∀ (j : Nat) (o : Oper) cs b, ops[j]? = some o → o.op ≠ .select cs b)
    (hst : (∀ o, ops[st]? = some o → ∃ e ∈ o.after, Region.binds md e = true ∧ e.on = i) ∨ ∃ x n, oi.op = .extract x n) :
    ∀ (f : Nat) (listed : Array Bool) (a : Act) (w : World),
      (∀ j oj, ops[j]? = some oj → j ≠ i → listed.getD j true = false → (∀ e ∈ oj.after, Region.binds md e = true → e.on ≠ i) → oi.apart ops oj = true) →
      i ∈ Region.ready md ops listed → YG P ops w oi v a →
      GA st P md ops Q f (listed.setIfInBounds i true) (a.put oi.dst v) w → GA st P md ops Q (f + 1) listed a w := by
  intro f
  induction f with
  | zero =>
    intro listed a w _ hr hy H w1 hn
    refine ⟨fun h => (by rw [h] at hr; cases hr), fun j hj => ?_⟩
    by_cases hji : j = i
    · subst hji; exact (hy.grow hn).gOp hi ⟨.inr (Nx.refl _), H.grow hn⟩
    · have := ready_mono hj hji
      rw [H.1] at this
      cases this
  | succ f ih =>
    intro listed a w hfree hr hy H w1 hn
    refine ⟨fun h => (by rw [h] at hr; cases hr), fun j hj => ?_⟩
    by_cases hji : j = i
    · subst hji; exact (hy.grow hn).gOp hi ⟨.inr (Nx.refl _), H.grow hn⟩
    · have h1 := (H w1 hn).2 j (ready_mono hj hji)
      obtain ⟨hjun, oj, hoj, hall⟩ := mem_ready.1 hj
      have hnot : ∀ e ∈ oj.after, Region.binds md e = true → e.on ≠ i := fun e he hb heq => by
        have h1 := hall e he hb
        have h0 := (mem_ready.1 hr).1
        rw [heq] at h1
        rcases Nat.lt_or_ge i listed.size with h' | h'
        · simp [h'] at h0 h1; rw [h0] at h1; cases h1
        · simp [Array.getElem?_eq_none h'] at h1
      have h2 := gOp_put hoj (hfree j oj hoj hji hjun hnot) (fun cs b => hsel i oi cs b hi) (fun cs b => hsel j oj cs b hoj) (hy.grow hn) h1
      have hfree' : ∀ k ok, ops[k]? = some ok → k ≠ i → (listed.setIfInBounds j true).getD k true = false →
          (∀ e ∈ ok.after, Region.binds md e = true → e.on ≠ i) → oi.apart ops ok = true := fun k ok hk hki hun hno => by
        refine hfree k ok hk hki ?_ hno
        by_cases hjk : j = k
        · subst hjk; exact hjun
        · rw [getD_set_ne true hjk] at hun; exact hun
      refine gOp_mono (fun a' w' h3 => ?_) h2
      rcases hst with hst | ⟨x, n, hx⟩
      · have hjst : j ≠ st := by
          rintro rfl
          obtain ⟨e, he, hb, heq⟩ := hst oj hoj
          exact hnot e he hb heq
        have hN := h3.2.1.resolve_left hjst
        refine ⟨.inr hN, ih (listed.setIfInBounds j true) a' w' hfree' (ready_mono hr (Ne.symm hji)) (h3.1.grow hN) ?_⟩
        rw [Array.setIfInBounds_comm _ _ hji]
        exact h3.2.2
      · refine ⟨h3.2.1, ih (listed.setIfInBounds j true) a' w' hfree' (ready_mono hr (Ne.symm hji)) (h3.1.any hx) ?_⟩
        rw [Array.setIfInBounds_comm _ _ hji]
        exact h3.2.2

def exB (ops : Array Oper) (k : Nat) : Bool := match ops[k]? with
  | some o => match o.op with
    | .extract _ _ => true
    | _ => false
  | none => false
theorem exB_spec {k : Nat} {o : Oper} (h : exB ops k = true) (ho : ops[k]? = some o) : ∃ x n, o.op = .extract x n := by
  unfold exB at h
  simp only [ho] at h
  split at h
  · exact ⟨_, _, by assumption⟩
  · cases h
def hybFrom (st : Nat) (md : Region.Mode) (ops : Array Oper) : List (Nat × Bool) → Array Bool → Bool
  | [], listed => (Region.ready md ops listed).isEmpty
  | (k, true) :: rest, listed => (Region.ready md ops listed).contains k && Region.free md ops listed k && (edge st md ops k || exB ops k) && hybFrom st md ops rest (listed.setIfInBounds k true)
  | (k, false) :: rest, listed => Region.ready md ops listed == [k] && hybFrom st md ops rest (listed.setIfInBounds k true)
def hybB (st : Nat) (md : Region.Mode) (ops : Array Oper) (s : List (Nat × Bool)) : Bool := Region.noSelect ops && s.length == ops.size && hybFrom st md ops s (Array.replicate ops.size false)

theorem GA_hyb {Q : Act → World → Prop} (hs : Region.noSelect ops = true) : ∀ (s : List (Nat × Bool)) (listed : Array Bool) (a : Act) (w : World),
    hybFrom st md ops s listed = true → wpHyb st P ops Q s a w → GA st P md ops Q s.length listed a w
  | [], listed, a, w, hB, h => ⟨by simpa [hybFrom] using hB, h⟩
  | (k, true) :: rest, listed, a, w, hB, h => by
    simp only [hybFrom, Bool.and_eq_true, Bool.or_eq_true] at hB
    obtain ⟨⟨⟨hr, hf⟩, hed⟩, hB'⟩ := hB
    have hr' : k ∈ Region.ready md ops listed := by simpa using hr
    obtain ⟨_, o, ho, _⟩ := mem_ready.1 hr'
    simp only [wpHyb, ho] at h
    by_cases hw : Region.wanted o (yielded ops a.tmps) = true
    · simp only [hw, if_true] at h
      obtain ⟨v, h1, h2⟩ := h
      exact GA_first ho (Region.noSelect_spec hs) (hed.elim (fun h => .inl (edge_spec h)) (fun h => .inr (exB_spec h ho))) rest.length listed a w (Region.free_spec ho hf) hr' (.inl ⟨hw, h1⟩) (GA_hyb hs rest _ _ _ hB' h2)
    · simp only [hw] at h
      exact GA_first ho (Region.noSelect_spec hs) (hed.elim (fun h => .inl (edge_spec h)) (fun h => .inr (exB_spec h ho))) rest.length listed a w (Region.free_spec ho hf) hr' (.inr ⟨by simpa using hw, rfl⟩) (GA_hyb hs rest _ _ _ hB' h)
  | (k, false) :: rest, listed, a, w, hB, h => by
    simp only [hybFrom, Bool.and_eq_true, beq_iff_eq] at hB
    obtain ⟨hr, hB'⟩ := hB
    intro w1 hn
    refine ⟨fun h0 => (by rw [hr] at h0; cases h0), fun i hi => ?_⟩
    rw [hr] at hi
    obtain rfl : i = k := by simpa using hi
    have h := h w1 hn
    unfold gOp
    cases ho : ops[i]? with
    | none => rw [ho] at h; exact h.elim
    | some o =>
      rw [ho] at h
      simp only at h ⊢
      by_cases hw : Region.wanted o (yielded ops a.tmps) = true
      · simp only [hw, if_true] at h ⊢
        exact wp_mono_both (fun a' w' h' => ⟨h'.1, GA_hyb hs rest _ _ _ hB' h'.2⟩) h trivial
      · simp only [hw] at h ⊢
        exact ⟨.inr (Nx.refl _), GA_hyb hs rest _ _ _ hB' h⟩

/-- the region -/
theorem wp_region_hyb {id : Nat} {Q : Exit → Act → World → Prop} {a : Act} {w : World} {l : List Oper} (s : List (Nat × Bool)) (hm : P.follows .mixedOrders = true) (hB : hybB st .any l.toArray s = true)
    (h : Hyb st P l.toArray (fun a w => Q .normal a w) s a w) : (Code.region id l.toArray true).wp P Q a w := by
  simp only [hybB, Bool.and_eq_true, beq_iff_eq] at hB
  obtain ⟨⟨h1, h2⟩, h3⟩ := hB
  refine wp_region_any hm (wpAny_of_GA (st := st) (Q := fun a w => Q .normal a w) (fun _ _ h => h) _ _ _ _ ?_)
  have := GA_hyb (st := st) (md := .any) h1 s _ _ _ h3 h.out
  rw [h2] at this
  exact this.grow (Nx.drawn w)

end
end X
end E
end Go.Proofs.YtpaacfoiiihbeaaGreat
