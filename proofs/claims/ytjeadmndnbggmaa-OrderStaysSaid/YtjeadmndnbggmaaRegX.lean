/- A region that draws its order: an invariant over what has been carried out and the values so far. Plain lemmas over any program. -/
import Derived.Test.YtjeadmndnbggmaaRegM
set_option linter.unusedVariables false
set_option linter.unusedSimpArgs false
namespace Go.Proofs.Ytjeadmndnbggmaa
namespace RI
section
variable {P : Program} (L : List Oper) (a0 : Act) (S : Array Bool → (Nat → Value) → World → Prop)

/-- what is asked of one operation that has not been carried out -/
def StepX (P : Program) (i : Nat) (o : Oper) : Prop :=
  ∀ (a : Act) (x : Nat → Value) (ls : Array Bool) (w : World), S ls x w → ls.size = L.length → ls.getD i true = false → Closed L ls → (∀ d i, slotB L d i = true → d < a0.tmps.size → a.eval (.tmp d) = x i) → (∀ d, (dsts L).contains d = false → a.eval (.tmp d) = a0.eval (.tmp d)) →
    (∀ e ∈ o.after.toList, Region.binds .any e = true → ls.getD e.on false = true) →
    ∀ K : Act → World → Prop, (∀ w' v, S (ls.setIfInBounds i true) (upd x i v) w' → K (a.put o.dst v) w') → o.wp P a w K (fun _ _ _ => False)
def StepsX (P : Program) : List Oper → Nat → Prop
  | [], _ => True
  | o :: os, i => StepX L a0 S P i o ∧ StepsX P os (i + 1)
variable {L a0 S}
theorem StepsX.at_ : ∀ {os : List Oper} {k : Nat}, StepsX L a0 S P os k → ∀ i o, os[i]? = some o → StepX L a0 S P (k + i) o
  | [], _, _, i, o, h => by simp at h
  | o' :: os, k, hs, i, o, h => by
    cases i with
    | zero => simp at h; subst h; exact hs.1
    | succ i => rw [show k + (i + 1) = k + 1 + i by omega]; exact StepsX.at_ hs.2 i o (by simpa using h)

theorem inv_anyX {Q : Exit → Act → World → Prop} (hok : okB L = true) (hg : L.all (fun o => o.guard == none) = true) (hs : StepsX L a0 S P L 0)
    (hend : ∀ (x : Nat → Value) ls w, S ls x w → (∀ j, j < L.length → ls.getD j false = true) → Q .normal (PA L 0 x a0) w) :
    ∀ (f : Nat) (listed : Array Bool) (x : Nat → Value) (w : World), listed.size = L.length → unl L.length listed ≤ f → S listed x w → Closed L listed → wpAny P .any L.toArray Q f listed (PA L 0 x a0) w := by
  simp only [okB, Bool.and_eq_true, decide_eq_true_eq] at hok
  obtain ⟨hb, hn⟩ := hok
  have fin : ∀ (listed : Array Bool) (x : Nat → Value) (w : World), listed.size = L.length → S listed x w → (∀ i, i < L.length → listed.getD i true = true) → Q .normal (PA L 0 x a0) w := by
    intro listed x w hz hS hall
    exact hend x listed w hS fun j hj => by
      have h4 : j < listed.size := by omega
      simpa [h4] using hall j hj
  intro f
  induction f with
  | zero =>
    intro listed x w hz hf hS hcl
    have hall : ∀ i, i < L.length → listed.getD i true = true := by
      intro i hi
      cases h : listed.getD i true with
      | true => rfl
      | false =>
        exfalso
        have : i ∈ (List.range L.length).filter fun i => !listed.getD i true := List.mem_filter.2 ⟨List.mem_range.2 hi, by rw [h]; rfl⟩
        have := List.length_pos_of_mem this
        unfold unl at hf
        omega
    refine ⟨?_, fin listed x w hz hS hall⟩
    rw [List.eq_nil_iff_forall_not_mem]
    intro i hi
    obtain ⟨h1, o, ho, -⟩ := mem_ready.1 hi
    have hi2 : i < L.length := by
      have := (Array.getElem?_eq_some_iff.1 ho).1
      simpa using this
    rw [hall i hi2] at h1
    cases h1
  | succ f ih =>
    intro listed x w hz hf hS hcl
    refine ⟨fun hr => fin listed x w hz hS (all_listed hb hz hr), fun i hi => ?_⟩
    obtain ⟨h1, o, ho, hdep⟩ := mem_ready.1 hi
    have hi2 : i < L.length := by
      have := (Array.getElem?_eq_some_iff.1 ho).1
      simpa using this
    have hol : L[i]? = some o := by simpa using ho
    have hgd : o.guard = none := by
      have := List.all_eq_true.1 hg o (List.mem_of_getElem? hol)
      simpa using this
    have hst := hs.at_ i o hol
    rw [Nat.zero_add] at hst
    have h4 : i < listed.size := by omega
    have h := hst (PA L 0 x a0) x listed w hS hz h1 hcl (fun d i g1 g2 => PA_slot g1 g2) (fun d g1 => PA_old_slot g1) (fun e he hbd => hdep e (by simpa using he) hbd) (wpAny P .any L.toArray Q f (listed.setIfInBounds i true)) (by
      intro w' v hS'
      rw [PA_upd L 0 x a0 i o v hn hol, Nat.zero_add]
      refine ih (listed.setIfInBounds i true) (upd x i v) w' (by simpa using hz) ?_ hS' ?_
      · have : unl L.length (listed.setIfInBounds i true) < unl L.length listed := by
          refine filter_lt _ _ _ ?_ i (List.mem_range.2 hi2) ?_ ?_
          · intro y hy hp
            by_cases hyi : i = y
            · subst hyi
              simp [h4] at hp
            · rw [getD_set_ne true hyi] at hp; exact hp
          · simp [h4]
          · rw [h1]; rfl
        omega
      · intro j o' ho' hj e he hbd
        by_cases hji : j = i
        · subst hji
          rw [hol] at ho'
          obtain rfl := Option.some.inj ho'
          have := hdep e (by simpa using he) hbd
          by_cases hei : j = e.on
          · rw [← hei]; simp [h4]
          · rw [getD_set_ne false hei]; exact this
        · rw [getD_set_ne false (Ne.symm hji)] at hj
          have := hcl j o' ho' hj e he hbd
          by_cases hei : i = e.on
          · rw [← hei]; simp [h4]
          · rw [getD_set_ne false hei]; exact this)
    unfold wpOp
    rw [ho]
    dsimp only
    rw [if_pos (by unfold Region.wanted; rw [hgd])]
    exact .inl (wp_mono_both (fun _ _ h => h) h trivial)
/-- the region, without guards -/
theorem wp_region_X {id : Nat} {Q : Exit → Act → World → Prop} {w : World} {ops : Array Oper} (S : Array Bool → (Nat → Value) → World → Prop) (hm : P.follows .mixedOrders = true) (hok : okB ops.toList = true) (hg : ops.toList.all (fun o => o.guard == none) = true)
    (hS : ∀ x, S (Array.replicate ops.size false) x { w with drawn := w.drawn + 1 }) (hs : StepsX ops.toList a0 S P ops.toList 0)
    (hend : ∀ (A : Act) (x : Nat → Value) ls w, S ls x w → (∀ j, j < ops.toList.length → ls.getD j false = true) → (∀ d i, slotB ops.toList d i = true → d < a0.tmps.size → A.eval (.tmp d) = x i) → (∀ d, (dsts ops.toList).contains d = false → A.eval (.tmp d) = a0.eval (.tmp d)) →
      RowKit.Hid (A = ⟨(setAll ops.toList 0 x a0.tmps.toList).toArray, a0.defers⟩) → Q .normal A w) : (Code.region id ops true).wp P Q a0 w := by
  refine wp_region_any hm ?_
  have hold : PA ops.toList 0 (old a0 ops.toList) a0 = a0 := PA_old ops.toList 0 _ a0 (fun i o d h1 h2 => by unfold old; rw [Nat.zero_add, h1]; simp [h2])
  have hrep : ∀ j, (Array.replicate ops.size false).getD j false = false := by
    intro j
    rw [Array.getD_eq_getD_getElem?]
    cases h : (Array.replicate ops.size false)[j]? with
    | none => rfl
    | some b =>
      obtain ⟨h1, h2⟩ := Array.getElem?_eq_some_iff.1 h
      simp at h2
      simp [← h2]
  have := inv_anyX (P := P) (Q := Q) hok hg hs (fun x ls w h1 h2 => hend (PA ops.toList 0 x a0) x ls w h1 h2 (fun d i g1 g2 => PA_slot g1 g2) (fun d g1 => PA_old_slot g1) (PA_list ops.toList 0 x a0)) ops.size (Array.replicate ops.size false) (old a0 ops.toList) { w with drawn := w.drawn + 1 } (by simp) ?_ (hS _) ?_
  · rw [hold] at this
    simpa using this
  · unfold unl
    have := List.length_filter_le (fun i => !(Array.replicate ops.size false).getD i true) (List.range ops.toList.length)
    simp only [List.length_range] at this
    simpa using this
  · intro j o ho hj
    rw [hrep] at hj; cases hj
end
/-- what has been carried out stays so -/
theorem on_set {ls : Array Bool} {i j : Nat} (h : (ls.setIfInBounds i true).getD j false = true) (hne : i ≠ j) : ls.getD j false = true := by rwa [getD_set_ne false hne] at h
theorem on_set' {ls : Array Bool} {i j : Nat} (h : (ls.setIfInBounds i true).getD j false = false) (hne : i ≠ j) : ls.getD j false = false := by rwa [getD_set_ne false hne] at h
theorem on_off {ls : Array Bool} {i : Nat} (hz : i < ls.size) (h : (ls.setIfInBounds i true).getD i false = false) : False := by simp [hz] at h
theorem off_of {ls : Array Bool} {i : Nat} (hz : i < ls.size) (h : ls.getD i true = false) : ls.getD i false = false := by simpa [hz] using h
end RI
end Go.Proofs.Ytjeadmndnbggmaa
