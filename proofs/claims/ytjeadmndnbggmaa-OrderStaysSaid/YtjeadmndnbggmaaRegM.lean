/- A region that draws its order: an invariant that knows what has been carried out, and what not. Plain lemmas over any program. -/
import Derived.Test.YtjeadmndnbggmaaReg
set_option linter.unusedVariables false
set_option linter.unusedSimpArgs false
namespace Go.Proofs.Ytjeadmndnbggmaa
namespace RI
/-- what must have been carried out ahead of an operation -/
def reachB (L : List Oper) : Nat → Nat → Nat → Bool
  | 0, j, i => j == i
  | f + 1, j, i => j == i || match L[j]? with
    | some o => o.after.any fun e => Region.binds .any e && reachB L f e.on i
    | none => false
def Closed (L : List Oper) (ls : Array Bool) : Prop := ∀ j o, L[j]? = some o → ls.getD j false = true → ∀ e ∈ o.after.toList, Region.binds .any e = true → ls.getD e.on false = true
theorem Closed.reach {L : List Oper} {ls : Array Bool} (h : Closed L ls) : ∀ (f j i : Nat), reachB L f j i = true → ls.getD j false = true → ls.getD i false = true
  | 0, j, i, hr, hj => by
    have : j = i := by simpa [reachB] using hr
    rw [← this]; exact hj
  | f + 1, j, i, hr, hj => by
    unfold reachB at hr
    rw [Bool.or_eq_true] at hr
    rcases hr with hr | hr
    · have : j = i := by simpa using hr
      rw [← this]; exact hj
    · cases ho : L[j]? with
      | none => rw [ho] at hr; cases hr
      | some o =>
        rw [ho] at hr
        dsimp only at hr
        obtain ⟨e, he, hb⟩ := Array.any_eq_true'.1 hr
        rw [Bool.and_eq_true] at hb
        exact Closed.reach h f e.on i hb.2 (h j o ho hj e (by simpa using he) hb.1)
theorem Closed.not {L : List Oper} {ls : Array Bool} (h : Closed L ls) (f j i : Nat) (hr : reachB L f j i = true) (hi : ls.getD i true = false) : ls.getD j false = false := by
  rw [Bool.eq_false_iff]
  intro hj
  have h1 := h.reach f j i hr hj
  have h2 : i < ls.size := by
    rcases Nat.lt_or_ge i ls.size with h | h
    · exact h
    · rw [Array.getD_eq_getD_getElem?, Array.getElem?_eq_none h] at h1; cases h1
  simp [h2] at h1 hi
  rw [hi] at h1; cases h1
section
variable {P : Program} (L : List Oper) (a0 : Act) (V : Nat → Value → World → Prop) (S : Array Bool → World → Prop) (R : Array Bool → World → World → Prop)

/-- what is asked of one operation that has not been carried out -/
def StepM (P : Program) (i : Nat) (o : Oper) : Prop :=
  ∀ (a : Act) (x : Nat → Value) (ls : Array Bool) (w : World), S ls w → ls.size = L.length → ls.getD i true = false → Closed L ls → (∀ j, j < L.length → ls.getD j false = false → x j = old a0 L j) → (∀ d i, slotB L d i = true → d < a0.tmps.size → a.eval (.tmp d) = x i) → (∀ d, (dsts L).contains d = false → a.eval (.tmp d) = a0.eval (.tmp d)) →
    (∀ e ∈ o.after.toList, Region.binds .any e = true → V e.on (x e.on) w) →
    ∀ K : Act → World → Prop, (∀ w' v, V i v w' → S (ls.setIfInBounds i true) w' → R ls w w' → K (a.put o.dst v) w') → o.wp P a w K (fun _ _ _ => False)
def StepsM (P : Program) : List Oper → Nat → Prop
  | [], _ => True
  | o :: os, i => StepM L a0 V S R P i o ∧ StepsM P os (i + 1)
variable {L a0 V S R}
theorem StepsM.at_ : ∀ {os : List Oper} {k : Nat}, StepsM L a0 V S R P os k → ∀ i o, os[i]? = some o → StepM L a0 V S R P (k + i) o
  | [], _, _, i, o, h => by simp at h
  | o' :: os, k, hs, i, o, h => by
    cases i with
    | zero => simp at h; subst h; exact hs.1
    | succ i => rw [show k + (i + 1) = k + 1 + i by omega]; exact StepsM.at_ hs.2 i o (by simpa using h)

theorem inv_anyM {Q : Exit → Act → World → Prop} (hok : okB L = true) (hg : L.all (fun o => o.guard == none) = true) (hV : ∀ ls j v w w', ls.getD j false = true → V j v w → R ls w w' → V j v w') (hs : StepsM L a0 V S R P L 0)
    (hend : ∀ (x : Nat → Value) ls w, S ls w → (∀ j, j < L.length → ls.getD j false = true) → (∀ j, j < L.length → V j (x j) w) → Q .normal (PA L 0 x a0) w) :
    ∀ (f : Nat) (listed : Array Bool) (x : Nat → Value) (w : World), listed.size = L.length → unl L.length listed ≤ f → S listed w → Closed L listed → (∀ j, j < L.length → listed.getD j false = false → x j = old a0 L j) → (∀ j, listed.getD j false = true → V j (x j) w) →
      wpAny P .any L.toArray Q f listed (PA L 0 x a0) w := by
  simp only [okB, Bool.and_eq_true, decide_eq_true_eq] at hok
  obtain ⟨hb, hn⟩ := hok
  have fin : ∀ (listed : Array Bool) (x : Nat → Value) (w : World), listed.size = L.length → S listed w → (∀ j, listed.getD j false = true → V j (x j) w) → (∀ i, i < L.length → listed.getD i true = true) → Q .normal (PA L 0 x a0) w := by
    intro listed x w hz hS hx hall
    have hall' : ∀ j, j < L.length → listed.getD j false = true := fun j hj => by
      have h4 : j < listed.size := by omega
      simpa [h4] using hall j hj
    exact hend x listed w hS hall' fun j hj => hx j (hall' j hj)
  intro f
  induction f with
  | zero =>
    intro listed x w hz hf hS hcl hun hx
    have hall : ∀ i, i < L.length → listed.getD i true = true := by
      intro i hi
      cases h : listed.getD i true with
      | true => rfl
      | false =>
        exfalso
        have : i ∈ (List.range L.length).filter fun i => !listed.getD i true := List.mem_filter.2 ⟨List.mem_range.2 hi, by rw [h]; rfl⟩
        have := List.length_pos_of_mem this
        unfold unl at hf
        omega
    refine ⟨?_, fin listed x w hz hS hx hall⟩
    rw [List.eq_nil_iff_forall_not_mem]
    intro i hi
    obtain ⟨h1, o, ho, -⟩ := mem_ready.1 hi
    have hi2 : i < L.length := by
      have := (Array.getElem?_eq_some_iff.1 ho).1
      simpa using this
    rw [hall i hi2] at h1
    cases h1
  | succ f ih =>
    intro listed x w hz hf hS hcl hun hx
    refine ⟨fun hr => fin listed x w hz hS hx (all_listed hb hz hr), fun i hi => ?_⟩
    obtain ⟨h1, o, ho, hdep⟩ := mem_ready.1 hi
    have hi2 : i < L.length := by
      have := (Array.getElem?_eq_some_iff.1 ho).1
      simpa using this
    have hol : L[i]? = some o := by simpa using ho
    have hgd : o.guard = none := by
      have := List.all_eq_true.1 hg o (List.mem_of_getElem? hol)
      simpa using this
    have hst := hs.at_ i o hol
    rw [Nat.zero_add] at hst
    have h4 : i < listed.size := by omega
    have h := hst (PA L 0 x a0) x listed w hS hz h1 hcl hun (fun d i g1 g2 => PA_slot g1 g2) (fun d g1 => PA_old_slot g1) (fun e he hbd => hx e.on (hdep e (by simpa using he) hbd)) (wpAny P .any L.toArray Q f (listed.setIfInBounds i true)) (by
      intro w' v hv hS' hR
      rw [PA_upd L 0 x a0 i o v hn hol, Nat.zero_add]
      refine ih (listed.setIfInBounds i true) (upd x i v) w' (by simpa using hz) ?_ hS' ?_ ?_ ?_
      · have : unl L.length (listed.setIfInBounds i true) < unl L.length listed := by
          refine filter_lt _ _ _ ?_ i (List.mem_range.2 hi2) ?_ ?_
          · intro y hy hp
            by_cases hyi : i = y
            · subst hyi
              simp [h4] at hp
            · rw [getD_set_ne true hyi] at hp; exact hp
          · simp [h4]
          · rw [h1]; rfl
        omega
      · intro j o' ho' hj e he hbd
        by_cases hji : j = i
        · subst hji
          rw [hol] at ho'
          obtain rfl := Option.some.inj ho'
          have := hdep e (by simpa using he) hbd
          by_cases hei : j = e.on
          · rw [← hei]; simp [h4]
          · rw [getD_set_ne false hei]; exact this
        · rw [getD_set_ne false (Ne.symm hji)] at hj
          have := hcl j o' ho' hj e he hbd
          by_cases hei : i = e.on
          · rw [← hei]; simp [h4]
          · rw [getD_set_ne false hei]; exact this
      · intro j hj hl
        by_cases hji : j = i
        · subst hji; simp [h4] at hl
        · rw [upd_ne _ _ _ _ hji]
          rw [getD_set_ne false (Ne.symm hji)] at hl
          exact hun j hj hl
      · intro j hj
        by_cases hji : j = i
        · subst hji; rw [upd_same]; exact hv
        · rw [upd_ne _ _ _ _ hji]
          rw [getD_set_ne false (Ne.symm hji)] at hj
          exact hV _ _ _ _ _ hj (hx j hj) hR)
    unfold wpOp
    rw [ho]
    dsimp only
    rw [if_pos (by unfold Region.wanted; rw [hgd])]
    exact .inl (wp_mono_both (fun _ _ h => h) h trivial)
/-- the region, without guards; what is read and written in it: an operation that has not been carried out leaves its slot as it was -/
theorem wp_region_M {id : Nat} {Q : Exit → Act → World → Prop} {w : World} {ops : Array Oper} (V : Nat → Value → World → Prop) (S : Array Bool → World → Prop) (R : Array Bool → World → World → Prop) (hm : P.follows .mixedOrders = true) (hok : okB ops.toList = true) (hg : ops.toList.all (fun o => o.guard == none) = true)
    (hV : ∀ ls j v w w', ls.getD j false = true → V j v w → R ls w w' → V j v w') (hS : S (Array.replicate ops.size false) { w with drawn := w.drawn + 1 }) (hs : StepsM ops.toList a0 V S R P ops.toList 0)
    (hend : ∀ (A : Act) (x : Nat → Value) ls w, S ls w → (∀ j, j < ops.toList.length → ls.getD j false = true) → (∀ d i, slotB ops.toList d i = true → d < a0.tmps.size → A.eval (.tmp d) = x i) → (∀ d, (dsts ops.toList).contains d = false → A.eval (.tmp d) = a0.eval (.tmp d)) → (∀ j, j < ops.toList.length → V j (x j) w) →
      RowKit.Hid (A = ⟨(setAll ops.toList 0 x a0.tmps.toList).toArray, a0.defers⟩) → Q .normal A w) : (Code.region id ops true).wp P Q a0 w := by
  refine wp_region_any hm ?_
  have hold : PA ops.toList 0 (old a0 ops.toList) a0 = a0 := PA_old ops.toList 0 _ a0 (fun i o d h1 h2 => by unfold old; rw [Nat.zero_add, h1]; simp [h2])
  have hrep : ∀ j, (Array.replicate ops.size false).getD j false = false := by
    intro j
    rw [Array.getD_eq_getD_getElem?]
    cases h : (Array.replicate ops.size false)[j]? with
    | none => rfl
    | some b =>
      obtain ⟨h1, h2⟩ := Array.getElem?_eq_some_iff.1 h
      simp at h2
      simp [← h2]
  have := inv_anyM (P := P) (Q := Q) hok hg hV hs (fun x ls w h1 h2 h3 => hend (PA ops.toList 0 x a0) x ls w h1 h2 (fun d i g1 g2 => PA_slot g1 g2) (fun d g1 => PA_old_slot g1) h3 (PA_list ops.toList 0 x a0)) ops.size (Array.replicate ops.size false) (old a0 ops.toList) { w with drawn := w.drawn + 1 } (by simp) ?_ hS ?_ ?_ ?_
  · rw [hold] at this
    simpa using this
  · unfold unl
    have := List.length_filter_le (fun i => !(Array.replicate ops.size false).getD i true) (List.range ops.toList.length)
    simp only [List.length_range] at this
    simpa using this
  · intro j o ho hj
    rw [hrep] at hj; cases hj
  · intro j _ _; rfl
  · intro j hj
    rw [hrep] at hj; cases hj
end
end RI
end Go.Proofs.Ytjeadmndnbggmaa
