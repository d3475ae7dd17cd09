/- A region that draws its order: an invariant over what has been carried out serves every order. Plain lemmas over any program. -/
import Derived.Test.YtjeadmndnbggmaaHyb
set_option linter.unusedVariables false
set_option linter.unusedSimpArgs false
namespace Go.Proofs.Ytjeadmndnbggmaa
namespace RI

/-- all operations' values put in -/
def PA : List Oper → Nat → (Nat → Value) → Act → Act
  | [], _, _, a => a
  | o :: os, k, x, a => PA os (k + 1) x (a.put o.dst (x k))
def upd (x : Nat → Value) (i : Nat) (v : Value) : Nat → Value := fun j => if j = i then v else x j
theorem PA_congr : ∀ (os : List Oper) (k : Nat) (x y : Nat → Value) (a : Act), (∀ j, k ≤ j → x j = y j) → PA os k x a = PA os k y a
  | [], _, _, _, _, _ => rfl
  | o :: os, k, x, y, a, h => by
    unfold PA
    rw [h k (Nat.le_refl _)]
    exact PA_congr os (k + 1) x y _ (fun j hj => h j (by omega))
def dsts (os : List Oper) : List Nat := os.filterMap (·.dst)
theorem put_put (a : Act) (d : Nat) (u v : Value) : (a.put (some d) u).put (some d) v = a.put (some d) v := by
  simp [Act.put]
theorem put_swap (a : Act) (d e : Nat) (u v : Value) (h : d ≠ e) : (a.put (some d) u).put (some e) v = (a.put (some e) v).put (some d) u := by
  simp only [Act.put]
  rw [Array.setIfInBounds_comm _ _ h]
theorem PA_put : ∀ (os : List Oper) (k : Nat) (x : Nat → Value) (a : Act) (d : Nat) (v : Value), d ∉ dsts os → PA os k x (a.put (some d) v) = (PA os k x a).put (some d) v
  | [], _, _, _, _, _, _ => rfl
  | o :: os, k, x, a, d, v, h => by
    unfold PA
    cases hd : o.dst with
    | none =>
      rw [hd] at *
      have h2 : d ∉ dsts os := fun h' => h (by simp [dsts, hd] at h' ⊢; exact .inr h')
      exact PA_put os (k + 1) x a d v h2
    | some e =>
      have h1 : e ≠ d := fun h' => h (by simp [dsts, hd, h'])
      have h2 : d ∉ dsts os := fun h' => h (by simp [dsts, hd] at h' ⊢; exact .inr h')
      rw [put_swap _ _ _ _ _ (Ne.symm h1)]
      exact PA_put os (k + 1) x _ d v h2
theorem PA_upd : ∀ (os : List Oper) (k : Nat) (x : Nat → Value) (a : Act) (i : Nat) (o : Oper) (v : Value), (dsts os).Nodup → os[i]? = some o → (PA os k x a).put o.dst v = PA os k (upd x (k + i) v) a
  | [], _, _, _, _, _, _, _, h => by simp at h
  | o' :: os, k, x, a, i, o, v, hn, h => by
    have hn2 : (dsts os).Nodup := by
      cases hd : o'.dst with
      | none => simpa [dsts, hd] using hn
      | some e => have := hn; simp [dsts, hd] at this; exact this.2
    cases i with
    | zero =>
      simp at h
      subst h
      unfold PA
      have e1 : upd x (k + 0) v k = v := by simp [upd]
      have e2 : ∀ j, k + 1 ≤ j → x j = upd x (k + 0) v j := fun j hj => by unfold upd; rw [if_neg (by omega)]
      rw [e1, ← PA_congr os (k + 1) x _ _ e2]
      cases hd : o'.dst with
      | none => rfl
      | some e =>
        have h2 : e ∉ dsts os := by
          have := hn
          simp [dsts, hd] at this
          simpa [dsts] using this.1
        rw [← PA_put os (k + 1) x _ e v h2, put_put]
    | succ i =>
      simp at h
      unfold PA
      have e1 : upd x (k + (i + 1)) v k = x k := by unfold upd; rw [if_neg (by omega)]
      rw [e1, show k + (i + 1) = k + 1 + i by omega]
      exact PA_upd os (k + 1) x _ i o v hn2 h
def old (a : Act) (os : List Oper) : Nat → Value := fun j => match (os[j]?).bind (·.dst) with
  | some d => a.tmps.getD d undef
  | none => undef
theorem put_own (a : Act) (d : Nat) : a.put (some d) (a.tmps.getD d undef) = a := by
  cases a with
  | mk t ds =>
    simp only [Act.put, Act.mk.injEq, and_true]
    apply Array.ext
    · simp
    · intro i h1 h2
      by_cases h : d = i
      · subst h
        rw [Array.getElem_setIfInBounds_self]
        simp at h1
        simp [h1]
      · rw [Array.getElem_setIfInBounds_ne _ h]
theorem PA_old : ∀ (os : List Oper) (k : Nat) (x : Nat → Value) (a : Act), (∀ i o d, os[i]? = some o → o.dst = some d → x (k + i) = a.tmps.getD d undef) → PA os k x a = a
  | [], _, _, _, _ => rfl
  | o :: os, k, x, a, h => by
    unfold PA
    have e : a.put o.dst (x k) = a := by
      cases hd : o.dst with
      | none => rfl
      | some d => rw [show x k = a.tmps.getD d undef from h 0 o d rfl hd]; exact put_own a d
    rw [e]
    exact PA_old os (k + 1) x a (fun i o' d h1 h2 => by rw [show k + 1 + i = k + (i + 1) by omega]; exact h (i + 1) o' d (by simpa using h1) h2)

section
variable {P : Program} {md : Region.Mode} (l : List Oper) (a0 : Act) (V : Nat → Value → World → Prop) (S : World → Prop) (R : World → World → Prop)

/-- what is asked of one operation -/
def Step (P : Program) (i : Nat) (o : Oper) : Prop := ∀ (x : Nat → Value) (w : World), S w → (∀ e ∈ o.after.toList, Region.binds .any e = true → V e.on (x e.on) w) →
  ∀ K : Act → World → Prop, (∀ a' w' v, a' = (PA l 0 x a0).put o.dst v → V i v w' → S w' → R w w' → K a' w') →
    if Region.wanted o (yielded l.toArray (PA l 0 x a0).tmps) then o.wp P (PA l 0 x a0) w K (fun _ _ _ => False) else K ((PA l 0 x a0).put o.dst undef) w
def Steps (P : Program) : List Oper → Nat → Prop
  | [], _ => True
  | o :: os, i => Step l a0 V S R P i o ∧ Steps P os (i + 1)
variable {l a0 V S R}
theorem Steps.at_ : ∀ {os : List Oper} {k : Nat}, Steps l a0 V S R P os k → ∀ i o, os[i]? = some o → Step l a0 V S R P (k + i) o
  | [], _, _, i, o, h => by simp at h
  | o' :: os, k, hs, i, o, h => by
    cases i with
    | zero => simp at h; subst h; exact hs.1
    | succ i => rw [show k + (i + 1) = k + 1 + i by omega]; exact Steps.at_ hs.2 i o (by simpa using h)
def unl (n : Nat) (listed : Array Bool) : Nat := ((List.range n).filter fun i => !listed.getD i true).length
theorem filter_lt {α : Type} (p q : α → Bool) (xs : List α) (h : ∀ y ∈ xs, p y = true → q y = true) (z : α) (hz : z ∈ xs) (h1 : p z = false) (h2 : q z = true) : (xs.filter p).length < (xs.filter q).length := by
  have le : ∀ ys : List α, (∀ y ∈ ys, p y = true → q y = true) → (ys.filter p).length ≤ (ys.filter q).length := by
    intro ys
    induction ys with
    | nil => intro _; exact Nat.le_refl _
    | cons y ys ih =>
      intro h
      have := ih (fun y hy => h y (by simp [hy]))
      cases hp : p y
      · rw [List.filter_cons_of_neg (by simp [hp])]
        cases hq : q y
        · rw [List.filter_cons_of_neg (by simp [hq])]; exact this
        · rw [List.filter_cons_of_pos hq]; simp; omega
      · rw [List.filter_cons_of_pos hp, List.filter_cons_of_pos (h y (by simp) hp)]; simp; exact this
  induction xs with
  | nil => cases hz
  | cons y ys ih =>
    have hle := le ys (fun y hy => h y (by simp [hy]))
    rcases List.mem_cons.1 hz with rfl | hz
    · rw [List.filter_cons_of_neg (by simp [h1]), List.filter_cons_of_pos h2]; simp; omega
    · have := ih (fun y hy => h y (by simp [hy])) hz
      cases hp : p y
      · rw [List.filter_cons_of_neg (by simp [hp])]
        cases hq : q y
        · rw [List.filter_cons_of_neg (by simp [hq])]; exact this
        · rw [List.filter_cons_of_pos hq]; simp; omega
      · rw [List.filter_cons_of_pos hp, List.filter_cons_of_pos (h y (by simp) hp)]; simp; exact this

def backB (l : List Oper) : Bool := (List.range l.length).all fun i => match l[i]? with
  | some o => o.after.all fun e => !Region.binds .any e || decide (e.on < i)
  | none => true
def okB (l : List Oper) : Bool := backB l && decide ((dsts l).Nodup)

theorem all_listed (hb : backB l = true) {listed : Array Bool} (hz : listed.size = l.length) (hr : Region.ready .any l.toArray listed = []) : ∀ i, i < l.length → listed.getD i true = true := by
  intro i
  induction i using Nat.strongRecOn with
  | ind i ih =>
    intro hi
    cases h : listed.getD i true with
    | true => rfl
    | false =>
      exfalso
      have hmem : i ∈ Region.ready .any l.toArray listed := by
        rw [mem_ready]
        refine ⟨h, l[i], by simp [hi], fun e he hbd => ?_⟩
        have h1 := List.all_eq_true.1 hb i (List.mem_range.2 hi)
        simp only [List.getElem?_eq_getElem hi] at h1
        have h2 := Array.all_eq_true'.1 h1 e he
        simp [hbd] at h2
        have h3 := ih e.on h2 (by omega)
        have h4 : e.on < listed.size := by omega
        simpa [h4] using h3
      rw [hr] at hmem
      cases hmem
theorem upd_same (x : Nat → Value) (i : Nat) (v : Value) : upd x i v i = v := by simp [upd]
theorem upd_ne (x : Nat → Value) (i j : Nat) (v : Value) (h : j ≠ i) : upd x i v j = x j := by unfold upd; rw [if_neg h]

theorem inv_any {Q : Exit → Act → World → Prop} (hok : okB l = true) (hV : ∀ j v w w', V j v w → R w w' → V j v w') (hs : Steps l a0 V S R P l 0)
    (hend : ∀ (x : Nat → Value) w, S w → (∀ j, j < l.length → V j (x j) w) → Q .normal (PA l 0 x a0) w) :
    ∀ (f : Nat) (listed : Array Bool) (x : Nat → Value) (w : World), listed.size = l.length → unl l.length listed ≤ f → S w → (∀ j, listed.getD j false = true → V j (x j) w) →
      wpAny P .any l.toArray Q f listed (PA l 0 x a0) w := by
  simp only [okB, Bool.and_eq_true, decide_eq_true_eq] at hok
  obtain ⟨hb, hn⟩ := hok
  have fin : ∀ (listed : Array Bool) (x : Nat → Value) (w : World), listed.size = l.length → S w → (∀ j, listed.getD j false = true → V j (x j) w) → (∀ i, i < l.length → listed.getD i true = true) → Q .normal (PA l 0 x a0) w := by
    intro listed x w hz hS hx hall
    refine hend x w hS fun j hj => hx j ?_
    have h4 : j < listed.size := by omega
    simpa [h4] using hall j hj
  intro f
  induction f with
  | zero =>
    intro listed x w hz hf hS hx
    have hall : ∀ i, i < l.length → listed.getD i true = true := by
      intro i hi
      cases h : listed.getD i true with
      | true => rfl
      | false =>
        exfalso
        have : i ∈ (List.range l.length).filter fun i => !listed.getD i true := List.mem_filter.2 ⟨List.mem_range.2 hi, by rw [h]; rfl⟩
        have := List.length_pos_of_mem this
        unfold unl at hf
        omega
    refine ⟨?_, fin listed x w hz hS hx hall⟩
    rw [List.eq_nil_iff_forall_not_mem]
    intro i hi
    obtain ⟨h1, o, ho, -⟩ := mem_ready.1 hi
    have hi2 : i < l.length := by
      have := (Array.getElem?_eq_some_iff.1 ho).1
      simpa using this
    rw [hall i hi2] at h1
    cases h1
  | succ f ih =>
    intro listed x w hz hf hS hx
    refine ⟨fun hr => fin listed x w hz hS hx (all_listed hb hz hr), fun i hi => ?_⟩
    obtain ⟨h1, o, ho, hdep⟩ := mem_ready.1 hi
    have hi2 : i < l.length := by
      have := (Array.getElem?_eq_some_iff.1 ho).1
      simpa using this
    have hol : l[i]? = some o := by simpa using ho
    have hst := hs.at_ i o hol
    rw [Nat.zero_add] at hst
    have h := hst x w hS (fun e he hbd => hx e.on (hdep e (by simpa using he) hbd)) (wpAny P .any l.toArray Q f (listed.setIfInBounds i true)) (by
      intro a' w' v ha hv hS' hR
      rw [PA_upd l 0 x a0 i o v hn hol, Nat.zero_add] at ha
      rw [ha]
      refine ih (listed.setIfInBounds i true) (upd x i v) w' (by simpa using hz) ?_ hS' ?_
      · have : unl l.length (listed.setIfInBounds i true) < unl l.length listed := by
          refine filter_lt _ _ _ ?_ i (List.mem_range.2 hi2) ?_ ?_
          · intro y hy hp
            by_cases hyi : i = y
            · subst hyi
              have h4 : i < listed.size := by omega
              simp [h4] at hp
            · rw [getD_set_ne true hyi] at hp; exact hp
          · have h4 : i < listed.size := by omega
            simp [h4]
          · rw [h1]; rfl
        omega
      · intro j hj
        by_cases hji : j = i
        · subst hji; rw [upd_same]; exact hv
        · rw [upd_ne _ _ _ _ hji]
          rw [getD_set_ne false (Ne.symm hji)] at hj
          exact hV _ _ _ _ (hx j hj) hR)
    unfold wpOp
    rw [ho]
    dsimp only
    split
    · rename_i hw
      simp only [hw, if_true] at h
      exact .inl (wp_mono_both (fun _ _ h => h) h trivial)
    · rename_i hw
      simp only [hw] at h
      exact h
/-- the region -/
theorem wp_region_inv {id : Nat} {Q : Exit → Act → World → Prop} {w : World} (V : Nat → Value → World → Prop) (S : World → Prop) (R : World → World → Prop) (hm : P.follows .mixedOrders = true) (hok : okB l = true)
    (hV : ∀ j v w w', V j v w → R w w' → V j v w') (hS : S { w with drawn := w.drawn + 1 }) (hs : Steps l a0 V S R P l 0)
    (hend : ∀ (x : Nat → Value) w, S w → (∀ j, j < l.length → V j (x j) w) → Q .normal (PA l 0 x a0) w) : (Code.region id l.toArray true).wp P Q a0 w := by
  refine wp_region_any hm ?_
  have hold : PA l 0 (old a0 l) a0 = a0 := PA_old l 0 _ a0 (fun i o d h1 h2 => by unfold old; rw [Nat.zero_add, h1]; simp [h2])
  have := inv_any (P := P) (Q := Q) hok hV hs hend l.toArray.size (Array.replicate l.toArray.size false) (old a0 l) { w with drawn := w.drawn + 1 } (by simp) ?_ hS ?_
  · rw [hold] at this; exact this
  · unfold unl
    have := List.length_filter_le (fun i => !(Array.replicate l.toArray.size false).getD i true) (List.range l.length)
    simp only [List.length_range] at this
    simpa using this
  · intro j hj
    exfalso
    revert hj
    rw [Array.getD_eq_getD_getElem?]
    cases h : (Array.replicate l.toArray.size false)[j]? with
    | none => simp
    | some b =>
      have := Array.getElem?_eq_some_iff.1 h
      obtain ⟨h1, h2⟩ := this
      simp at h2
      simp [← h2]

/-- what is asked of one operation, where a store comes last -/
def StepZ (l : List Oper) (oz : Oper) (a0 : Act) (V : Nat → Value → World → Prop) (S : World → Prop) (R : World → World → Prop) (P : Program) (i : Nat) (o : Oper) : Prop := ∀ (x : Nat → Value) (w : World), S w → (∀ e ∈ o.after.toList, Region.binds .any e = true → V e.on (x e.on) w) →
  ∀ K : Act → World → Prop, (∀ a' w' v, a' = (PA l 0 x a0).put o.dst v → V i v w' → S w' → R w w' → K a' w') →
    if Region.wanted o (yielded (l ++ [oz]).toArray (PA l 0 x a0).tmps) then o.wp P (PA l 0 x a0) w K (fun _ _ _ => False) else K ((PA l 0 x a0).put o.dst undef) w
def StepsZ (l : List Oper) (oz : Oper) (a0 : Act) (V : Nat → Value → World → Prop) (S : World → Prop) (R : World → World → Prop) (P : Program) : List Oper → Nat → Prop
  | [], _ => True
  | o :: os, i => StepZ l oz a0 V S R P i o ∧ StepsZ l oz a0 V S R P os (i + 1)
theorem StepsZ.at_ {oz : Oper} : ∀ {os : List Oper} {k : Nat}, StepsZ l oz a0 V S R P os k → ∀ i o, os[i]? = some o → StepZ l oz a0 V S R P (k + i) o
  | [], _, _, i, o, h => by simp at h
  | o' :: os, k, hs, i, o, h => by
    cases i with
    | zero => simp at h; subst h; exact hs.1
    | succ i => rw [show k + (i + 1) = k + 1 + i by omega]; exact StepsZ.at_ hs.2 i o (by simpa using h)
def lastB (l : List Oper) (oz : Oper) : Bool := (List.range l.length).all (fun j => oz.after.any fun e => Region.binds .any e && e.on == j) && oz.after.all (fun e => !Region.binds .any e || decide (e.on < l.length)) && oz.dst == none && oz.guard == none

theorem inv_last {Q : Exit → Act → World → Prop} {oz : Oper} (hok : okB l = true) (hz0 : lastB l oz = true) (hV : ∀ j v w w', V j v w → R w w' → V j v w') (hs : StepsZ l oz a0 V S R P l 0)
    (hend : ∀ (x : Nat → Value) w, S w → (∀ j, j < l.length → V j (x j) w) → oz.wp P (PA l 0 x a0) w (fun a' w' => Q .normal a' w') (fun _ _ _ => False)) :
    ∀ (f : Nat) (listed : Array Bool) (x : Nat → Value) (w : World), listed.size = l.length + 1 → unl (l.length + 1) listed ≤ f → listed.getD l.length true = false → S w → (∀ j, j < l.length → listed.getD j false = true → V j (x j) w) →
      wpAny P .any (l ++ [oz]).toArray Q f listed (PA l 0 x a0) w := by
  simp only [okB, Bool.and_eq_true, decide_eq_true_eq] at hok
  obtain ⟨hb, hn⟩ := hok
  simp only [lastB, Bool.and_eq_true] at hz0
  obtain ⟨⟨⟨hza, hzc⟩, hzd⟩, hzg⟩ := hz0
  have hzd' : oz.dst = none := by simpa using hzd
  have hzg' : oz.guard = none := by simpa using hzg
  have hoz : (l ++ [oz]).toArray[l.length]? = some oz := by simp
  intro f
  induction f with
  | zero =>
    intro listed x w hz hf hun hS hx
    exfalso
    have : l.length ∈ (List.range (l.length + 1)).filter fun i => !listed.getD i true := List.mem_filter.2 ⟨List.mem_range.2 (by omega), by rw [hun]; rfl⟩
    have := List.length_pos_of_mem this
    unfold unl at hf
    omega
  | succ f ih =>
    intro listed x w hz hf hun hS hx
    have least : ∀ i, i < l.length → listed.getD i true = false → ∃ j, j ∈ Region.ready .any (l ++ [oz]).toArray listed := by
      intro i
      induction i using Nat.strongRecOn with
      | ind i ihi =>
        intro hi h
        by_cases hall : ∀ e ∈ (l[i]).after, Region.binds .any e = true → listed.getD e.on false = true
        · exact ⟨i, mem_ready.2 ⟨h, l[i], by simp [List.getElem?_append_left hi, List.getElem?_eq_getElem hi], hall⟩⟩
        · simp only [Classical.not_forall] at hall
          obtain ⟨e, he, hbd, hne⟩ := hall
          have h1 := List.all_eq_true.1 hb i (List.mem_range.2 hi)
          simp only [List.getElem?_eq_getElem hi] at h1
          have h2 := Array.all_eq_true'.1 h1 e he
          simp [hbd] at h2
          have h4 : e.on < listed.size := by omega
          exact ihi e.on h2 (by omega) (by simp [h4] at hne ⊢; exact hne)
    refine ⟨fun hr => ?_, fun i hi => ?_⟩
    · exfalso
      by_cases hall : ∀ i, i < l.length → listed.getD i true = true
      · have hm : l.length ∈ Region.ready .any (l ++ [oz]).toArray listed := by
          rw [mem_ready]
          refine ⟨hun, oz, hoz, fun e he hbd => ?_⟩
          have h2 := Array.all_eq_true'.1 hzc e he
          simp [hbd] at h2
          have h3 := hall e.on h2
          have h4 : e.on < listed.size := by omega
          simpa [h4] using h3
        rw [hr] at hm; cases hm
      · simp only [Classical.not_forall] at hall
        obtain ⟨i, hi, h⟩ := hall
        obtain ⟨j, hj⟩ := least i hi (by simpa using h)
        rw [hr] at hj; cases hj
    · obtain ⟨h1, o, ho, hdep⟩ := mem_ready.1 hi
      have hi2 : i < l.length + 1 := by
        have := (Array.getElem?_eq_some_iff.1 ho).1
        simpa using this
      have h4 : i < listed.size := by omega
      have hless : unl (l.length + 1) (listed.setIfInBounds i true) < unl (l.length + 1) listed := by
        refine filter_lt _ _ _ ?_ i (List.mem_range.2 hi2) ?_ ?_
        · intro y hy hp
          by_cases hyi : i = y
          · subst hyi
            simp [h4] at hp
          · rw [getD_set_ne true hyi] at hp; exact hp
        · simp [h4]
        · rw [h1]; rfl
      by_cases hil : i = l.length
      · subst hil
        rw [hoz] at ho
        obtain rfl := Option.some.inj ho
        have hallj : ∀ j, j < l.length → listed.getD j false = true := by
          intro j hj
          have h2 := List.all_eq_true.1 hza j (List.mem_range.2 hj)
          obtain ⟨e, he, hbe⟩ := Array.any_eq_true'.1 h2
          simp only [Bool.and_eq_true, beq_iff_eq] at hbe
          rw [← hbe.2]
          exact hdep e he hbe.1
        have h := hend x w hS (fun j hj => hx j hj (hallj j hj))
        have hempty : Region.ready .any (l ++ [oz]).toArray (listed.setIfInBounds l.length true) = [] := by
          rw [List.eq_nil_iff_forall_not_mem]
          intro j hj
          obtain ⟨g1, o', g2, -⟩ := mem_ready.1 hj
          have hj2 : j < l.length + 1 := by
            have := (Array.getElem?_eq_some_iff.1 g2).1
            simpa using this
          by_cases hjl : l.length = j
          · subst hjl; simp [h4] at g1
          · rw [getD_set_ne true hjl] at g1
            have g3 := hallj j (by omega)
            have g4 : j < listed.size := by omega
            simp [g4] at g1 g3
            rw [g1] at g3; cases g3
        unfold wpOp
        rw [hoz]
        dsimp only
        rw [if_pos (by unfold Region.wanted; rw [hzg'])]
        refine .inl (wp_mono_both (fun a' w' hq => ?_) h trivial)
        cases f with
        | zero => exact ⟨hempty, hq⟩
        | succ f => exact ⟨fun _ => hq, fun j hj => by rw [hempty] at hj; cases hj⟩
      · have hi3 : i < l.length := by omega
        have hol : l[i]? = some o := by
          have : (l ++ [oz])[i]? = some o := by simpa using ho
          rwa [List.getElem?_append_left hi3] at this
        have hst := hs.at_ i o hol
        rw [Nat.zero_add] at hst
        have hback : ∀ e ∈ o.after, Region.binds .any e = true → e.on < l.length := by
          intro e he hbd
          have h1 := List.all_eq_true.1 hb i (List.mem_range.2 hi3)
          rw [hol] at h1
          have h2 := Array.all_eq_true'.1 h1 e he
          simp [hbd] at h2
          omega
        have h := hst x w hS (fun e he hbd => hx e.on (hback e (by simpa using he) hbd) (hdep e (by simpa using he) hbd)) (wpAny P .any (l ++ [oz]).toArray Q f (listed.setIfInBounds i true)) (by
          intro a' w' v ha hv hS' hR
          rw [PA_upd l 0 x a0 i o v hn hol, Nat.zero_add] at ha
          rw [ha]
          refine ih (listed.setIfInBounds i true) (upd x i v) w' (by simpa using hz) (by omega) ?_ hS' ?_
          · rw [getD_set_ne true hil]; exact hun
          · intro j hjl hj
            by_cases hji : j = i
            · subst hji; rw [upd_same]; exact hv
            · rw [upd_ne _ _ _ _ hji]
              rw [getD_set_ne false (Ne.symm hji)] at hj
              exact hV _ _ _ _ (hx j hjl hj) hR)
        unfold wpOp
        rw [ho]
        dsimp only
        split
        · rename_i hw
          simp only [hw, if_true] at h
          exact .inl (wp_mono_both (fun _ _ h => h) h trivial)
        · rename_i hw
          simp only [hw] at h
          exact h
/-- the region, a store last -/
theorem wp_region_last {id : Nat} {Q : Exit → Act → World → Prop} {w : World} {oz : Oper} (V : Nat → Value → World → Prop) (S : World → Prop) (R : World → World → Prop) (hm : P.follows .mixedOrders = true) (hok : okB l = true) (hz : lastB l oz = true)
    (hV : ∀ j v w w', V j v w → R w w' → V j v w') (hS : S { w with drawn := w.drawn + 1 }) (hs : StepsZ l oz a0 V S R P l 0)
    (hend : ∀ (x : Nat → Value) w, S w → (∀ j, j < l.length → V j (x j) w) → oz.wp P (PA l 0 x a0) w (fun a' w' => Q .normal a' w') (fun _ _ _ => False)) : (Code.region id (l ++ [oz]).toArray true).wp P Q a0 w := by
  refine wp_region_any hm ?_
  have hold : PA l 0 (old a0 l) a0 = a0 := PA_old l 0 _ a0 (fun i o d h1 h2 => by unfold old; rw [Nat.zero_add, h1]; simp [h2])
  have hrep : ∀ j d, j < l.length + 1 → (Array.replicate (l ++ [oz]).toArray.size false).getD j d = false := by
    intro j d hj
    simp [Array.getElem?_replicate, hj]
  have := inv_last (P := P) (Q := Q) (oz := oz) hok hz hV hs hend (l ++ [oz]).toArray.size (Array.replicate (l ++ [oz]).toArray.size false) (old a0 l) { w with drawn := w.drawn + 1 } (by simp) ?_ (hrep _ _ (by omega)) hS ?_
  · rw [hold] at this; exact this
  · unfold unl
    have := List.length_filter_le (fun i => !(Array.replicate (l ++ [oz]).toArray.size false).getD i true) (List.range (l.length + 1))
    simp only [List.length_range] at this
    simpa using this
  · intro j hjl hj
    rw [hrep j false (by omega)] at hj
    cases hj

theorem PA_last : ∀ (l : List Oper) (k : Nat) (x : Nat → Value) (a : Act) (oz : Oper), oz.dst = none → PA (l ++ [oz]) k x a = PA l k x a
  | [], k, x, a, oz, h => by simp only [List.nil_append, PA, h]; rfl
  | o :: l, k, x, a, oz, h => by
    simp only [List.cons_append, PA]
    exact PA_last l (k + 1) x _ oz h
/-- one operation of a region whose list is L -/
def StepL (L : List Oper) (a0 : Act) (V : Nat → Value → World → Prop) (S : World → Prop) (R : World → World → Prop) (P : Program) (i : Nat) (o : Oper) : Prop := ∀ (x : Nat → Value) (w : World), S w → (∀ e ∈ o.after.toList, Region.binds .any e = true → V e.on (x e.on) w) →
  ∀ K : Act → World → Prop, (∀ a' w' v, a' = (PA L 0 x a0).put o.dst v → V i v w' → S w' → R w w' → K a' w') →
    if Region.wanted o (yielded L.toArray (PA L 0 x a0).tmps) then o.wp P (PA L 0 x a0) w K (fun _ _ _ => False) else K ((PA L 0 x a0).put o.dst undef) w
def StepsY (L : List Oper) (a0 : Act) (V : Nat → Value → World → Prop) (S : World → Prop) (R : World → World → Prop) (P : Program) (Q : Exit → Act → World → Prop) : List Oper → Nat → Prop
  | [], _ => True
  | [oz], n => ∀ (x : Nat → Value) (w : World), S w → (∀ j, j < n → V j (x j) w) → oz.wp P (PA L 0 x a0) w (fun a' w' => Q .normal a' w') (fun _ _ _ => False)
  | o :: o' :: os, i => StepL L a0 V S R P i o ∧ StepsY L a0 V S R P Q (o' :: os) (i + 1)
theorem StepsY.split {Q : Exit → Act → World → Prop} {oz : Oper} (hd : oz.dst = none) : ∀ (os : List Oper) (k : Nat), StepsY (l ++ [oz]) a0 V S R P Q (os ++ [oz]) k →
    StepsZ l oz a0 V S R P os k ∧ (∀ (x : Nat → Value) (w : World), S w → (∀ j, j < k + os.length → V j (x j) w) → oz.wp P (PA l 0 x a0) w (fun a' w' => Q .normal a' w') (fun _ _ _ => False))
  | [], k, h => by
    refine ⟨trivial, fun x w h1 h2 => ?_⟩
    have := h x w h1 (by simpa using h2)
    rw [PA_last l 0 x a0 oz hd] at this
    exact this
  | o :: os, k, h => by
    have h' : StepL (l ++ [oz]) a0 V S R P k o ∧ StepsY (l ++ [oz]) a0 V S R P Q (os ++ [oz]) (k + 1) := by
      cases os with
      | nil => exact h
      | cons o2 os => exact h
    obtain ⟨h1, h2⟩ := StepsY.split hd os (k + 1) h'.2
    refine ⟨⟨?_, h1⟩, ?_⟩
    · intro x w hS hdp K hK
      have := h'.1 x w hS hdp K (by rw [PA_last l 0 x a0 oz hd]; exact hK)
      rw [PA_last l 0 x a0 oz hd] at this
      exact this
    · rw [List.length_cons, show k + (os.length + 1) = k + 1 + os.length by omega]
      exact h2
def okLB (L : List Oper) : Bool := okB L.dropLast && (match L.getLast? with
  | some oz => lastB L.dropLast oz
  | none => false)
/-- the region, a store last: L its list -/
theorem wp_region_list {id : Nat} {Q : Exit → Act → World → Prop} {w : World} {ops : Array Oper} (V : Nat → Value → World → Prop) (S : World → Prop) (R : World → World → Prop) (hm : P.follows .mixedOrders = true) (hok : okLB ops.toList = true)
    (hV : ∀ j v w w', V j v w → R w w' → V j v w') (hS : S { w with drawn := w.drawn + 1 }) (hs : StepsY ops.toList a0 V S R P Q ops.toList 0) : (Code.region id ops true).wp P Q a0 w := by
  unfold okLB at hok
  simp only [Bool.and_eq_true] at hok
  obtain ⟨h1, h2⟩ := hok
  cases hg : ops.toList.getLast? with
  | none => rw [hg] at h2; cases h2
  | some oz =>
    rw [hg] at h2
    dsimp only at h2
    obtain ⟨hne, hlast⟩ := List.getLast?_eq_some_iff.1 hg
    have hdl : ops.toList.dropLast = hne := by rw [hlast]; simp
    rw [hdl] at h1 h2
    have hd : oz.dst = none := by
      unfold lastB at h2
      simp only [Bool.and_eq_true] at h2
      simpa using h2.1.2
    rw [hlast] at hs
    obtain ⟨g1, g2⟩ := StepsY.split hd hne 0 hs
    have := wp_region_last (P := P) (id := id) (Q := Q) (w := w) (l := hne) (a0 := a0) V S R hm h1 h2 hV hS g1 (by simpa using g2)
    rw [← hlast] at this
    simpa using this
/-- facts that stand in a list -/
def Vof (Vs : List (Value → World → Prop)) : Nat → Value → World → Prop := fun j => Vs.getD j fun _ _ => True
theorem Vof.keeps {Vs : List (Value → World → Prop)} {R : World → World → Prop} (h : ∀ p ∈ Vs, ∀ v w w', p v w → R w w' → p v w') : ∀ j v w w', Vof Vs j v w → R w w' → Vof Vs j v w' := by
  intro j v w w' h1 h2
  unfold Vof at *
  rw [List.getD_eq_getElem?_getD] at *
  cases hj : Vs[j]? with
  | none => trivial
  | some p =>
    rw [hj] at h1
    exact h p (List.mem_of_getElem? hj) v w w' h1 h2

theorem PA_size : ∀ (os : List Oper) (k : Nat) (x : Nat → Value) (a : Act), (PA os k x a).tmps.size = a.tmps.size
  | [], _, _, _ => rfl
  | o :: os, k, x, a => by
    unfold PA
    rw [PA_size os (k + 1) x _]
    cases o.dst <;> simp [Act.put]
theorem eval_put (a : Act) (d : Nat) (v : Value) (h : d < a.tmps.size) : (a.put (some d) v).eval (.tmp d) = v := by
  simp [Act.put, Act.eval, h]
theorem eval_put_ne (a : Act) (x : Option Tmp) (d : Nat) (v : Value) (h : x ≠ some d) : (a.put x v).eval (.tmp d) = a.eval (.tmp d) := by
  cases x with
  | none => rfl
  | some e =>
    have : e ≠ d := fun h' => h (by rw [h'])
    simp only [Act.put, Act.eval]
    rw [Array.getD_eq_getD_getElem?, Array.getElem?_setIfInBounds_ne this, ← Array.getD_eq_getD_getElem?]
/-- a slot that the region does not write -/
theorem PA_out : ∀ (os : List Oper) (k : Nat) (x : Nat → Value) (a : Act) (d : Nat), d ∉ dsts os → (PA os k x a).eval (.tmp d) = a.eval (.tmp d)
  | [], _, _, _, _, _ => rfl
  | o :: os, k, x, a, d, h => by
    unfold PA
    have h2 : d ∉ dsts os := fun h' => h (by simp [dsts] at h' ⊢; exact .inr h')
    have h1 : o.dst ≠ some d := fun h' => h (by simp [dsts, h'])
    rw [PA_out os (k + 1) x _ d h2, eval_put_ne _ _ _ _ h1]
/-- a slot that the region writes -/
theorem PA_in : ∀ (os : List Oper) (k : Nat) (x : Nat → Value) (a : Act) (i : Nat) (o : Oper) (d : Nat), (dsts os).Nodup → os[i]? = some o → o.dst = some d → d < a.tmps.size → (PA os k x a).eval (.tmp d) = x (k + i)
  | [], _, _, _, _, _, _, _, h, _, _ => by simp at h
  | o' :: os, k, x, a, i, o, d, hn, h, hd, hs => by
    have hn2 : (dsts os).Nodup := by
      cases hd : o'.dst with
      | none => simpa [dsts, hd] using hn
      | some e => have := hn; simp [dsts, hd] at this; exact this.2
    unfold PA
    cases i with
    | zero =>
      simp at h
      subst h
      have h2 : d ∉ dsts os := by
        have := hn
        simp [dsts, hd] at this
        simpa [dsts] using this.1
      rw [PA_out os (k + 1) x _ d h2, hd, eval_put _ _ _ hs, Nat.add_zero]
    | succ i =>
      rw [PA_in os (k + 1) x _ i o d hn2 (by simpa using h) hd (by cases o'.dst <;> simp [Act.put, hs]), show k + 1 + i = k + (i + 1) by omega]
/-- the slot's value: that of the operation that writes it, or the old one -/
def slotB (L : List Oper) (d i : Nat) : Bool := decide ((dsts L).Nodup) && ((L[i]?).bind (·.dst) == some d)
theorem PA_slot {L : List Oper} {x : Nat → Value} {a : Act} {d i : Nat} (h : slotB L d i = true) (hs : d < a.tmps.size) : (PA L 0 x a).eval (.tmp d) = x i := by
  unfold slotB at h
  simp only [Bool.and_eq_true, decide_eq_true_eq, beq_iff_eq] at h
  obtain ⟨hn, h⟩ := h
  cases ho : L[i]? with
  | none => rw [ho] at h; cases h
  | some o =>
    rw [ho] at h
    rw [PA_in L 0 x a i o d hn ho h hs, Nat.zero_add]
theorem PA_old_slot {L : List Oper} {x : Nat → Value} {a : Act} {d : Nat} (h : (dsts L).contains d = false) : (PA L 0 x a).eval (.tmp d) = a.eval (.tmp d) :=
  PA_out L 0 x a d (by simpa using h)

/-- the same, over lists -/
def setAll : List Oper → Nat → (Nat → Value) → List Value → List Value
  | [], _, _, l => l
  | o :: os, k, x, l => setAll os (k + 1) x (match o.dst with | some d => l.set d (x k) | none => l)
theorem PA_list : ∀ (os : List Oper) (k : Nat) (x : Nat → Value) (a : Act), PA os k x a = ⟨(setAll os k x a.tmps.toList).toArray, a.defers⟩
  | [], _, _, a => rfl
  | o :: os, k, x, a => by
    unfold PA setAll
    rw [PA_list os (k + 1) x _]
    cases o.dst with
    | none => rfl
    | some d => simp [Act.put]
/-- one operation, its operands' values known by their slots -/
def StepE (L : List Oper) (a0 : Act) (V : Nat → Value → World → Prop) (S : World → Prop) (R : World → World → Prop) (P : Program) (i : Nat) (o : Oper) : Prop :=
  ∀ (a : Act) (x : Nat → Value) (w : World), S w → (∀ d i, slotB L d i = true → d < a0.tmps.size → a.eval (.tmp d) = x i) → (∀ d, (dsts L).contains d = false → a.eval (.tmp d) = a0.eval (.tmp d)) →
    (∀ e ∈ o.after.toList, Region.binds .any e = true → V e.on (x e.on) w) →
    ∀ K : Act → World → Prop, (∀ w' v, V i v w' → S w' → R w w' → K (a.put o.dst v) w') → o.wp P a w K (fun _ _ _ => False)
def StepsE (L : List Oper) (a0 : Act) (V : Nat → Value → World → Prop) (S : World → Prop) (R : World → World → Prop) (P : Program) (Q : Exit → Act → World → Prop) : List Oper → Nat → Prop
  | [], _ => True
  | [oz], n => ∀ (A : Act) (x : Nat → Value) (w : World), S w → (∀ d i, slotB L d i = true → d < a0.tmps.size → A.eval (.tmp d) = x i) → (∀ d, (dsts L).contains d = false → A.eval (.tmp d) = a0.eval (.tmp d)) → (∀ j, j < n → V j (x j) w) →
      RowKit.Hid (A = ⟨(setAll L 0 x a0.tmps.toList).toArray, a0.defers⟩) → oz.wp P A w (fun a' w' => Q .normal a' w') (fun _ _ _ => False)
  | o :: o' :: os, i => StepE L a0 V S R P i o ∧ StepsE L a0 V S R P Q (o' :: os) (i + 1)
theorem StepsE.toY {L : List Oper} {Q : Exit → Act → World → Prop} : ∀ (os : List Oper) (k : Nat), os.all (fun o => o.guard == none) = true → StepsE L a0 V S R P Q os k → StepsY L a0 V S R P Q os k
  | [], _, _, _ => trivial
  | [oz], _, _, h => fun x w hS hv => h (PA L 0 x a0) x w hS (fun d i h1 h2 => PA_slot h1 h2) (fun d h1 => PA_old_slot h1) hv (PA_list L 0 x a0)
  | o :: o' :: os, k, hg, h => by
    rw [List.all_cons, Bool.and_eq_true] at hg
    refine ⟨?_, StepsE.toY (o' :: os) (k + 1) hg.2 h.2⟩
    intro x w hS hd K hK
    have hgd : o.guard = none := by simpa using hg.1
    rw [if_pos (by unfold Region.wanted; rw [hgd])]
    exact h.1 (PA L 0 x a0) x w hS (fun d i h1 h2 => PA_slot h1 h2) (fun d h1 => PA_old_slot h1) hd K (fun w' v h1 h2 h3 => hK _ _ v rfl h1 h2 h3)
/-- the region without guards, a store last -/
theorem wp_region_all {id : Nat} {Q : Exit → Act → World → Prop} {w : World} {ops : Array Oper} (V : Nat → Value → World → Prop) (S : World → Prop) (R : World → World → Prop) (hm : P.follows .mixedOrders = true) (hok : okLB ops.toList = true) (hg : ops.toList.all (fun o => o.guard == none) = true)
    (hV : ∀ j v w w', V j v w → R w w' → V j v w') (hS : S { w with drawn := w.drawn + 1 }) (hs : StepsE ops.toList a0 V S R P Q ops.toList 0) : (Code.region id ops true).wp P Q a0 w :=
  wp_region_list V S R hm hok hV hS (StepsE.toY _ 0 hg hs)
end
end RI
end Go.Proofs.Ytjeadmndnbggmaa
