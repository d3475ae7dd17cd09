/- A region that draws its order: an invariant over what has been carried out serves every order. Plain lemmas over any program. A region that draws its order: an invariant that knows what has been carried out. Plain lemmas over any program. The signs of types: a map that the call makes, in any order. Rows of structs that the call owns last where one block alone changed. What lies where a cursor's block and a list's own one alone changed. Plain lemmas. -/
import Derived.Test.YtpbjkgpdkopgmaaGreatDoorG01
import Derived.Test.YtpbjkgpdkopgmaaGreatDoorG12
import Derived.DeepKeys4
import Derived.Maps.Keyed
import Derived.Maps.Own
set_option linter.unusedVariables false
set_option linter.unusedSimpArgs false
set_option linter.unnecessarySimpa false
namespace Go.Proofs.YtpbjkgpdkopgmaaGreatDoor
namespace RI
def PA:List Oper→Nat→(Nat→Value)→Act→Act
 | [],_,_,a=>a
 | o :: os,k,x,a=>PA os (k+1) x (a.put o.dst (x k))
def upd (x:Nat→Value) (i:Nat) (v:Value):Nat→Value:=fun j=>if j=i then v else x j
theorem PA_congr:∀ (os:List Oper) (k:Nat) (x y:Nat→Value) (a:Act),(∀ j,k≤j→x j=y j)→PA os k x a=PA os k y a
 | [],_,_,_,_,_=>rfl
 | o :: os,k,x,y,a,h=>by
  unfold PA
  rw [h k (Nat.le_refl _)]
  exact PA_congr os (k+1) x y _ (fun j hj=>h j (by omega))
def dsts (os:List Oper):List Nat:=os.filterMap (·.dst)
theorem put_put (a:Act) (d:Nat) (u v:Value):(a.put (some d) u).put (some d) v=a.put (some d) v:=by
 simp [Act.put]
theorem put_swap (a:Act) (d e:Nat) (u v:Value) (h:d≠e):(a.put (some d) u).put (some e) v=(a.put (some e) v).put (some d) u:=by
 simp only [Act.put]
 rw [Array.setIfInBounds_comm _ _ h]
theorem PA_put:∀ (os:List Oper) (k:Nat) (x:Nat→Value) (a:Act) (d:Nat) (v:Value),d ∉ dsts os→PA os k x (a.put (some d) v)=(PA os k x a).put (some d) v
 | [],_,_,_,_,_,_=>rfl
 | o :: os,k,x,a,d,v,h=>by
  unfold PA
  cases hd:o.dst with
  | none =>
   rw [hd] at *
   have h2:d ∉ dsts os:=fun h'=>h (by simp [dsts,hd] at h' ⊢;exact .inr h')
   exact PA_put os (k+1) x a d v h2
  | some e =>
   have h1:e≠d:=fun h'=>h (by simp [dsts,hd,h'])
   have h2:d ∉ dsts os:=fun h'=>h (by simp [dsts,hd] at h' ⊢;exact .inr h')
   rw [put_swap _ _ _ _ _ (Ne.symm h1)]
   exact PA_put os (k+1) x _ d v h2
theorem PA_upd:∀ (os:List Oper) (k:Nat) (x:Nat→Value) (a:Act) (i:Nat) (o:Oper) (v:Value),(dsts os).Nodup→os[i]? = some o→(PA os k x a).put o.dst v=PA os k (upd x (k+i) v) a
 | [],_,_,_,_,_,_,_,h=>by simp at h
 | o' :: os,k,x,a,i,o,v,hn,h=>by
  have hn2:(dsts os).Nodup:=by
   cases hd:o'.dst with
   | none=>simpa [dsts,hd] using hn
   | some e=>have:=hn;simp [dsts,hd] at this;exact this.2
  cases i with
  | zero =>
   simp at h
   subst h
   unfold PA
   have e1:upd x (k+0) v k=v:=by simp [upd]
   have e2:∀ j,k+1≤j→x j=upd x (k+0) v j:=fun j hj=>by unfold upd;rw [if_neg (by omega)]
   rw [e1,← PA_congr os (k+1) x _ _ e2]
   cases hd:o'.dst with
   | none=>rfl
   | some e =>
    have h2:e ∉ dsts os:=by
     have:=hn
     simp [dsts,hd] at this
     simpa [dsts] using this.1
    rw [← PA_put os (k+1) x _ e v h2,put_put]
  | succ i =>
   simp at h
   unfold PA
   have e1:upd x (k+(i+1)) v k=x k:=by unfold upd;rw [if_neg (by omega)]
   rw [e1,show k+(i+1)=k+1+i by omega]
   exact PA_upd os (k+1) x _ i o v hn2 h
def old (a:Act) (os:List Oper):Nat→Value:=fun j=>match (os[j]?).bind (·.dst) with
 | some d=>a.tmps.getD d undef
 | none=>undef
theorem put_own (a:Act) (d:Nat):a.put (some d) (a.tmps.getD d undef)=a:=by
 cases a with
 | mk t ds =>
  simp only [Act.put,Act.mk.injEq,and_true]
  apply Array.ext
  ·simp
  ·intro i h1 h2
   by_cases h:d=i
   ·subst h
    rw [Array.getElem_setIfInBounds_self]
    simp at h1
    simp [h1]
   ·rw [Array.getElem_setIfInBounds_ne _ h]
theorem PA_old:∀ (os:List Oper) (k:Nat) (x:Nat→Value) (a:Act),(∀ i o d,os[i]? = some o→o.dst=some d→x (k+i)=a.tmps.getD d undef)→PA os k x a=a
 | [],_,_,_,_=>rfl
 | o :: os,k,x,a,h=>by
  unfold PA
  have e:a.put o.dst (x k)=a:=by
   cases hd:o.dst with
   | none=>rfl
   | some d=>rw [show x k=a.tmps.getD d undef from h 0 o d rfl hd];exact put_own a d
  rw [e]
  exact PA_old os (k+1) x a (fun i o' d h1 h2=>by rw [show k+1+i=k+(i+1) by omega];exact h (i+1) o' d (by simpa using h1) h2)
section
variable {P:Program} {md:Region.Mode} (l:List Oper) (a0:Act) (V:Nat→Value→World→Prop) (S:World→Prop) (R:World→World→Prop)
def Step (P:Program) (i:Nat) (o:Oper):Prop:=∀ (x:Nat→Value) (w:World),S w→(∀ e ∈ o.after.toList,Region.binds .any e=true→V e.on (x e.on) w) →
 ∀ K:Act→World→Prop,(∀ a' w' v,a'=(PA l 0 x a0).put o.dst v→V i v w'→S w'→R w w'→K a' w') →
  if Region.wanted o (yielded l.toArray (PA l 0 x a0).tmps) then o.wp P (PA l 0 x a0) w K (fun _ _ _=>False) else K ((PA l 0 x a0).put o.dst undef) w
def Steps (P:Program):List Oper→Nat→Prop
 | [],_=>True
 | o :: os,i=>Step l a0 V S R P i o∧Steps P os (i+1)
variable {l a0 V S R}
theorem Steps.at_:∀ {os:List Oper} {k:Nat},Steps l a0 V S R P os k→∀ i o,os[i]? = some o→Step l a0 V S R P (k+i) o
 | [],_,_,i,o,h=>by simp at h
 | o' :: os,k,hs,i,o,h=>by
  cases i with
  | zero=>simp at h;subst h;exact hs.1
  | succ i=>rw [show k+(i+1)=k+1+i by omega];exact Steps.at_ hs.2 i o (by simpa using h)
def unl (n:Nat) (listed:Array Bool):Nat:=((List.range n).filter fun i=>!listed.getD i true).length
theorem filter_lt {α:Type} (p q:α→Bool) (xs:List α) (h:∀ y ∈ xs,p y=true→q y=true) (z:α) (hz:z ∈ xs) (h1:p z=false) (h2:q z=true):(xs.filter p).length<(xs.filter q).length:=by
 have le:∀ ys:List α,(∀ y ∈ ys,p y=true→q y=true)→(ys.filter p).length≤(ys.filter q).length:=by
  intro ys
  induction ys with
  | nil=>intro _;exact Nat.le_refl _
  | cons y ys ih =>
   intro h
   have:=ih (fun y hy=>h y (by simp [hy]))
   cases hp:p y
   ·rw [List.filter_cons_of_neg (by simp [hp])]
    cases hq:q y
    ·rw [List.filter_cons_of_neg (by simp [hq])];exact this
    ·rw [List.filter_cons_of_pos hq];simp;omega
   ·rw [List.filter_cons_of_pos hp,List.filter_cons_of_pos (h y (by simp) hp)];simp;exact this
 induction xs with
 | nil=>cases hz
 | cons y ys ih =>
  have hle:=le ys (fun y hy=>h y (by simp [hy]))
  rcases List.mem_cons.1 hz with rfl | hz
  ·rw [List.filter_cons_of_neg (by simp [h1]),List.filter_cons_of_pos h2];simp;omega
  ·have:=ih (fun y hy=>h y (by simp [hy])) hz
   cases hp:p y
   ·rw [List.filter_cons_of_neg (by simp [hp])]
    cases hq:q y
    ·rw [List.filter_cons_of_neg (by simp [hq])];exact this
    ·rw [List.filter_cons_of_pos hq];simp;omega
   ·rw [List.filter_cons_of_pos hp,List.filter_cons_of_pos (h y (by simp) hp)];simp;exact this
def backB (l:List Oper):Bool:=(List.range l.length).all fun i=>match l[i]? with
 | some o=>o.after.all fun e=>!Region.binds .any e || decide (e.on<i)
 | none=>true
def okB (l:List Oper):Bool:=backB l && decide ((dsts l).Nodup)
theorem all_listed (hb:backB l=true) {listed:Array Bool} (hz:listed.size=l.length) (hr:Region.ready .any l.toArray listed=[]):∀ i,i<l.length→listed.getD i true=true:=by
 intro i
 induction i using Nat.strongRecOn with
 | ind i ih =>
  intro hi
  cases h:listed.getD i true with
  | true=>rfl
  | false =>
   exfalso
   have hmem:i ∈ Region.ready .any l.toArray listed:=by
    rw [mem_ready]
    refine ⟨h,l[i],by simp [hi],fun e he hbd=>?_⟩
    have h1:=List.all_eq_true.1 hb i (List.mem_range.2 hi)
    simp only [List.getElem?_eq_getElem hi] at h1
    have h2:=Array.all_eq_true'.1 h1 e he
    simp [hbd] at h2
    have h3:=ih e.on h2 (by omega)
    have h4:e.on<listed.size:=by omega
    simpa [h4] using h3
   rw [hr] at hmem
   cases hmem
theorem upd_same (x:Nat→Value) (i:Nat) (v:Value):upd x i v i=v:=by simp [upd]
theorem upd_ne (x:Nat→Value) (i j:Nat) (v:Value) (h:j≠i):upd x i v j=x j:=by unfold upd;rw [if_neg h]
def StepZ (l:List Oper) (oz:Oper) (a0:Act) (V:Nat→Value→World→Prop) (S:World→Prop) (R:World→World→Prop) (P:Program) (i:Nat) (o:Oper):Prop:=∀ (x:Nat→Value) (w:World),S w→(∀ e ∈ o.after.toList,Region.binds .any e=true→V e.on (x e.on) w) →
 ∀ K:Act→World→Prop,(∀ a' w' v,a'=(PA l 0 x a0).put o.dst v→V i v w'→S w'→R w w'→K a' w') →
  if Region.wanted o (yielded (l++[oz]).toArray (PA l 0 x a0).tmps) then o.wp P (PA l 0 x a0) w K (fun _ _ _=>False) else K ((PA l 0 x a0).put o.dst undef) w
def StepsZ (l:List Oper) (oz:Oper) (a0:Act) (V:Nat→Value→World→Prop) (S:World→Prop) (R:World→World→Prop) (P:Program):List Oper→Nat→Prop
 | [],_=>True
 | o :: os,i=>StepZ l oz a0 V S R P i o∧StepsZ l oz a0 V S R P os (i+1)
theorem StepsZ.at_ {oz:Oper}:∀ {os:List Oper} {k:Nat},StepsZ l oz a0 V S R P os k→∀ i o,os[i]? = some o→StepZ l oz a0 V S R P (k+i) o
 | [],_,_,i,o,h=>by simp at h
 | o' :: os,k,hs,i,o,h=>by
  cases i with
  | zero=>simp at h;subst h;exact hs.1
  | succ i=>rw [show k+(i+1)=k+1+i by omega];exact StepsZ.at_ hs.2 i o (by simpa using h)
theorem PA_last:∀ (l:List Oper) (k:Nat) (x:Nat→Value) (a:Act) (oz:Oper),oz.dst=none→PA (l++[oz]) k x a=PA l k x a
 | [],k,x,a,oz,h=>by simp only [List.nil_append,PA,h];rfl
 | o :: l,k,x,a,oz,h=>by
  simp only [List.cons_append,PA]
  exact PA_last l (k+1) x _ oz h
def StepL (L:List Oper) (a0:Act) (V:Nat→Value→World→Prop) (S:World→Prop) (R:World→World→Prop) (P:Program) (i:Nat) (o:Oper):Prop:=∀ (x:Nat→Value) (w:World),S w→(∀ e ∈ o.after.toList,Region.binds .any e=true→V e.on (x e.on) w) →
 ∀ K:Act→World→Prop,(∀ a' w' v,a'=(PA L 0 x a0).put o.dst v→V i v w'→S w'→R w w'→K a' w') →
  if Region.wanted o (yielded L.toArray (PA L 0 x a0).tmps) then o.wp P (PA L 0 x a0) w K (fun _ _ _=>False) else K ((PA L 0 x a0).put o.dst undef) w
def StepsY (L:List Oper) (a0:Act) (V:Nat→Value→World→Prop) (S:World→Prop) (R:World→World→Prop) (P:Program) (Q:Exit→Act→World→Prop):List Oper→Nat→Prop
 | [],_=>True
 | [oz],n=>∀ (x:Nat→Value) (w:World),S w→(∀ j,j<n→V j (x j) w)→oz.wp P (PA L 0 x a0) w (fun a' w'=>Q .normal a' w') (fun _ _ _=>False)
 | o :: o' :: os,i=>StepL L a0 V S R P i o∧StepsY L a0 V S R P Q (o' :: os) (i+1)
theorem StepsY.split {Q:Exit→Act→World→Prop} {oz:Oper} (hd:oz.dst=none):∀ (os:List Oper) (k:Nat),StepsY (l++[oz]) a0 V S R P Q (os++[oz]) k →
  StepsZ l oz a0 V S R P os k∧(∀ (x:Nat→Value) (w:World),S w→(∀ j,j<k+os.length→V j (x j) w)→oz.wp P (PA l 0 x a0) w (fun a' w'=>Q .normal a' w') (fun _ _ _=>False))
 | [],k,h=>by
  refine ⟨trivial,fun x w h1 h2=>?_⟩
  have:=h x w h1 (by simpa using h2)
  rw [PA_last l 0 x a0 oz hd] at this
  exact this
 | o :: os,k,h=>by
  have h':StepL (l++[oz]) a0 V S R P k o∧StepsY (l++[oz]) a0 V S R P Q (os++[oz]) (k+1):=by
   cases os with
   | nil=>exact h
   | cons o2 os=>exact h
  obtain ⟨h1,h2⟩:=StepsY.split hd os (k+1) h'.2
  refine ⟨⟨?_,h1⟩,?_⟩
  ·intro x w hS hdp K hK
   have:=h'.1 x w hS hdp K (by rw [PA_last l 0 x a0 oz hd];exact hK)
   rw [PA_last l 0 x a0 oz hd] at this
   exact this
  ·rw [List.length_cons,show k+(os.length+1)=k+1+os.length by omega]
   exact h2
def Vof (Vs:List (Value→World→Prop)):Nat→Value→World→Prop:=fun j=>Vs.getD j fun _ _=>True
theorem Vof.keeps {Vs:List (Value→World→Prop)} {R:World→World→Prop} (h:∀ p ∈ Vs,∀ v w w',p v w→R w w'→p v w'):∀ j v w w',Vof Vs j v w→R w w'→Vof Vs j v w':=by
 intro j v w w' h1 h2
 unfold Vof at *
 rw [List.getD_eq_getElem?_getD] at *
 cases hj:Vs[j]? with
 | none=>trivial
 | some p =>
  rw [hj] at h1
  exact h p (List.mem_of_getElem? hj) v w w' h1 h2
theorem eval_put (a:Act) (d:Nat) (v:Value) (h:d<a.tmps.size):(a.put (some d) v).eval (.tmp d)=v:=by
 simp [Act.put,Act.eval,h]
theorem eval_put_ne (a:Act) (x:Option Tmp) (d:Nat) (v:Value) (h:x≠some d):(a.put x v).eval (.tmp d)=a.eval (.tmp d):=by
 cases x with
 | none=>rfl
 | some e =>
  have:e≠d:=fun h'=>h (by rw [h'])
  simp only [Act.put,Act.eval]
  rw [Array.getD_eq_getD_getElem?,Array.getElem?_setIfInBounds_ne this,← Array.getD_eq_getD_getElem?]
theorem PA_out:∀ (os:List Oper) (k:Nat) (x:Nat→Value) (a:Act) (d:Nat),d ∉ dsts os→(PA os k x a).eval (.tmp d)=a.eval (.tmp d)
 | [],_,_,_,_,_=>rfl
 | o :: os,k,x,a,d,h=>by
  unfold PA
  have h2:d ∉ dsts os:=fun h'=>h (by simp [dsts] at h' ⊢;exact .inr h')
  have h1:o.dst≠some d:=fun h'=>h (by simp [dsts,h'])
  rw [PA_out os (k+1) x _ d h2,eval_put_ne _ _ _ _ h1]
theorem PA_in:∀ (os:List Oper) (k:Nat) (x:Nat→Value) (a:Act) (i:Nat) (o:Oper) (d:Nat),(dsts os).Nodup→os[i]? = some o→o.dst=some d→d<a.tmps.size→(PA os k x a).eval (.tmp d)=x (k+i)
 | [],_,_,_,_,_,_,_,h,_,_=>by simp at h
 | o' :: os,k,x,a,i,o,d,hn,h,hd,hs=>by
  have hn2:(dsts os).Nodup:=by
   cases hd:o'.dst with
   | none=>simpa [dsts,hd] using hn
   | some e=>have:=hn;simp [dsts,hd] at this;exact this.2
  unfold PA
  cases i with
  | zero =>
   simp at h
   subst h
   have h2:d ∉ dsts os:=by
    have:=hn
    simp [dsts,hd] at this
    simpa [dsts] using this.1
   rw [PA_out os (k+1) x _ d h2,hd,eval_put _ _ _ hs,Nat.add_zero]
  | succ i =>
   rw [PA_in os (k+1) x _ i o d hn2 (by simpa using h) hd (by cases o'.dst <;> simp [Act.put,hs]),show k+1+i=k+(i+1) by omega]
def slotB (L:List Oper) (d i:Nat):Bool:=decide ((dsts L).Nodup) && ((L[i]?).bind (·.dst) == some d)
theorem PA_slot {L:List Oper} {x:Nat→Value} {a:Act} {d i:Nat} (h:slotB L d i=true) (hs:d<a.tmps.size):(PA L 0 x a).eval (.tmp d)=x i:=by
 unfold slotB at h
 simp only [Bool.and_eq_true,decide_eq_true_eq,beq_iff_eq] at h
 obtain ⟨hn,h⟩:=h
 cases ho:L[i]? with
 | none=>rw [ho] at h;cases h
 | some o =>
  rw [ho] at h
  rw [PA_in L 0 x a i o d hn ho h hs,Nat.zero_add]
theorem PA_old_slot {L:List Oper} {x:Nat→Value} {a:Act} {d:Nat} (h:(dsts L).contains d=false):(PA L 0 x a).eval (.tmp d)=a.eval (.tmp d) :=
 PA_out L 0 x a d (by simpa using h)
def setAll:List Oper→Nat→(Nat→Value)→List Value→List Value
 | [],_,_,l=>l
 | o :: os,k,x,l=>setAll os (k+1) x (match o.dst with | some d=>l.set d (x k) | none=>l)
theorem PA_list:∀ (os:List Oper) (k:Nat) (x:Nat→Value) (a:Act),PA os k x a=⟨(setAll os k x a.tmps.toList).toArray,a.defers⟩
 | [],_,_,a=>rfl
 | o :: os,k,x,a=>by
  unfold PA setAll
  rw [PA_list os (k+1) x _]
  cases o.dst with
  | none=>rfl
  | some d=>simp [Act.put]
end
end RI
end Go.Proofs.YtpbjkgpdkopgmaaGreatDoor
namespace Go.Proofs.YtpbjkgpdkopgmaaGreatDoor
namespace RI
section
variable {P:Program} (L:List Oper) (a0:Act) (V:Nat→Value→World→Prop) (S:Array Bool→World→Prop) (R:World→World→Prop)
def StepN (P:Program) (i:Nat) (o:Oper):Prop :=
 ∀ (a:Act) (x:Nat→Value) (ls:Array Bool) (w:World),S ls w→ls.size=L.length→ls.getD i true=false→(∀ d i,slotB L d i=true→d<a0.tmps.size→a.eval (.tmp d)=x i)→(∀ d,(dsts L).contains d=false→a.eval (.tmp d)=a0.eval (.tmp d)) →
  (∀ e ∈ o.after.toList,Region.binds .any e=true→V e.on (x e.on) w) →
  ∀ K:Act→World→Prop,(∀ w' v,V i v w'→S (ls.setIfInBounds i true) w'→R w w'→K (a.put o.dst v) w')→o.wp P a w K (fun _ _ _=>False)
def StepsN (P:Program):List Oper→Nat→Prop
 | [],_=>True
 | o :: os,i=>StepN L a0 V S R P i o∧StepsN P os (i+1)
variable {L a0 V S R}
theorem StepsN.at_:∀ {os:List Oper} {k:Nat},StepsN L a0 V S R P os k→∀ i o,os[i]? = some o→StepN L a0 V S R P (k+i) o
 | [],_,_,i,o,h=>by simp at h
 | o' :: os,k,hs,i,o,h=>by
  cases i with
  | zero=>simp at h;subst h;exact hs.1
  | succ i=>rw [show k+(i+1)=k+1+i by omega];exact StepsN.at_ hs.2 i o (by simpa using h)
theorem inv_anyN {Q:Exit→Act→World→Prop} (hok:okB L=true) (hg:L.all (fun o=>o.guard == none)=true) (hV:∀ j v w w',V j v w→R w w'→V j v w') (hs:StepsN L a0 V S R P L 0)
  (hend:∀ (x:Nat→Value) ls w,S ls w→(∀ j,j<L.length→ls.getD j false=true)→(∀ j,j<L.length→V j (x j) w)→Q .normal (PA L 0 x a0) w) :
  ∀ (f:Nat) (listed:Array Bool) (x:Nat→Value) (w:World),listed.size=L.length→unl L.length listed≤f→S listed w→(∀ j,listed.getD j false=true→V j (x j) w) →
   wpAny P .any L.toArray Q f listed (PA L 0 x a0) w:=by
 simp only [okB,Bool.and_eq_true,decide_eq_true_eq] at hok
 obtain ⟨hb,hn⟩:=hok
 have fin:∀ (listed:Array Bool) (x:Nat→Value) (w:World),listed.size=L.length→S listed w→(∀ j,listed.getD j false=true→V j (x j) w)→(∀ i,i<L.length→listed.getD i true=true)→Q .normal (PA L 0 x a0) w:=by
  intro listed x w hz hS hx hall
  have hall':∀ j,j<L.length→listed.getD j false=true:=fun j hj=>by
   have h4:j<listed.size:=by omega
   simpa [h4] using hall j hj
  exact hend x listed w hS hall' fun j hj=>hx j (hall' j hj)
 intro f
 induction f with
 | zero =>
  intro listed x w hz hf hS hx
  have hall:∀ i,i<L.length→listed.getD i true=true:=by
   intro i hi
   cases h:listed.getD i true with
   | true=>rfl
   | false =>
    exfalso
    have:i ∈ (List.range L.length).filter fun i=>!listed.getD i true:=List.mem_filter.2 ⟨List.mem_range.2 hi,by rw [h];rfl⟩
    have:=List.length_pos_of_mem this
    unfold unl at hf
    omega
  refine ⟨?_,fin listed x w hz hS hx hall⟩
  rw [List.eq_nil_iff_forall_not_mem]
  intro i hi
  obtain ⟨h1,o,ho,-⟩:=mem_ready.1 hi
  have hi2:i<L.length:=by
   have:=(Array.getElem?_eq_some_iff.1 ho).1
   simpa using this
  rw [hall i hi2] at h1
  cases h1
 | succ f ih =>
  intro listed x w hz hf hS hx
  refine ⟨fun hr=>fin listed x w hz hS hx (all_listed hb hz hr),fun i hi=>?_⟩
  obtain ⟨h1,o,ho,hdep⟩:=mem_ready.1 hi
  have hi2:i<L.length:=by
   have:=(Array.getElem?_eq_some_iff.1 ho).1
   simpa using this
  have hol:L[i]? = some o:=by simpa using ho
  have hgd:o.guard=none:=by
   have:=List.all_eq_true.1 hg o (List.mem_of_getElem? hol)
   simpa using this
  have hst:=hs.at_ i o hol
  rw [Nat.zero_add] at hst
  have h:=hst (PA L 0 x a0) x listed w hS hz h1 (fun d i g1 g2=>PA_slot g1 g2) (fun d g1=>PA_old_slot g1) (fun e he hbd=>hx e.on (hdep e (by simpa using he) hbd)) (wpAny P .any L.toArray Q f (listed.setIfInBounds i true)) (by
   intro w' v hv hS' hR
   rw [PA_upd L 0 x a0 i o v hn hol,Nat.zero_add]
   refine ih (listed.setIfInBounds i true) (upd x i v) w' (by simpa using hz) ?_ hS' ?_
   ·have:unl L.length (listed.setIfInBounds i true)<unl L.length listed:=by
     refine filter_lt _ _ _ ?_ i (List.mem_range.2 hi2) ?_ ?_
     ·intro y hy hp
      by_cases hyi:i=y
      ·subst hyi
       have h4:i<listed.size:=by omega
       simp [h4] at hp
      ·rw [getD_set_ne true hyi] at hp;exact hp
     ·have h4:i<listed.size:=by omega
      simp [h4]
     ·rw [h1];rfl
    omega
   ·intro j hj
    by_cases hji:j=i
    ·subst hji;rw [upd_same];exact hv
    ·rw [upd_ne _ _ _ _ hji]
     rw [getD_set_ne false (Ne.symm hji)] at hj
     exact hV _ _ _ _ (hx j hj) hR)
  unfold wpOp
  rw [ho]
  dsimp only
  rw [if_pos (by unfold Region.wanted;rw [hgd])]
  exact .inl (wp_mono_both (fun _ _ h=>h) h trivial)
theorem wp_region_N {id:Nat} {Q:Exit→Act→World→Prop} {w:World} {ops:Array Oper} (V:Nat→Value→World→Prop) (S:Array Bool→World→Prop) (R:World→World→Prop) (hm:P.follows .mixedOrders=true) (hok:okB ops.toList=true) (hg:ops.toList.all (fun o=>o.guard == none)=true)
  (hV:∀ j v w w',V j v w→R w w'→V j v w') (hS:S (Array.replicate ops.size false) { w with drawn:=w.drawn+1 }) (hs:StepsN ops.toList a0 V S R P ops.toList 0)
  (hend:∀ (A:Act) (x:Nat→Value) ls w,S ls w→(∀ j,j<ops.toList.length→ls.getD j false=true)→(∀ d i,slotB ops.toList d i=true→d<a0.tmps.size→A.eval (.tmp d)=x i)→(∀ d,(dsts ops.toList).contains d=false→A.eval (.tmp d)=a0.eval (.tmp d))→(∀ j,j<ops.toList.length→V j (x j) w) →
   RowKit.Hid (A=⟨(setAll ops.toList 0 x a0.tmps.toList).toArray,a0.defers⟩)→Q .normal A w):(Code.region id ops true).wp P Q a0 w:=by
 refine wp_region_any hm ?_
 have hold:PA ops.toList 0 (old a0 ops.toList) a0=a0:=PA_old ops.toList 0 _ a0 (fun i o d h1 h2=>by unfold old;rw [Nat.zero_add,h1];simp [h2])
 have hrep:∀ j d,j<ops.toList.length→(Array.replicate ops.size false).getD j d=false:=by
  intro j d hj
  simp at hj
  simp [Array.getElem?_replicate,hj]
 have:=inv_anyN (P:=P) (Q:=Q) hok hg hV hs (fun x ls w h1 h2 h3=>hend (PA ops.toList 0 x a0) x ls w h1 h2 (fun d i g1 g2=>PA_slot g1 g2) (fun d g1=>PA_old_slot g1) h3 (PA_list ops.toList 0 x a0)) ops.size (Array.replicate ops.size false) (old a0 ops.toList) { w with drawn:=w.drawn+1 } (by simp) ?_ hS ?_
 ·rw [hold] at this
  simpa using this
 ·unfold unl
  have:=List.length_filter_le (fun i=>!(Array.replicate ops.size false).getD i true) (List.range ops.toList.length)
  simp only [List.length_range] at this
  simpa using this
 ·intro j hj
  exfalso
  revert hj
  rw [Array.getD_eq_getD_getElem?]
  cases h:(Array.replicate ops.size false)[j]? with
  | none=>simp
  | some b =>
   have:=Array.getElem?_eq_some_iff.1 h
   obtain ⟨h1,h2⟩:=this
   simp at h2
   simp [← h2]
end
end RI
end Go.Proofs.YtpbjkgpdkopgmaaGreatDoor
namespace Go.Proofs.YtpbjkgpdkopgmaaGreatDoor
open Go.RowKit
def plc (k n:Nat):Value:=.agg #[.int .i64 (k:Int),.int .i64 (n:Int)]
theorem plc_inj {k n k' n':Nat} (h:plc k n=plc k' n'):k=k'∧n=n':=by
 unfold plc at h
 simp at h
 omega
theorem laidOutK:laidOutB Tryz.prog=true:=by kernel_rfl
theorem plcIn:(227 : TypeId) < Tryz.prog.types.size:=of_decide_eq_true (by kernel_rfl)
theorem plcLaw:Maps.Keyed Tryz.prog 227:=Maps.Keyed.of_law (deep_law_laid laidOutK (m:=2) (by omega) plcIn (by kernel_rfl) (by rw [Tryz.underlying227]))
theorem plc_keys:∀ k ∈ List.range 17,∀ n ∈ List.range 4,(keyOf Tryz.prog 227 (plc k n)).isSome=true:=by decide +kernel
theorem plc_key {k n:Nat} (hk:k<17) (hn:n<4):∃ l,keyOf Tryz.prog 227 (plc k n)=some l :=
 Option.isSome_iff_exists.1 (plc_keys k (List.mem_range.2 hk) n (List.mem_range.2 hn))
def signV (k n:Nat):Option Nat :=
 if (k=13∨k=14∨k=15)∧n=0 then some 60
 else if k=13∧n=1 then some 44
 else if (k=14∨k=15)∧n=1∨k=13∧n=2 then some 62 else none
theorem signV_lt {k n v:Nat} (h:signV k n=some v):k<17∧n<4:=by
 unfold signV at h
 split at h
 ·omega
 ·split at h
  ·omega
  ·split at h
   ·omega
   ·cases h
def GoodE (es:Array MapEntry):Prop:=∀ e ∈ es.toList,∃ k n v,signV k n=some v∧e.key=plc k n∧e.val = .int .u8 (v:Int)
def Sg (w:World) (g:Nat):Prop:=∃ es c,w.heap[g]? = some (.map es c)∧GoodE es∧∀ k n v,signV k n=some v→∃ e ∈ es.toList,e.key=plc k n
theorem GoodE.keys {es:Array MapEntry} (h:GoodE es):∀ e ∈ es.toList,∃ l,keyOf Tryz.prog 227 e.key=some l:=by
 intro e he
 obtain ⟨k,n,v,h1,h2,-⟩:=h e he
 rw [h2]
 exact plc_key (signV_lt h1).1 (signV_lt h1).2
theorem zero_u8 (w:World):(zeroValue 5).run Tryz.prog w = .ok (.int .u8 0) w:=by kernel_rfl
theorem look_sign {w:World} {g:Nat} (h:Sg w g) (k n:Nat) (hk:k<17) (hn:n<4) :
  (Instr.lookup 157 (.map (some g)) (plc k n) true).run Tryz.prog w = .ok (.tuple #[.int .u8 (((signV k n).getD 0:Nat):Int),.bool (signV k n).isSome]) w:=by
 obtain ⟨es,c,hg,hE,hall⟩:=h
 obtain ⟨kl,hkey⟩:=plc_key hk hn
 rcases plcLaw.find w hkey es.toList hE.keys with ⟨h1,h2⟩ | ⟨j,e,h1,h2,h3⟩
 ·have hs:signV k n=none:=by
   cases hv:signV k n with
   | none=>rfl
   | some v =>
    obtain ⟨e,he,hek⟩:=hall k n v hv
    exact absurd hek (h2 e he)
  simp [Instr.lookup,run_underlying Tryz.underlying157,MapKept.run_getObj_map hg,plcLaw.check w es.isEmpty hkey,h1,zero_u8,hs,Result.andThen]
 ·obtain ⟨k',n',v,hv,hk',hval⟩:=hE e (List.mem_of_getElem? h2)
  obtain ⟨rfl,rfl⟩:=plc_inj (h3.symm.trans hk')
  simp [Instr.lookup,run_underlying Tryz.underlying157,MapKept.run_getObj_map hg,plcLaw.check w es.isEmpty hkey,h1,hval,hv,Result.andThen]
theorem put_sign {w:World} {g:Nat} {es:Array MapEntry} {c:Nat} (hg:w.heap[g]? = some (.map es c)) (hE:GoodE es) (k n v:Nat) (hv:signV k n=some v) :
  ∃ es' c',(Instr.mapUpdate 157 (.map (some g)) (plc k n) (.int .u8 (v:Int))).run Tryz.prog w = .ok () (ChangeMaps.setBlock w g (.map es' c'))∧GoodE es' ∧
   (∃ e ∈ es'.toList,e.key=plc k n)∧∀ x ∈ es.toList,∃ y ∈ es'.toList,y.key=x.key:=by
 obtain ⟨kl,hkey⟩:=plc_key (signV_lt hv).1 (signV_lt hv).2
 rcases plcLaw.find w hkey es.toList hE.keys with ⟨h1,h2⟩ | ⟨j,e,h1,h2,h3⟩
 ·refine ⟨es.push ⟨plc k n,.int .u8 (v:Int),c⟩,c+1,?_,?_,⟨⟨plc k n,.int .u8 (v:Int),c⟩,by simp,rfl⟩,fun x hx=>⟨x,by simp at hx ⊢;exact .inl hx,rfl⟩⟩
  ·simp [Instr.mapUpdate,run_underlying Tryz.underlying157,MapKept.run_getObj_map hg,plcLaw.check w false hkey,h1,MapKept.run_setObj_map _ hg,Result.andThen,ChangeMaps.setBlock]
  ·intro e he
   simp only [Array.toList_push,List.mem_append,List.mem_singleton] at he
   rcases he with he | rfl
   ·exact hE e he
   ·exact ⟨k,n,v,hv,rfl,rfl⟩
 ·have hj:es[j]? = some e:=by simpa using h2
  have hlist:(es.modify j (fun e'=>{ e' with key:=plc k n,val:=.int .u8 (v:Int) })).toList=es.toList.set j { e with key:=plc k n,val:=.int .u8 (v:Int) }:=by rw [Array.toList_modify,ChangeMaps.modify_eq_set _ _ _ _ h2]
  refine ⟨es.modify j (fun e'=>{ e' with key:=plc k n,val:=.int .u8 (v:Int) }),c,?_,?_,?_,?_⟩
  ·simp [Instr.mapUpdate,run_underlying Tryz.underlying157,MapKept.run_getObj_map hg,plcLaw.check w false hkey,h1,hj,h3,plcLaw.stays w hkey,MapKept.run_setObj_map _ hg,Result.andThen,ChangeMaps.setBlock]
  ·intro x hx
   rw [hlist] at hx
   rcases List.mem_or_eq_of_mem_set hx with hx | rfl
   ·exact hE x hx
   ·exact ⟨k,n,v,hv,rfl,rfl⟩
  ·have hjl:j<es.toList.length:=(List.getElem?_eq_some_iff.1 h2).1
   exact ⟨_,by rw [hlist];exact List.mem_set hjl _,rfl⟩
  ·intro x hx
   obtain ⟨i,hi⟩:=List.getElem?_of_mem hx
   by_cases hij:j=i
   ·subst hij
    rw [h2] at hi
    cases hi
    have hjl:j<es.toList.length:=(List.getElem?_eq_some_iff.1 h2).1
    exact ⟨_,by rw [hlist];exact List.mem_set hjl _,h3.symm⟩
   ·refine ⟨x,?_,rfl⟩
    rw [hlist]
    exact List.mem_of_getElem? (by rw [List.getElem?_set_ne hij];exact hi)
def SgS (W:World) (ls:Array Bool) (w:World):Prop :=
 Nx W w∧((ls.getD 0 false=false∧w.heap.size=W.heap.size)∨(ls.getD 0 false=true∧∃ es c,w.heap[W.heap.size]? = some (.map es c)∧GoodE es))
def SgR (W w w':World):Prop:=∀ es c,w.heap[W.heap.size]? = some (.map es c)→∃ es' c',w'.heap[W.heap.size]? = some (.map es' c')∧∀ x ∈ es.toList,∃ y ∈ es'.toList,y.key=x.key
theorem SgR.refl (W w:World):SgR W w w:=fun es c h=>⟨es,c,h,fun x hx=>⟨x,hx,rfl⟩⟩
def SgV (W:World) (k n:Nat) (w:World):Prop:=∃ es c,w.heap[W.heap.size]? = some (.map es c)∧∃ e ∈ es.toList,e.key=plc k n
theorem SgV.keep {W w w':World} {k n:Nat} (h:SgV W k n w) (hr:SgR W w w'):SgV W k n w':=by
 obtain ⟨es,c,hg,e,he,hk⟩:=h
 obtain ⟨es',c',hg',hall⟩:=hr es c hg
 obtain ⟨y,hy,hyk⟩:=hall e he
 exact ⟨es',c',hg',y,hy,hyk.trans hk⟩
def SgM (W w:World):Prop:=∃ es c,w.heap[W.heap.size]? = some (.map es c)
theorem SgM.keep {W w w':World} (h:SgM W w) (hr:SgR W w w'):SgM W w':=by
 obtain ⟨es,c,h⟩:=h
 obtain ⟨es',c',h',-⟩:=hr es c h
 exact ⟨es',c',h'⟩
theorem put_step {W w:World} {ls:Array Bool} {i:Nat} (hS:SgS W ls w) (h0:SgM W w) (hi:i≠0) (k n v:Nat) (hv:signV k n=some v) (vi:Int) (hvi:(v:Int)=vi) :
  ∃ w',(Instr.mapUpdate 157 (.map (some W.heap.size)) (plc k n) (.int .u8 vi)).run Tryz.prog w = .ok () w'∧SgV W k n w'∧SgS W (ls.setIfInBounds i true) w'∧SgR W w w':=by
 subst hvi
 obtain ⟨hN,h | ⟨h1,es,c,hg,hE⟩⟩:=hS
 ·obtain ⟨es,c,h2⟩:=h0
  rw [← h.2,Array.getElem?_eq_none (Nat.le_refl _)] at h2;cases h2
 ·obtain ⟨es',c',hrun,hE',hhas,hold⟩:=put_sign hg hE k n v hv
  have hlt:W.heap.size<w.heap.size:=(Array.getElem?_eq_some_iff.1 hg).1
  have hnew:(ChangeMaps.setBlock w W.heap.size (.map es' c')).heap[W.heap.size]? = some (.map es' c'):=by
   simp [ChangeMaps.setBlock,hlt]
  refine ⟨_,hrun,⟨es',c',hnew,hhas⟩,⟨⟨hN.os,hN.tape,hN.output,by simp [ChangeMaps.setBlock];exact hN.size,fun b hb=>?_⟩,.inr ⟨?_,es',c',hnew,hE'⟩⟩,fun es2 c2 h2=>?_⟩
  ·simp only [ChangeMaps.setBlock]
   rw [Array.getElem?_setIfInBounds_ne (by omega)]
   exact hN.block b hb
  ·rw [getD_set_ne false hi];exact h1
  ·rw [hg] at h2
   cases h2
   exact ⟨es',c',hnew,hold⟩
theorem SgS.set {W w:World} {ls:Array Bool} (h:SgS W ls w) (i:Nat) (hi:i≠0):SgS W (ls.setIfInBounds i true) w:=by
 obtain ⟨h1,h2⟩:=h
 refine ⟨h1,?_⟩
 rw [getD_set_ne false hi]
 exact h2
theorem SgS.first {W w:World} {ls:Array Bool} (h:SgS W ls w) (hz:0<ls.size) (hl:ls.getD 0 true=false):w.heap.size=W.heap.size∧Nx W w:=by
 have:ls.getD 0 false=false:=by
  simp [hz] at hl ⊢;exact hl
 rcases h.2 with h2 | ⟨h2,-⟩
 ·exact ⟨h2.2,h.1⟩
 ·rw [this] at h2;cases h2
theorem SgS.made {W w:World} {ls:Array Bool} (hz:0<ls.size) (hw:w.heap.size=W.heap.size) (hn:Nx W w):SgS W (ls.setIfInBounds 0 true) (w.alloc (.map #[] 0)):=by
 refine ⟨hn.al _,.inr ⟨by simp [hz],#[],0,?_,fun e he=>by simp at he⟩⟩
 rw [← hw];exact heap_alloc_new w _
theorem SgR.made {W w:World} (hw:w.heap.size=W.heap.size):SgR W w (w.alloc (.map #[] 0)):=fun es c h=>by
 rw [← hw] at h
 simp at h
set_option maxRecDepth 100000 in
set_option maxHeartbeats 1600000 in
theorem signs_any (w:World) :
  Calls Tryz.prog 122 #[] w fun e w'=>e = .returned (.map (some w.heap.size))∧Sg w' w.heap.size∧Nx w w':=by
 go_enter Tryz.func122,Tryz.ntmps122
 go_wp2_with fail
 have hmm:=@run_makeMap Tryz.prog
 refine RI.wp_region_N (RI.Vof [fun v x=>v = .map (some w.heap.size)∧SgM w x,fun v _=>v=plc 15 0,fun _ x=>SgV w 15 0 x,fun v _=>v=plc 15 1,fun _ x=>SgV w 15 1 x,fun v _=>v=plc 14 0,fun _ x=>SgV w 14 0 x,
  fun v _=>v=plc 14 1,fun _ x=>SgV w 14 1 x,fun v _=>v=plc 13 0,fun _ x=>SgV w 13 0 x,fun v _=>v=plc 13 1,fun _ x=>SgV w 13 1 x,fun v _=>v=plc 13 2,fun _ x=>SgV w 13 2 x,
  fun v _=>v = .map (some w.heap.size),fun v _=>v = .map (some w.heap.size)]) (SgS w) (SgR w) (by kernel_rfl) (by kernel_rfl) (by kernel_rfl) ?_ ?_ ?_ ?_
 ·refine RI.Vof.keeps ?_
  intro p hp v w1 w2 h1 h2
  simp only [List.mem_cons,List.not_mem_nil,or_false] at hp
  rcases hp with rfl | rfl | rfl | rfl | rfl | rfl | rfl | rfl | rfl | rfl | rfl | rfl | rfl | rfl | rfl | rfl | rfl <;> first | exact h1 | exact SgV.keep h1 h2 | exact ⟨h1.1,h1.2.keep h2⟩
 ·exact ⟨Nx.drawn w,.inl ⟨rfl,rfl⟩⟩
 ·refine ⟨?_,?_,?_,?_,?_,?_,?_,?_,?_,?_,?_,?_,?_,?_,?_,?_,?_,trivial⟩
  ·intro a x ls w1 hS hsz hl hin hout hd K hK
   obtain ⟨hw,hn⟩:=hS.first (by rw [hsz];decide) hl
   have h1:=hK (w1.alloc (.map #[] 0)) (.map (some w.heap.size)) ⟨rfl,_,_,by rw [← hw];exact heap_alloc_new w1 _⟩ (SgS.made (by rw [hsz];decide) hw hn) (SgR.made hw)
   clear hK hS hl hd hin hout hsz
   go_simp
   exact h1
  ·intro a x ls w1 hS hsz hl hin hout hd K hK
   have h1:=hK w1 (plc 15 0) rfl (hS.set _ (by decide)) (SgR.refl _ _)
   clear hK hS hl hd hin hout hsz
   go_simp
   exact h1
  ·intro a x ls w1 hS hsz hl hin hout hd K hK
   have hv0:=hd ⟨0,.data⟩ (by simp) rfl
   have e1:a.tmps.getD 1 undef = .map (some w.heap.size):=(hin 1 0 (by decide) (by show 1<10;decide)).trans hv0.1
   have e2:a.tmps.getD 2 undef=plc 15 0:=(hin 2 1 (by decide) (by show 2<10;decide)).trans (hd ⟨1,.data⟩ (by simp) rfl)
   obtain ⟨w2,hrun,hv,hS',hR⟩:=put_step (i:=2) hS hv0.2 (by decide) 15 0 60 rfl 60 rfl
   have h1:=hK w2 undef hv hS' hR
   clear hK hS hl hd hin hout hsz hv hS' hR hv0
   go_simp
   exact h1
  ·intro a x ls w1 hS hsz hl hin hout hd K hK
   have h1:=hK w1 (plc 15 1) rfl (hS.set _ (by decide)) (SgR.refl _ _)
   clear hK hS hl hd hin hout hsz
   go_simp
   exact h1
  ·intro a x ls w1 hS hsz hl hin hout hd K hK
   have hv0:=hd ⟨0,.data⟩ (by simp) rfl
   have e1:a.tmps.getD 1 undef = .map (some w.heap.size):=(hin 1 0 (by decide) (by show 1<10;decide)).trans hv0.1
   have e2:a.tmps.getD 3 undef=plc 15 1:=(hin 3 3 (by decide) (by show 3<10;decide)).trans (hd ⟨3,.data⟩ (by simp) rfl)
   obtain ⟨w2,hrun,hv,hS',hR⟩:=put_step (i:=4) hS hv0.2 (by decide) 15 1 62 rfl 62 rfl
   have h1:=hK w2 undef hv hS' hR
   clear hK hS hl hd hin hout hsz hv hS' hR hv0
   go_simp
   exact h1
  ·intro a x ls w1 hS hsz hl hin hout hd K hK
   have h1:=hK w1 (plc 14 0) rfl (hS.set _ (by decide)) (SgR.refl _ _)
   clear hK hS hl hd hin hout hsz
   go_simp
   exact h1
  ·intro a x ls w1 hS hsz hl hin hout hd K hK
   have hv0:=hd ⟨0,.data⟩ (by simp) rfl
   have e1:a.tmps.getD 1 undef = .map (some w.heap.size):=(hin 1 0 (by decide) (by show 1<10;decide)).trans hv0.1
   have e2:a.tmps.getD 4 undef=plc 14 0:=(hin 4 5 (by decide) (by show 4<10;decide)).trans (hd ⟨5,.data⟩ (by simp) rfl)
   obtain ⟨w2,hrun,hv,hS',hR⟩:=put_step (i:=6) hS hv0.2 (by decide) 14 0 60 rfl 60 rfl
   have h1:=hK w2 undef hv hS' hR
   clear hK hS hl hd hin hout hsz hv hS' hR hv0
   go_simp
   exact h1
  ·intro a x ls w1 hS hsz hl hin hout hd K hK
   have h1:=hK w1 (plc 14 1) rfl (hS.set _ (by decide)) (SgR.refl _ _)
   clear hK hS hl hd hin hout hsz
   go_simp
   exact h1
  ·intro a x ls w1 hS hsz hl hin hout hd K hK
   have hv0:=hd ⟨0,.data⟩ (by simp) rfl
   have e1:a.tmps.getD 1 undef = .map (some w.heap.size):=(hin 1 0 (by decide) (by show 1<10;decide)).trans hv0.1
   have e2:a.tmps.getD 5 undef=plc 14 1:=(hin 5 7 (by decide) (by show 5<10;decide)).trans (hd ⟨7,.data⟩ (by simp) rfl)
   obtain ⟨w2,hrun,hv,hS',hR⟩:=put_step (i:=8) hS hv0.2 (by decide) 14 1 62 rfl 62 rfl
   have h1:=hK w2 undef hv hS' hR
   clear hK hS hl hd hin hout hsz hv hS' hR hv0
   go_simp
   exact h1
  ·intro a x ls w1 hS hsz hl hin hout hd K hK
   have h1:=hK w1 (plc 13 0) rfl (hS.set _ (by decide)) (SgR.refl _ _)
   clear hK hS hl hd hin hout hsz
   go_simp
   exact h1
  ·intro a x ls w1 hS hsz hl hin hout hd K hK
   have hv0:=hd ⟨0,.data⟩ (by simp) rfl
   have e1:a.tmps.getD 1 undef = .map (some w.heap.size):=(hin 1 0 (by decide) (by show 1<10;decide)).trans hv0.1
   have e2:a.tmps.getD 6 undef=plc 13 0:=(hin 6 9 (by decide) (by show 6<10;decide)).trans (hd ⟨9,.data⟩ (by simp) rfl)
   obtain ⟨w2,hrun,hv,hS',hR⟩:=put_step (i:=10) hS hv0.2 (by decide) 13 0 60 rfl 60 rfl
   have h1:=hK w2 undef hv hS' hR
   clear hK hS hl hd hin hout hsz hv hS' hR hv0
   go_simp
   exact h1
  ·intro a x ls w1 hS hsz hl hin hout hd K hK
   have h1:=hK w1 (plc 13 1) rfl (hS.set _ (by decide)) (SgR.refl _ _)
   clear hK hS hl hd hin hout hsz
   go_simp
   exact h1
  ·intro a x ls w1 hS hsz hl hin hout hd K hK
   have hv0:=hd ⟨0,.data⟩ (by simp) rfl
   have e1:a.tmps.getD 1 undef = .map (some w.heap.size):=(hin 1 0 (by decide) (by show 1<10;decide)).trans hv0.1
   have e2:a.tmps.getD 7 undef=plc 13 1:=(hin 7 11 (by decide) (by show 7<10;decide)).trans (hd ⟨11,.data⟩ (by simp) rfl)
   obtain ⟨w2,hrun,hv,hS',hR⟩:=put_step (i:=12) hS hv0.2 (by decide) 13 1 44 rfl 44 rfl
   have h1:=hK w2 undef hv hS' hR
   clear hK hS hl hd hin hout hsz hv hS' hR hv0
   go_simp
   exact h1
  ·intro a x ls w1 hS hsz hl hin hout hd K hK
   have h1:=hK w1 (plc 13 2) rfl (hS.set _ (by decide)) (SgR.refl _ _)
   clear hK hS hl hd hin hout hsz
   go_simp
   exact h1
  ·intro a x ls w1 hS hsz hl hin hout hd K hK
   have hv0:=hd ⟨0,.data⟩ (by simp) rfl
   have e1:a.tmps.getD 1 undef = .map (some w.heap.size):=(hin 1 0 (by decide) (by show 1<10;decide)).trans hv0.1
   have e2:a.tmps.getD 8 undef=plc 13 2:=(hin 8 13 (by decide) (by show 8<10;decide)).trans (hd ⟨13,.data⟩ (by simp) rfl)
   obtain ⟨w2,hrun,hv,hS',hR⟩:=put_step (i:=14) hS hv0.2 (by decide) 13 2 62 rfl 62 rfl
   have h1:=hK w2 undef hv hS' hR
   clear hK hS hl hd hin hout hsz hv hS' hR hv0
   go_simp
   exact h1
  ·intro a x ls w1 hS hsz hl hin hout hd K hK
   have hv0:=hd ⟨0,.data⟩ (by simp) rfl
   have e1:a.tmps.getD 1 undef = .map (some w.heap.size):=(hin 1 0 (by decide) (by show 1<10;decide)).trans hv0.1
   have h1:=hK w1 (.map (some w.heap.size)) rfl (hS.set _ (by decide)) (SgR.refl _ _)
   clear hK hS hl hd hin hout hsz hv0
   go_simp
   exact h1
  ·intro a x ls w1 hS hsz hl hin hout hd K hK
   have e1:a.tmps.getD 9 undef = .map (some w.heap.size):=(hin 9 15 (by decide) (by show 9<10;decide)).trans (hd ⟨15,.data⟩ (by simp) rfl)
   have h1:=hK w1 (.map (some w.heap.size)) rfl (hS.set _ (by decide)) (SgR.refl _ _)
   clear hK hS hl hd hin hout hsz
   go_simp
   exact h1
 ·intro A x ls w1 hS hall hin hout hV HA
  have e0:A.tmps.getD 0 undef = .map (some w.heap.size):=(hin 0 16 (by decide) (by show 0<10;decide)).trans (hV 16 (by decide))
  have hN:=hS.1
  have hSg:Sg w1 w.heap.size:=by
   obtain ⟨-,h | ⟨-,es,c,hg,hE⟩⟩:=hS
   ·have:=hall 0 (by decide)
    rw [this] at h;cases h.1
   ·refine ⟨es,c,hg,hE,?_⟩
    have key:∀ {k n:Nat},SgV w k n w1→∃ e ∈ es.toList,e.key=plc k n:=by
     intro k n ⟨es',c',hg',h⟩
     rw [hg] at hg'
     cases hg'
     exact h
    intro k n v hv
    unfold signV at hv
    have k0:=key (hV 2 (by decide))
    have k1:=key (hV 4 (by decide))
    have k2:=key (hV 6 (by decide))
    have k3:=key (hV 8 (by decide))
    have k4:=key (hV 10 (by decide))
    have k5:=key (hV 12 (by decide))
    have k6:=key (hV 14 (by decide))
    split at hv
    ·rename_i h
     obtain ⟨h | h | h,rfl⟩:=h <;> subst h <;> assumption
    ·split at hv
     ·rename_i h
      obtain ⟨rfl,rfl⟩:=h
      assumption
     ·split at hv
      ·rename_i h
       obtain ⟨h | h,rfl⟩ | ⟨rfl,rfl⟩:=h
       ·subst h;assumption
       ·subst h;assumption
       ·assumption
      ·cases hv
  have hdf:A.defers=[]:=by rw [HA.out]
  clear hV hall hin hout HA hS
  go_wp2_with fail
  exact bodyPost_ret (v:=.map (some w.heap.size)) (by simp [results,Tryz.results122,go_sem,← e0]) hdf ⟨rfl,hSg,hN⟩
end Go.Proofs.YtpbjkgpdkopgmaaGreatDoor
namespace Go.Proofs.YtpbjkgpdkopgmaaGreatDoor
open Go.RowKit
section
variable {α:Type} {f:α→Array Value} {k:Nat} {T:TypeId}
theorem OwnS.oth {w w':World} {B b:Nat} {v:Value} {xs:List α} (h:OwnS f k T w B v xs) (ho:Oth b w w') (hb:b<B):OwnS f k T w' B v xs:=by
 obtain ⟨h1,h2⟩:=h
 refine ⟨h1,?_⟩
 rcases h2 with h2 | ⟨g,cap,cur,hv,hg,hh,r⟩
 ·exact .inl h2
 ·refine .inr ⟨g,cap,cur,hv,hg,?_,r⟩
  rw [ho.block g ?_ (by omega)];exact hh
  rcases Nat.lt_or_ge g w.heap.size with h | h
  ·exact h
  ·rw [Array.getElem?_eq_none h] at hh;cases hh
end
end Go.Proofs.YtpbjkgpdkopgmaaGreatDoor
namespace Go.Proofs.YtpbjkgpdkopgmaaGreatDoor
open Go.RowKit
structure Fr (b:Nat) (v:Value) (w:World) (v':Value) (w':World):Prop where
 os:w'.os=w.os
 tape:w'.tape=w.tape
 output:w'.output=w.output
 size:w.heap.size≤w'.heap.size
 block:∀ k,k<w.heap.size→k≠b→v.ownBlock≠some k→w'.heap[k]? = w.heap[k]?
 own:∀ k,v'.ownBlock=some k→v.ownBlock=some k∨w.heap.size≤k
theorem Fr.refl (b:Nat) (v:Value) (w:World):Fr b v w v w:=⟨rfl,rfl,rfl,Nat.le_refl _,fun _ _ _ _=>rfl,fun _ h=>.inl h⟩
theorem Fr.trans {b:Nat} {v v1 v2:Value} {x y z:World} (h:Fr b v x v1 y) (k:Fr b v1 y v2 z):Fr b v x v2 z :=
  ⟨k.os.trans h.os,k.tape.trans h.tape,k.output.trans h.output,Nat.le_trans h.size k.size,
   fun i hi hb hv=>(k.block i (Nat.lt_of_lt_of_le hi h.size) hb (fun e=>(h.own i e).elim hv (by omega))).trans (h.block i hi hb hv),
   fun i e=>(k.own i e).elim (h.own i) (fun h'=>.inr (Nat.le_trans h.size h'))⟩
theorem Fr.oth {b:Nat} {w w':World} (h:Oth b w w') (v:Value):Fr b v w v w':=⟨h.os,h.tape,h.output,h.size,fun k hk hb _=>h.block k hk hb,fun _ h=>.inl h⟩
theorem Fr.nx {w w':World} (h:Nx w w') (b:Nat) (v:Value):Fr b v w v w':=⟨h.os,h.tape,h.output,h.size,fun k hk _ _=>h.block k hk,fun _ h=>.inl h⟩
theorem Fr.set (w:World) (b i:Nat) (u v:Value):Fr b v w v (w.setCell ⟨b,i,none⟩ u):=Fr.oth (Oth.set w b i u) v
theorem Fr.toOth {b B:Nat} {v v':Value} {w w1 w':World} (h:Fr b v w1 v' w') (ho:Oth b w w1) (hv:∀ k,v.ownBlock=some k→B≤k) (hB:w.heap.size≤B):Oth b w w' :=
 ⟨h.os.trans ho.os,h.tape.trans ho.tape,h.output.trans ho.output,Nat.le_trans ho.size h.size,fun k hk hb =>
  (h.block k (Nat.lt_of_lt_of_le hk ho.size) hb (fun e=>by have:=hv k e;omega)).trans (ho.block k hk hb)⟩
end Go.Proofs.YtpbjkgpdkopgmaaGreatDoor
