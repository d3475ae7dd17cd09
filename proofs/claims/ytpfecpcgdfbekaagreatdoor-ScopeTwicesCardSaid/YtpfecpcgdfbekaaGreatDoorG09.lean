/- A region that draws its order: an invariant over what has been carried out serves every order. Plain lemmas over any program. A region that draws its order: an invariant that knows what has been carried out. Plain lemmas over any program. The signs of types: a map that the call makes, in any order (what is plain of it). A cursor over the text of a type: its cells, its names, what a call leaves of the world. Plain lemmas (what is plain of it). A cursor over the words of a file; append of one element onto a list. Plain lemmas (what is plain of it). The contracts of the cursor's small steps (what is plain of it). The contracts of the cursor's word and sign (what is plain of it). The text of types, step by step. Plain lemmas. What the parser of types needs, and leaves (what is plain of it). The contract of between, at lists and sets (what is plain of it). The contract of between, at maps (what is plain of it). The contracts of within and next (what is plain of it). The contract of next (what is plain of it). The contract of read (what is plain of it). The contract of kind.Head (what is plain of it). Plain and qualified names: as kind's reading of them, as strings.Split cuts them. Plain lemmas. The contracts of Reserved, Plain, qualified names, definitions' words (what is plain of it). The contracts of names, types' first words, at the cursor (what is plain of it). Bytes that the call owns, told by their cells: what []byte(s) gives, and appends to it. Plain lemmas over any program. The contract of Show (what is plain of it). The contracts of types at the cursor (what is plain of it). Reading of elements: what is asked of who reads one, and how it goes on. Plain lemmas (what is plain of it). -/
import Derived.Test.YtpfecpcgdfbekaaGreatDoorG00
import Derived.Test.YtpfecpcgdfbekaaGreatDoorG08
import Derived.DeepKeys4
import Derived.Maps.Keyed
import Derived.Maps.Own
import Derived.Test.YtpfecpcgdfbekaaGreatDoorProg
import Derived.Test.YtpfecpcgdfbekaaGreatDoorG01
import Derived.StillTailTactics
import Derived.Deep.CutBlock
import Derived.ChangeKeysEq
import Derived.Laws.Rows
import Derived.Laws.ResultCell
import Derived.Lib.Split
import Derived.Lib.IndexBytes
import Derived.Lib.IndexLaws
import Derived.Deep.Light
import Derived.Deep.Upon
import Derived.Deep.AppendSrc
import Derived.Deep.MidRow
import Derived.Lib.SmallJoins
import Derived.Test.YtpfecpcgdfbekaaGreatDoorG02
set_option linter.unusedVariables false
set_option linter.unusedSimpArgs false
set_option linter.unnecessarySimpa false
namespace Go.Proofs.YtpfecpcgdfbekaaGreatDoor
namespace RI
def PA:List Oper→Nat→(Nat→Value)→Act→Act
 | [],_,_,a=>a
 | o :: os,k,x,a=>PA os (k+1) x (a.put o.dst (x k))
def upd (x:Nat→Value) (i:Nat) (v:Value):Nat→Value:=fun j=>if j=i then v else x j
theorem PA_congr:∀ (os:List Oper) (k:Nat) (x y:Nat→Value) (a:Act),(∀ j,k≤j→x j=y j)→PA os k x a=PA os k y a
 | [],_,_,_,_,_=>rfl
 | o :: os,k,x,y,a,h=>by
  unfold PA
  rw [h k (Nat.le_refl _)]
  exact PA_congr os (k+1) x y _ (fun j hj=>h j (by omega))
def dsts (os:List Oper):List Nat:=os.filterMap (·.dst)
theorem put_put (a:Act) (d:Nat) (u v:Value):(a.put (some d) u).put (some d) v=a.put (some d) v:=by
 simp [Act.put]
theorem put_swap (a:Act) (d e:Nat) (u v:Value) (h:d≠e):(a.put (some d) u).put (some e) v=(a.put (some e) v).put (some d) u:=by
 simp only [Act.put]
 rw [Array.setIfInBounds_comm _ _ h]
theorem PA_put:∀ (os:List Oper) (k:Nat) (x:Nat→Value) (a:Act) (d:Nat) (v:Value),d ∉ dsts os→PA os k x (a.put (some d) v)=(PA os k x a).put (some d) v
 | [],_,_,_,_,_,_=>rfl
 | o :: os,k,x,a,d,v,h=>by
  unfold PA
  cases hd:o.dst with
  | none =>
   rw [hd] at *
   have h2:d ∉ dsts os:=fun h'=>h (by simp [dsts,hd] at h' ⊢;exact .inr h')
   exact PA_put os (k+1) x a d v h2
  | some e =>
   have h1:e≠d:=fun h'=>h (by simp [dsts,hd,h'])
   have h2:d ∉ dsts os:=fun h'=>h (by simp [dsts,hd] at h' ⊢;exact .inr h')
   rw [put_swap _ _ _ _ _ (Ne.symm h1)]
   exact PA_put os (k+1) x _ d v h2
theorem PA_upd:∀ (os:List Oper) (k:Nat) (x:Nat→Value) (a:Act) (i:Nat) (o:Oper) (v:Value),(dsts os).Nodup→os[i]? = some o→(PA os k x a).put o.dst v=PA os k (upd x (k+i) v) a
 | [],_,_,_,_,_,_,_,h=>by simp at h
 | o' :: os,k,x,a,i,o,v,hn,h=>by
  have hn2:(dsts os).Nodup:=by
   cases hd:o'.dst with
   | none=>simpa [dsts,hd] using hn
   | some e=>have:=hn;simp [dsts,hd] at this;exact this.2
  cases i with
  | zero =>
   simp at h
   subst h
   unfold PA
   have e1:upd x (k+0) v k=v:=by simp [upd]
   have e2:∀ j,k+1≤j→x j=upd x (k+0) v j:=fun j hj=>by unfold upd;rw [if_neg (by omega)]
   rw [e1,← PA_congr os (k+1) x _ _ e2]
   cases hd:o'.dst with
   | none=>rfl
   | some e =>
    have h2:e ∉ dsts os:=by
     have:=hn
     simp [dsts,hd] at this
     simpa [dsts] using this.1
    rw [← PA_put os (k+1) x _ e v h2,put_put]
  | succ i =>
   simp at h
   unfold PA
   have e1:upd x (k+(i+1)) v k=x k:=by unfold upd;rw [if_neg (by omega)]
   rw [e1,show k+(i+1)=k+1+i by omega]
   exact PA_upd os (k+1) x _ i o v hn2 h
def old (a:Act) (os:List Oper):Nat→Value:=fun j=>match (os[j]?).bind (·.dst) with
 | some d=>a.tmps.getD d undef
 | none=>undef
theorem put_own (a:Act) (d:Nat):a.put (some d) (a.tmps.getD d undef)=a:=by
 cases a with
 | mk t ds =>
  simp only [Act.put,Act.mk.injEq,and_true]
  apply Array.ext
  ·simp
  ·intro i h1 h2
   by_cases h:d=i
   ·subst h
    rw [Array.getElem_setIfInBounds_self]
    simp at h1
    simp [h1]
   ·rw [Array.getElem_setIfInBounds_ne _ h]
theorem PA_old:∀ (os:List Oper) (k:Nat) (x:Nat→Value) (a:Act),(∀ i o d,os[i]? = some o→o.dst=some d→x (k+i)=a.tmps.getD d undef)→PA os k x a=a
 | [],_,_,_,_=>rfl
 | o :: os,k,x,a,h=>by
  unfold PA
  have e:a.put o.dst (x k)=a:=by
   cases hd:o.dst with
   | none=>rfl
   | some d=>rw [show x k=a.tmps.getD d undef from h 0 o d rfl hd];exact put_own a d
  rw [e]
  exact PA_old os (k+1) x a (fun i o' d h1 h2=>by rw [show k+1+i=k+(i+1) by omega];exact h (i+1) o' d (by simpa using h1) h2)
section
variable {P:Program} {md:Region.Mode} (l:List Oper) (a0:Act) (V:Nat→Value→World→Prop) (S:World→Prop) (R:World→World→Prop)
def Step (P:Program) (i:Nat) (o:Oper):Prop:=∀ (x:Nat→Value) (w:World),S w→(∀ e ∈ o.after.toList,Region.binds .any e=true→V e.on (x e.on) w) →
 ∀ K:Act→World→Prop,(∀ a' w' v,a'=(PA l 0 x a0).put o.dst v→V i v w'→S w'→R w w'→K a' w') →
  if Region.wanted o (yielded l.toArray (PA l 0 x a0).tmps) then o.wp P (PA l 0 x a0) w K (fun _ _ _=>False) else K ((PA l 0 x a0).put o.dst undef) w
def Steps (P:Program):List Oper→Nat→Prop
 | [],_=>True
 | o :: os,i=>Step l a0 V S R P i o∧Steps P os (i+1)
variable {l a0 V S R}
theorem Steps.at_:∀ {os:List Oper} {k:Nat},Steps l a0 V S R P os k→∀ i o,os[i]? = some o→Step l a0 V S R P (k+i) o
 | [],_,_,i,o,h=>by simp at h
 | o' :: os,k,hs,i,o,h=>by
  cases i with
  | zero=>simp at h;subst h;exact hs.1
  | succ i=>rw [show k+(i+1)=k+1+i by omega];exact Steps.at_ hs.2 i o (by simpa using h)
def unl (n:Nat) (listed:Array Bool):Nat:=((List.range n).filter fun i=>!listed.getD i true).length
theorem filter_lt {α:Type} (p q:α→Bool) (xs:List α) (h:∀ y ∈ xs,p y=true→q y=true) (z:α) (hz:z ∈ xs) (h1:p z=false) (h2:q z=true):(xs.filter p).length<(xs.filter q).length:=by
 have le:∀ ys:List α,(∀ y ∈ ys,p y=true→q y=true)→(ys.filter p).length≤(ys.filter q).length:=by
  intro ys
  induction ys with
  | nil=>intro _;exact Nat.le_refl _
  | cons y ys ih =>
   intro h
   have:=ih (fun y hy=>h y (by simp [hy]))
   cases hp:p y
   ·rw [List.filter_cons_of_neg (by simp [hp])]
    cases hq:q y
    ·rw [List.filter_cons_of_neg (by simp [hq])];exact this
    ·rw [List.filter_cons_of_pos hq];simp;omega
   ·rw [List.filter_cons_of_pos hp,List.filter_cons_of_pos (h y (by simp) hp)];simp;exact this
 induction xs with
 | nil=>cases hz
 | cons y ys ih =>
  have hle:=le ys (fun y hy=>h y (by simp [hy]))
  rcases List.mem_cons.1 hz with rfl | hz
  ·rw [List.filter_cons_of_neg (by simp [h1]),List.filter_cons_of_pos h2];simp;omega
  ·have:=ih (fun y hy=>h y (by simp [hy])) hz
   cases hp:p y
   ·rw [List.filter_cons_of_neg (by simp [hp])]
    cases hq:q y
    ·rw [List.filter_cons_of_neg (by simp [hq])];exact this
    ·rw [List.filter_cons_of_pos hq];simp;omega
   ·rw [List.filter_cons_of_pos hp,List.filter_cons_of_pos (h y (by simp) hp)];simp;exact this
def backB (l:List Oper):Bool:=(List.range l.length).all fun i=>match l[i]? with
 | some o=>o.after.all fun e=>!Region.binds .any e || decide (e.on<i)
 | none=>true
def okB (l:List Oper):Bool:=backB l && decide ((dsts l).Nodup)
theorem all_listed (hb:backB l=true) {listed:Array Bool} (hz:listed.size=l.length) (hr:Region.ready .any l.toArray listed=[]):∀ i,i<l.length→listed.getD i true=true:=by
 intro i
 induction i using Nat.strongRecOn with
 | ind i ih =>
  intro hi
  cases h:listed.getD i true with
  | true=>rfl
  | false =>
   exfalso
   have hmem:i ∈ Region.ready .any l.toArray listed:=by
    rw [mem_ready]
    refine ⟨h,l[i],by simp [hi],fun e he hbd=>?_⟩
    have h1:=List.all_eq_true.1 hb i (List.mem_range.2 hi)
    simp only [List.getElem?_eq_getElem hi] at h1
    have h2:=Array.all_eq_true'.1 h1 e he
    simp [hbd] at h2
    have h3:=ih e.on h2 (by omega)
    have h4:e.on<listed.size:=by omega
    simpa [h4] using h3
   rw [hr] at hmem
   cases hmem
theorem upd_same (x:Nat→Value) (i:Nat) (v:Value):upd x i v i=v:=by simp [upd]
theorem upd_ne (x:Nat→Value) (i j:Nat) (v:Value) (h:j≠i):upd x i v j=x j:=by unfold upd;rw [if_neg h]
def StepZ (l:List Oper) (oz:Oper) (a0:Act) (V:Nat→Value→World→Prop) (S:World→Prop) (R:World→World→Prop) (P:Program) (i:Nat) (o:Oper):Prop:=∀ (x:Nat→Value) (w:World),S w→(∀ e ∈ o.after.toList,Region.binds .any e=true→V e.on (x e.on) w) →
 ∀ K:Act→World→Prop,(∀ a' w' v,a'=(PA l 0 x a0).put o.dst v→V i v w'→S w'→R w w'→K a' w') →
  if Region.wanted o (yielded (l++[oz]).toArray (PA l 0 x a0).tmps) then o.wp P (PA l 0 x a0) w K (fun _ _ _=>False) else K ((PA l 0 x a0).put o.dst undef) w
def StepsZ (l:List Oper) (oz:Oper) (a0:Act) (V:Nat→Value→World→Prop) (S:World→Prop) (R:World→World→Prop) (P:Program):List Oper→Nat→Prop
 | [],_=>True
 | o :: os,i=>StepZ l oz a0 V S R P i o∧StepsZ l oz a0 V S R P os (i+1)
theorem StepsZ.at_ {oz:Oper}:∀ {os:List Oper} {k:Nat},StepsZ l oz a0 V S R P os k→∀ i o,os[i]? = some o→StepZ l oz a0 V S R P (k+i) o
 | [],_,_,i,o,h=>by simp at h
 | o' :: os,k,hs,i,o,h=>by
  cases i with
  | zero=>simp at h;subst h;exact hs.1
  | succ i=>rw [show k+(i+1)=k+1+i by omega];exact StepsZ.at_ hs.2 i o (by simpa using h)
theorem PA_last:∀ (l:List Oper) (k:Nat) (x:Nat→Value) (a:Act) (oz:Oper),oz.dst=none→PA (l++[oz]) k x a=PA l k x a
 | [],k,x,a,oz,h=>by simp only [List.nil_append,PA,h];rfl
 | o :: l,k,x,a,oz,h=>by
  simp only [List.cons_append,PA]
  exact PA_last l (k+1) x _ oz h
def StepL (L:List Oper) (a0:Act) (V:Nat→Value→World→Prop) (S:World→Prop) (R:World→World→Prop) (P:Program) (i:Nat) (o:Oper):Prop:=∀ (x:Nat→Value) (w:World),S w→(∀ e ∈ o.after.toList,Region.binds .any e=true→V e.on (x e.on) w) →
 ∀ K:Act→World→Prop,(∀ a' w' v,a'=(PA L 0 x a0).put o.dst v→V i v w'→S w'→R w w'→K a' w') →
  if Region.wanted o (yielded L.toArray (PA L 0 x a0).tmps) then o.wp P (PA L 0 x a0) w K (fun _ _ _=>False) else K ((PA L 0 x a0).put o.dst undef) w
def StepsY (L:List Oper) (a0:Act) (V:Nat→Value→World→Prop) (S:World→Prop) (R:World→World→Prop) (P:Program) (Q:Exit→Act→World→Prop):List Oper→Nat→Prop
 | [],_=>True
 | [oz],n=>∀ (x:Nat→Value) (w:World),S w→(∀ j,j<n→V j (x j) w)→oz.wp P (PA L 0 x a0) w (fun a' w'=>Q .normal a' w') (fun _ _ _=>False)
 | o :: o' :: os,i=>StepL L a0 V S R P i o∧StepsY L a0 V S R P Q (o' :: os) (i+1)
theorem StepsY.split {Q:Exit→Act→World→Prop} {oz:Oper} (hd:oz.dst=none):∀ (os:List Oper) (k:Nat),StepsY (l++[oz]) a0 V S R P Q (os++[oz]) k →
  StepsZ l oz a0 V S R P os k∧(∀ (x:Nat→Value) (w:World),S w→(∀ j,j<k+os.length→V j (x j) w)→oz.wp P (PA l 0 x a0) w (fun a' w'=>Q .normal a' w') (fun _ _ _=>False))
 | [],k,h=>by
  refine ⟨trivial,fun x w h1 h2=>?_⟩
  have:=h x w h1 (by simpa using h2)
  rw [PA_last l 0 x a0 oz hd] at this
  exact this
 | o :: os,k,h=>by
  have h':StepL (l++[oz]) a0 V S R P k o∧StepsY (l++[oz]) a0 V S R P Q (os++[oz]) (k+1):=by
   cases os with
   | nil=>exact h
   | cons o2 os=>exact h
  obtain ⟨h1,h2⟩:=StepsY.split hd os (k+1) h'.2
  refine ⟨⟨?_,h1⟩,?_⟩
  ·intro x w hS hdp K hK
   have:=h'.1 x w hS hdp K (by rw [PA_last l 0 x a0 oz hd];exact hK)
   rw [PA_last l 0 x a0 oz hd] at this
   exact this
  ·rw [List.length_cons,show k+(os.length+1)=k+1+os.length by omega]
   exact h2
def Vof (Vs:List (Value→World→Prop)):Nat→Value→World→Prop:=fun j=>Vs.getD j fun _ _=>True
theorem eval_put (a:Act) (d:Nat) (v:Value) (h:d<a.tmps.size):(a.put (some d) v).eval (.tmp d)=v:=by
 simp [Act.put,Act.eval,h]
theorem eval_put_ne (a:Act) (x:Option Tmp) (d:Nat) (v:Value) (h:x≠some d):(a.put x v).eval (.tmp d)=a.eval (.tmp d):=by
 cases x with
 | none=>rfl
 | some e =>
  have:e≠d:=fun h'=>h (by rw [h'])
  simp only [Act.put,Act.eval]
  rw [Array.getD_eq_getD_getElem?,Array.getElem?_setIfInBounds_ne this,← Array.getD_eq_getD_getElem?]
theorem PA_out:∀ (os:List Oper) (k:Nat) (x:Nat→Value) (a:Act) (d:Nat),d ∉ dsts os→(PA os k x a).eval (.tmp d)=a.eval (.tmp d)
 | [],_,_,_,_,_=>rfl
 | o :: os,k,x,a,d,h=>by
  unfold PA
  have h2:d ∉ dsts os:=fun h'=>h (by simp [dsts] at h' ⊢;exact .inr h')
  have h1:o.dst≠some d:=fun h'=>h (by simp [dsts,h'])
  rw [PA_out os (k+1) x _ d h2,eval_put_ne _ _ _ _ h1]
theorem PA_in:∀ (os:List Oper) (k:Nat) (x:Nat→Value) (a:Act) (i:Nat) (o:Oper) (d:Nat),(dsts os).Nodup→os[i]? = some o→o.dst=some d→d<a.tmps.size→(PA os k x a).eval (.tmp d)=x (k+i)
 | [],_,_,_,_,_,_,_,h,_,_=>by simp at h
 | o' :: os,k,x,a,i,o,d,hn,h,hd,hs=>by
  have hn2:(dsts os).Nodup:=by
   cases hd:o'.dst with
   | none=>simpa [dsts,hd] using hn
   | some e=>have:=hn;simp [dsts,hd] at this;exact this.2
  unfold PA
  cases i with
  | zero =>
   simp at h
   subst h
   have h2:d ∉ dsts os:=by
    have:=hn
    simp [dsts,hd] at this
    simpa [dsts] using this.1
   rw [PA_out os (k+1) x _ d h2,hd,eval_put _ _ _ hs,Nat.add_zero]
  | succ i =>
   rw [PA_in os (k+1) x _ i o d hn2 (by simpa using h) hd (by cases o'.dst <;> simp [Act.put,hs]),show k+1+i=k+(i+1) by omega]
def slotB (L:List Oper) (d i:Nat):Bool:=decide ((dsts L).Nodup) && ((L[i]?).bind (·.dst) == some d)
theorem PA_slot {L:List Oper} {x:Nat→Value} {a:Act} {d i:Nat} (h:slotB L d i=true) (hs:d<a.tmps.size):(PA L 0 x a).eval (.tmp d)=x i:=by
 unfold slotB at h
 simp only [Bool.and_eq_true,decide_eq_true_eq,beq_iff_eq] at h
 obtain ⟨hn,h⟩:=h
 cases ho:L[i]? with
 | none=>rw [ho] at h;cases h
 | some o =>
  rw [ho] at h
  rw [PA_in L 0 x a i o d hn ho h hs,Nat.zero_add]
theorem PA_old_slot {L:List Oper} {x:Nat→Value} {a:Act} {d:Nat} (h:(dsts L).contains d=false):(PA L 0 x a).eval (.tmp d)=a.eval (.tmp d) :=
 PA_out L 0 x a d (by simpa using h)
def setAll:List Oper→Nat→(Nat→Value)→List Value→List Value
 | [],_,_,l=>l
 | o :: os,k,x,l=>setAll os (k+1) x (match o.dst with | some d=>l.set d (x k) | none=>l)
theorem PA_list:∀ (os:List Oper) (k:Nat) (x:Nat→Value) (a:Act),PA os k x a=⟨(setAll os k x a.tmps.toList).toArray,a.defers⟩
 | [],_,_,a=>rfl
 | o :: os,k,x,a=>by
  unfold PA setAll
  rw [PA_list os (k+1) x _]
  cases o.dst with
  | none=>rfl
  | some d=>simp [Act.put]
end
end RI
end Go.Proofs.YtpfecpcgdfbekaaGreatDoor
namespace Go.Proofs.YtpfecpcgdfbekaaGreatDoor
namespace RI
section
variable {P:Program} (L:List Oper) (a0:Act) (V:Nat→Value→World→Prop) (S:Array Bool→World→Prop) (R:World→World→Prop)
def StepN (P:Program) (i:Nat) (o:Oper):Prop :=
 ∀ (a:Act) (x:Nat→Value) (ls:Array Bool) (w:World),S ls w→ls.size=L.length→ls.getD i true=false→(∀ d i,slotB L d i=true→d<a0.tmps.size→a.eval (.tmp d)=x i)→(∀ d,(dsts L).contains d=false→a.eval (.tmp d)=a0.eval (.tmp d)) →
  (∀ e ∈ o.after.toList,Region.binds .any e=true→V e.on (x e.on) w) →
  ∀ K:Act→World→Prop,(∀ w' v,V i v w'→S (ls.setIfInBounds i true) w'→R w w'→K (a.put o.dst v) w')→o.wp P a w K (fun _ _ _=>False)
def StepsN (P:Program):List Oper→Nat→Prop
 | [],_=>True
 | o :: os,i=>StepN L a0 V S R P i o∧StepsN P os (i+1)
variable {L a0 V S R}
theorem StepsN.at_:∀ {os:List Oper} {k:Nat},StepsN L a0 V S R P os k→∀ i o,os[i]? = some o→StepN L a0 V S R P (k+i) o
 | [],_,_,i,o,h=>by simp at h
 | o' :: os,k,hs,i,o,h=>by
  cases i with
  | zero=>simp at h;subst h;exact hs.1
  | succ i=>rw [show k+(i+1)=k+1+i by omega];exact StepsN.at_ hs.2 i o (by simpa using h)
end
end RI
end Go.Proofs.YtpfecpcgdfbekaaGreatDoor
namespace Go.Proofs.YtpfecpcgdfbekaaGreatDoor
open Go.RowKit
def plc (k n:Nat):Value:=.agg #[.int .i64 (k:Int),.int .i64 (n:Int)]
theorem laidOutK:laidOutB Tryz.prog=true:=by kernel_rfl
def signV (k n:Nat):Option Nat :=
 if (k=13∨k=14∨k=15)∧n=0 then some 60
 else if k=13∧n=1 then some 44
 else if (k=14∨k=15)∧n=1∨k=13∧n=2 then some 62 else none
def GoodE (es:Array MapEntry):Prop:=∀ e ∈ es.toList,∃ k n v,signV k n=some v∧e.key=plc k n∧e.val = .int .u8 (v:Int)
def Sg (w:World) (g:Nat):Prop:=∃ es c,w.heap[g]? = some (.map es c)∧GoodE es∧∀ k n v,signV k n=some v→∃ e ∈ es.toList,e.key=plc k n
def SgS (W:World) (ls:Array Bool) (w:World):Prop :=
 Nx W w∧((ls.getD 0 false=false∧w.heap.size=W.heap.size)∨(ls.getD 0 false=true∧∃ es c,w.heap[W.heap.size]? = some (.map es c)∧GoodE es))
def SgR (W w w':World):Prop:=∀ es c,w.heap[W.heap.size]? = some (.map es c)→∃ es' c',w'.heap[W.heap.size]? = some (.map es' c')∧∀ x ∈ es.toList,∃ y ∈ es'.toList,y.key=x.key
theorem SgR.refl (W w:World):SgR W w w:=fun es c h=>⟨es,c,h,fun x hx=>⟨x,hx,rfl⟩⟩
def SgV (W:World) (k n:Nat) (w:World):Prop:=∃ es c,w.heap[W.heap.size]? = some (.map es c)∧∃ e ∈ es.toList,e.key=plc k n
theorem SgV.keep {W w w':World} {k n:Nat} (h:SgV W k n w) (hr:SgR W w w'):SgV W k n w':=by
 obtain ⟨es,c,hg,e,he,hk⟩:=h
 obtain ⟨es',c',hg',hall⟩:=hr es c hg
 obtain ⟨y,hy,hyk⟩:=hall e he
 exact ⟨es',c',hg',y,hy,hyk.trans hk⟩
def SgM (W w:World):Prop:=∃ es c,w.heap[W.heap.size]? = some (.map es c)
theorem SgM.keep {W w w':World} (h:SgM W w) (hr:SgR W w w'):SgM W w':=by
 obtain ⟨es,c,h⟩:=h
 obtain ⟨es',c',h',-⟩:=hr es c h
 exact ⟨es',c',h'⟩
theorem SgS.set {W w:World} {ls:Array Bool} (h:SgS W ls w) (i:Nat) (hi:i≠0):SgS W (ls.setIfInBounds i true) w:=by
 obtain ⟨h1,h2⟩:=h
 refine ⟨h1,?_⟩
 rw [getD_set_ne false hi]
 exact h2
theorem SgS.first {W w:World} {ls:Array Bool} (h:SgS W ls w) (hz:0<ls.size) (hl:ls.getD 0 true=false):w.heap.size=W.heap.size∧Nx W w:=by
 have:ls.getD 0 false=false:=by
  simp [hz] at hl ⊢;exact hl
 rcases h.2 with h2 | ⟨h2,-⟩
 ·exact ⟨h2.2,h.1⟩
 ·rw [this] at h2;cases h2
end Go.Proofs.YtpfecpcgdfbekaaGreatDoor
namespace Go.Proofs.YtpfecpcgdfbekaaGreatDoor
open Go.RowKit
theorem Fr.blk {b B g:Nat} {v v':Value} {w w':World} {cs:Array Value} {T:TypeId} (h:Fr b v w v' w') (k:Blk w B g cs T) (hb:g≠b) (hv:v.ownBlock≠some g):Blk w' B g cs T :=
 ⟨k.1,by rw [h.block g k.lt hb hv];exact k.2⟩
theorem Fr.sg {b g:Nat} {v v':Value} {w w':World} (h:Fr b v w v' w') (k:Sg w g) (hb:g≠b) (hv:v.ownBlock≠some g):Sg w' g:=by
 obtain ⟨es,c,hg,h1,h2⟩:=k
 refine ⟨es,c,?_,h1,h2⟩
 rw [h.block g ?_ hb hv]
 ·exact hg
 ·exact (Array.getElem?_eq_some_iff.1 hg).1
theorem Fr.to {b:Nat} {v v':Value} {w w1 w':World} (h:Fr b v w1 v' w') (hn:Nx w w1) (hb:w.heap.size≤b) (hv:∀ k,v.ownBlock=some k→w.heap.size≤k):Nx w w' :=
 ⟨h.os.trans hn.os,h.tape.trans hn.tape,h.output.trans hn.output,Nat.le_trans hn.size h.size,fun k hk =>
  (h.block k (Nat.lt_of_lt_of_le hk hn.size) (by omega) (fun e=>by have:=hv k e;omega)).trans (hn.block k hk)⟩
theorem Fr.mono {b:Nat} {v v':Value} {w w1 w':World} (h:Fr b v w1 v' w') (hn:Nx w w1):Fr b v w v' w':=(Fr.nx hn b v).trans h
theorem Fr.put {b g:Nat} {v v':Value} {w w':World} (h:Fr b v w v' w') (hg:w.heap.size≤g) (i:Nat) (u:Value):Fr b v w v' (w'.setCell ⟨g,i,none⟩ u) :=
 ⟨h.os,h.tape,h.output,by simp [World.setCell];exact h.size,fun k hk hb hv=>by simp only [World.setCell];rw [Array.getElem?_modify,if_neg (by omega)];exact h.block k hk hb hv,h.own⟩
def strC (s:ByteArray):Array Value:=#[.string s]
theorem strC_size (s:ByteArray):(strC s).size=1:=rfl
def OwnN (w:World) (B:Nat) (v:Value) (xs:List ByteArray):Prop:=OwnS strC 1 9 w B v xs
theorem OwnN.own {w:World} {B:Nat} {v:Value} {xs:List ByteArray} (h:OwnN w B v xs) (k:Nat) (e:v.ownBlock=some k):B≤k∧k<w.heap.size:=by
 have:=World.ownsRow.lt h k e
 exact ⟨this.1,this.2⟩
theorem OwnN.ne {w:World} {B B' g:Nat} {v:Value} {xs:List ByteArray} {cs:Array Value} {T:TypeId} (h:OwnN w B v xs) (k:Blk w B' g cs T) (hT:T≠9):v.ownBlock≠some g:=fun e=>by
 obtain ⟨h1,h2⟩:=h
 rcases h2 with ⟨rfl,_⟩ | ⟨g',cap,cur,rfl,hg,hh,r⟩
 ·cases e
 ·obtain rfl:g'=g:=by simpa [Value.ownBlock] using e
  have:=k.2
  rw [hh] at this
  simp only [Option.some.injEq,Obj.cells.injEq] at this
  exact hT this.2.1.symm
theorem OwnN.keep {w w':World} {B:Nat} {v:Value} {xs:List ByteArray} (h:OwnN w B v xs) (hk:∀ k,v.ownBlock=some k→w'.heap[k]? = w.heap[k]?):OwnN w' B v xs:=by
 obtain ⟨h1,h2⟩:=h
 refine ⟨h1,?_⟩
 rcases h2 with h2 | ⟨g,cap,cur,hv,hg,hh,r⟩
 ·exact .inl h2
 ·refine .inr ⟨g,cap,cur,hv,hg,?_,r⟩
  rw [hk g (by rw [hv];rfl)];exact hh
end Go.Proofs.YtpfecpcgdfbekaaGreatDoor
namespace Go.Proofs.YtpfecpcgdfbekaaGreatDoor
open Go.RowKit
structure Ends (ws:List TokV):Prop where
 next:∀ i,i<ws.length→(ws.getD i tok0).k≠6→i+1<ws.length
 few:ws.length≤2001
 txt:∀ x ∈ ws,x.t.length≤2000
theorem Ends.word {ws:List TokV} (h:Ends ws) (s:PSt):((wordP ws s).t.length:Int)≤2000:=by
 unfold wordP
 split
 ·exact (by decide)
 ·rw [List.getD_eq_getElem?_getD]
  cases hi:ws[s.i]? with
  | none=>exact (by decide)
  | some x=>have:=h.txt x (List.mem_of_getElem? hi);simp;omega
section
variable {w w':World} {b c:Nat} {A:Option Addr} {ws:List TokV} {s s':PSt}
theorem RdT.oth (h:RdT w A ws) (ho:Oth b w w') (hb:∀ g,A=some ⟨g,0,none⟩→g<b):RdT w' A ws:=fun h0=>by
 obtain ⟨g,e,hg,hc⟩:=h h0
 refine ⟨g,e,Nat.lt_of_lt_of_le hg ho.size,fun i hi j hj=>?_⟩
 rw [← hc i hi j hj]
 unfold World.cell?
 simp only
 rw [ho.block g hg (by have:=hb g e;omega)]
def leftP (b:Nat) (w:World):Nat:=match w.cell? ⟨b,1,none⟩,w.cell? ⟨b,2,none⟩ with
 | some (.int _ i),some (.int _ e)=>if e=0 then 3000 - i.toNat else 0
 | _,_=>0
def leftN (s:PSt):Nat:=if s.e=0 then 3000 - s.i else 0
end
end Go.Proofs.YtpfecpcgdfbekaaGreatDoor
namespace Go.Proofs.YtpfecpcgdfbekaaGreatDoor
open Go.RowKit
section
variable {w:World} {b c:Nat} {A:Option Addr} {ws:List TokV} {s:PSt}
end
end Go.Proofs.YtpfecpcgdfbekaaGreatDoor
namespace Go.Proofs.YtpfecpcgdfbekaaGreatDoor
open Go.RowKit
end Go.Proofs.YtpfecpcgdfbekaaGreatDoor
namespace Go.Proofs.YtpfecpcgdfbekaaGreatDoor
end Go.Proofs.YtpfecpcgdfbekaaGreatDoor
namespace Go.Proofs.YtpfecpcgdfbekaaGreatDoor
open Go.RowKit
theorem wpList_appN (w:World) {ops:Array Oper} {rest:List Oper} {o:Oper} {a:Act} {Q:Exit→Act→World→Prop} (hgd:o.guard=none) (s x:Operand)
  (ho:o.op = .call { callee:=.builtin .append,args:=#[s,x],argTypes:=#[25,25] })
  (B:Nat) (v:Value) (xs:List ByteArray) (y:ByteArray) (hs:a.eval s=v) (hown:OwnN w B v xs) (g:Nat) (hx:a.eval x = .slice (some ⟨g,0,none⟩) 1 1)
  (hy:w.cell? ⟨g,0,none⟩=some (.string y)) (h63:(xs.length:Int)≤100000) (hB:B≤w.heap.size)
  (h:∀ v' w',OwnN w' B v' (xs++[y])→(∀ b,Fr b v w v' w')→wpList Tryz.prog ops Q rest (a.put o.dst v') w'):wpList Tryz.prog ops Q (o :: rest) a w:=by
 refine wpList_plain hgd fun K hK=>?_
 obtain ⟨i,hi,hz,h1,h2⟩:=info_parts (show (Tryz.prog.info? 9).map (fun i=>(i.zero,i.size,i.bytes))=some (some (.string ⟨#[]⟩),1,16) by kernel_rfl)
 have hcells:∀ j u,((strC y).toList)[j]? = some u→w.cell? ((⟨g,0,none⟩:Addr).add j)=some u:=by
  intro j u hu
  have hj:j=0:=by
   rcases Nat.eq_zero_or_pos j with h | h
   ·exact h
   ·rw [List.getElem?_eq_none (by show (strC y).size≤j;rw [strC_size];exact h)] at hu;cases hu
  subst hj
  rw [Addr.add_lit,Nat.zero_add,hy,← hu];rfl
 obtain ⟨v',w',hrun,ho',hg,_,hloc⟩:=run_append_own_at (P:=Tryz.prog) w B 25 o.type 9 i _ 1 16 Tryz.underlying25 hi hz h1 h2 rfl (by decide) v xs.length (rowL strC xs) hown ⟨g,0,none⟩ 1 1 (strC y).toList (by rfl) hcells (by intro u hu;simp [strC] at hu;subst hu;rfl) (by simp [maxLen];omega)
  (by omega) hB
 have hown':OwnN w' B v' (xs++[y]):=by
  unfold OwnN OwnS
  rw [List.length_append,rowL_snoc]
  exact ho'
 have hFr:∀ b,Fr b v w v' w':=fun b=>⟨hg.os,hg.tape,hg.output,hg.size,fun k hk hb hv=>hg.block k hk (Ne.symm hv),fun k e=>by
  rcases hloc with h | h
  ·exact .inl (h ▸ e)
  ·rw [h] at e;cases e;exact .inr (Nat.le_refl _)⟩
 have:=hK _ _ (h v' w' hown' hFr)
 unfold Oper.wp execOp
 simp only [ho,resolve,invoke,builtin,Sem.run_bind,Sem.run_pure,Result.andThen_ok,List.map_toArray,List.map_cons,List.map_nil,hs,hx,hrun]
 exact this
end Go.Proofs.YtpfecpcgdfbekaaGreatDoor
namespace Go.Proofs.YtpfecpcgdfbekaaGreatDoor
open Go.RowKit
end Go.Proofs.YtpfecpcgdfbekaaGreatDoor
namespace Go.Proofs.YtpfecpcgdfbekaaGreatDoor
open Go.RowKit
end Go.Proofs.YtpfecpcgdfbekaaGreatDoor
namespace Go.Proofs.YtpfecpcgdfbekaaGreatDoor
open Go.RowKit
theorem OwnN.set {w:World} {B c:Nat} {v:Value} {xs:List ByteArray} (h:OwnN w B v xs) (hc:v.ownBlock≠some c) (i:Nat) (u:Value):OwnN (w.setCell ⟨c,i,none⟩ u) B v xs :=
 h.keep fun k e=>by
  simp only [World.setCell]
  rw [Array.getElem?_modify,if_neg (fun e'=>hc (by rw [e'];exact e))]
end Go.Proofs.YtpfecpcgdfbekaaGreatDoor
namespace Go.Proofs.YtpfecpcgdfbekaaGreatDoor
open Go.RowKit
theorem OwnN.nx {w w':World} {B:Nat} {v:Value} {xs:List ByteArray} (h:OwnN w B v xs) (hn:Nx w w'):OwnN w' B v xs:=OwnS.nx h hn
end Go.Proofs.YtpfecpcgdfbekaaGreatDoor
namespace Go.Proofs.YtpfecpcgdfbekaaGreatDoor
open Go.RowKit
end Go.Proofs.YtpfecpcgdfbekaaGreatDoor
namespace Go.Proofs.YtpfecpcgdfbekaaGreatDoor
open Go.RowKit
end Go.Proofs.YtpfecpcgdfbekaaGreatDoor
namespace Go.Proofs.YtpfecpcgdfbekaaGreatDoor
end Go.Proofs.YtpfecpcgdfbekaaGreatDoor
namespace Go.Proofs.YtpfecpcgdfbekaaGreatDoor
open Go.RowKit
end Go.Proofs.YtpfecpcgdfbekaaGreatDoor
namespace Go.Proofs.YtpfecpcgdfbekaaGreatDoor
open Go.RowKit
section
variable {w:World} {b c:Nat} {A:Option Addr} {ws:List TokV} {s:PSt}
end
end Go.Proofs.YtpfecpcgdfbekaaGreatDoor
namespace Go.Proofs.YtpfecpcgdfbekaaGreatDoor
open Go.RowKit
def OwnB (w:World) (B:Nat) (v:Value) (xs:List UInt8):Prop :=
 ∃ g c,v = .slice (some ⟨g,0,none⟩) xs.length c∧B≤g∧g<w.heap.size∧xs.length≤c∧c≤maxLen∧(∀ j,j<c→(w.cell? ⟨g,j,none⟩).isSome=true∧w.frozen? ⟨g,j,none⟩=false)∧∀ j (h:j<xs.length),w.cell? ⟨g,j,none⟩=some (bv xs[j])
theorem OwnB.own {w:World} {B:Nat} {v:Value} {xs:List UInt8} (h:OwnB w B v xs) (k:Nat) (e:v.ownBlock=some k):B≤k∧k<w.heap.size:=by
 obtain ⟨g,c,rfl,h1,h2,-⟩:=h
 simp [Value.ownBlock] at e
 subst e
 exact ⟨h1,h2⟩
theorem OwnB.rd {w:World} {B:Nat} {v:Value} {xs:List UInt8} (h:OwnB w B v xs):∃ g c,v = .slice (some ⟨g,0,none⟩) xs.length c∧Rd bv w (some ⟨g,0,none⟩) xs:=by
 obtain ⟨g,c,rfl,h1,h2,h3,h4,h5,h6⟩:=h
 exact ⟨g,c,rfl,fun _=>⟨g,0,rfl,h2,fun j hj=>by rw [Nat.zero_add];exact h6 j hj⟩⟩
theorem OwnB.keep {w w':World} {B:Nat} {v:Value} {xs:List UInt8} (h:OwnB w B v xs) (hz:w.heap.size≤w'.heap.size) (hk:∀ k,v.ownBlock=some k→w'.heap[k]? = w.heap[k]?):OwnB w' B v xs:=by
 obtain ⟨g,c,rfl,h1,h2,h3,h4,h5,h6⟩:=h
 have hg:=hk g rfl
 have e1:∀ j,w'.cell? ⟨g,j,none⟩=w.cell? ⟨g,j,none⟩:=fun j=>World.cell?_of_block (a:=⟨g,j,none⟩) hg
 have e2:∀ j,w'.frozen? ⟨g,j,none⟩=w.frozen? ⟨g,j,none⟩:=fun j=>World.frozen?_of_block (a:=⟨g,j,none⟩) hg
 exact ⟨g,c,rfl,h1,by omega,h3,h4,fun j hj=>by rw [e1,e2];exact h5 j hj,fun j hj=>by rw [e1];exact h6 j hj⟩
theorem OwnB.nx {w w':World} {B:Nat} {v:Value} {xs:List UInt8} (h:OwnB w B v xs) (hn:Nx w w'):OwnB w' B v xs:=h.keep hn.size fun k e=>hn.block k (h.own k e).2
structure Gb (v:Value) (w:World) (v':Value) (w':World):Prop where
 os:w'.os=w.os
 tape:w'.tape=w.tape
 output:w'.output=w.output
 size:w.heap.size≤w'.heap.size
 block:∀ k,k<w.heap.size→v.ownBlock≠some k→w'.heap[k]? = w.heap[k]?
theorem Gb.to {v v':Value} {w w1 w':World} (h:Gb v w1 v' w') (hn:Nx w w1) (hv:∀ k,v.ownBlock=some k→w.heap.size≤k):Nx w w' :=
 ⟨h.os.trans hn.os,h.tape.trans hn.tape,h.output.trans hn.output,Nat.le_trans hn.size h.size,fun k hk=>(h.block k (Nat.lt_of_lt_of_le hk hn.size) (fun e=>by have:=hv k e;omega)).trans (hn.block k hk)⟩
end Go.Proofs.YtpfecpcgdfbekaaGreatDoor
namespace Go.Proofs.YtpfecpcgdfbekaaGreatDoor
open Go.RowKit
def partS (k:Nat) (a b:List UInt8):List UInt8:=if k=14∨k=15 then 60 :: (a++[62]) else if k=13 then 60 :: (a++44 :: (b++[62])) else []
def showS (k:Int) (n a b:List UInt8):List UInt8:=if k=0 then n else if k<0∨17≤k then [] else wordK k.toNat++partS k.toNat a b
end Go.Proofs.YtpfecpcgdfbekaaGreatDoor
namespace Go.Proofs.YtpfecpcgdfbekaaGreatDoor
open Go.RowKit
theorem split_len:∀ (l:List UInt8),((splitP l).map fun p=>p.length+1).sum=l.length+1
 | []=>rfl
 | c :: r=>by
  have ih:=split_len r
  unfold splitP
  split
  ·simp [ih];omega
  ·split
   ·rename_i h;rw [h] at ih;simp at ih
   ·rename_i a bb h;rw [h] at ih;simp at ih ⊢;omega
theorem plain_len {l:List UInt8} (h:plainP l=true):l.length≤40:=by
 unfold plainP at h
 simp only [Bool.and_eq_true,decide_eq_true_eq] at h
 exact h.1.1.1
theorem sum_le (l:List (List UInt8)) (h:∀ p ∈ l,p.length≤40):(l.map fun p=>p.length+1).sum≤41 * l.length:=by
 induction l with
 | nil=>simp
 | cons a r ih =>
  have:=ih fun p hp=>h p (by simp [hp])
  have:=h a (by simp)
  simp
  omega
theorem qual_len {l:List UInt8} (h:qualP l=true):l.length≤122:=by
 unfold qualP at h
 simp only [Bool.and_eq_true,decide_eq_true_eq,List.all_eq_true] at h
 have h1:=split_len l
 have h2:=sum_le _ fun p hp=>plain_len (h.2 p hp)
 have:=h.1
 omega
theorem oft_len {l:List UInt8} (h:oftP l=true):l.length≤6:=by
 unfold oftP oftB at h
 simp at h
 rcases h with rfl | rfl | rfl | rfl | rfl | rfl | rfl | rfl | rfl | rfl | rfl | rfl <;> decide
theorem leaf_len (ws:List TokV) (s:PSt):(leafP ws s).1.length≤122:=by
 unfold leafP
 split
 ·simp
 ·split
  ·rename_i h
   unfold atTypeP at h
   simp only [Bool.and_eq_true,Bool.or_eq_true] at h
   rcases h.2 with h | h
   ·have:=oft_len h;simp;omega
   ·exact qual_len h
  ·exact Nat.zero_le _
theorem type_len (ws:List TokV):∀ (r:Nat) (s:PSt),(typeP ws r s).1.length+6≤128 * 2 ^ r
 | 0,s=>by
  unfold typeP
  split
  ·simp
  ·have:=leaf_len ws s;omega
 | r+1,s=>by
  have ih:=type_len ws r
  have h2:2 ^ (r+1)=2 ^ r+2 ^ r:=by rw [Nat.pow_succ];omega
  have h1:1≤2 ^ r:=Nat.one_le_two_pow
  rw [h2]
  unfold typeP
  dsimp only
  split
  ·have:=ih (needP ws [60] (nextP s));simp [kList];omega
  ·split
   ·have:=ih (needP ws [60] (nextP s));simp [kSet];omega
   ·split
    ·have h3:=ih (needP ws [60] (nextP s))
     have h4:=ih (needP ws [44] (typeP ws r (needP ws [60] (nextP s))).2)
     simp [kMap];omega
    ·have:=leaf_len ws s;omega
theorem type_short (ws:List TokV) (r:Nat) (hr:r≤11) (s:PSt):((typeP ws r s).1.length:Int)≤270000:=by
 have h1:=type_len ws r s
 have h2:2 ^ r≤2 ^ 11:=Nat.pow_le_pow_right (by decide) hr
 have h3:(2:Nat) ^ 11=2048:=by decide
 rw [h3] at h2
 omega
def withP (ws:List TokV) (tp:PSt→List UInt8×PSt) (k:Nat) (s:PSt):List UInt8×PSt :=
 let a:=tp (needP ws [60] (nextP s))
 let b:=if k=13 then tp (needP ws [44] a.2) else ([],a.2)
 (showS (k:Int) [] a.1 b.1,needP ws [62] b.2)
def typeN (ws:List TokV):Nat→Nat→PSt→List UInt8×PSt
 | 0,_,s=>([],failP 6 s)
 | r+1,k,s=>withP ws (typeP ws r) k s
theorem show15 (a b:List UInt8):showS 15 [] a b=kList++60 :: a++[62]:=by simp [showS,partS,wordK,kList]
theorem show14 (a b:List UInt8):showS 14 [] a b=kSet++60 :: a++[62]:=by simp [showS,partS,wordK,kSet]
theorem show13 (a b:List UInt8):showS 13 [] a b=kMap++60 :: a++44 :: b++[62]:=by simp [showS,partS,wordK,kMap]
theorem typeP_eq (ws:List TokV) (r:Nat) (s:PSt):typeP ws r s=if isP ws kList s then typeN ws r 15 s else if isP ws kSet s then typeN ws r 14 s else if isP ws kMap s then typeN ws r 13 s else leafP ws s:=by
 cases r with
 | zero =>
  unfold typeP typeN
  dsimp only
  by_cases h1:isP ws kList s=true
  ·simp [h1]
  ·by_cases h2:isP ws kSet s=true
   ·simp [h1,h2]
   ·by_cases h3:isP ws kMap s=true
    ·simp [h1,h2,h3]
    ·simp [h1,h2,h3]
 | succ r =>
  unfold typeP typeN withP
  dsimp only
  by_cases h1:isP ws kList s=true
  ·rw [if_pos h1,if_pos h1,if_neg (by decide)];exact Prod.ext (show15 _ _).symm rfl
  ·rw [if_neg h1,if_neg h1]
   by_cases h2:isP ws kSet s=true
   ·rw [if_pos h2,if_pos h2,if_neg (by decide)];exact Prod.ext (show14 _ _).symm rfl
   ·rw [if_neg h2,if_neg h2]
    by_cases h3:isP ws kMap s=true
    ·rw [if_pos h3,if_pos h3,if_pos rfl];exact Prod.ext (show13 _ _).symm rfl
    ·rw [if_neg h3,if_neg h3]
section
variable {w:World} {b c:Nat} {A:Option Addr} {ws:List TokV} {s:PSt}
end
end Go.Proofs.YtpfecpcgdfbekaaGreatDoor
namespace Go.Proofs.YtpfecpcgdfbekaaGreatDoor
open Go.RowKit
def Prog {β:Type} (ws:List TokV) (p:PSt→Bool) (rd:PSt→β×PSt):Prop:=∀ s,s.i<ws.length→p s=true→s.e=0∧((rd s).2.e≠0∨s.i<(rd s).2.i)
theorem left_step {ws:List TokV} {s s':PSt} (hl:s.i<ws.length) (hw:ws.length≤2001) (he:s.e=0) (h:s'.e≠0∨s.i<s'.i):leftN s'<leftN s:=by
 unfold leftN
 rw [if_pos he]
 split
 ·omega
 ·omega
theorem fail_ne (k:Nat) (hk:k≠0) (s:PSt):(failP k s).e≠0:=by
 unfold failP
 split
 ·rename_i h;exact h
 ·exact hk
theorem elems_more {β:Type} (ws:List TokV) (p:PSt→Bool) (most:Nat) (rd:PSt→β×PSt) (n:Nat) (acc:List β) (s:PSt) (h:p s=true) :
  elemsP ws p most rd (n+1) acc s=elemsP ws p most rd n (addP most rd acc s).1 (sepP ws (addP most rd acc s).2):=by
 conv=>lhs;unfold elemsP
 rw [if_pos h]
theorem elems_done {β:Type} (ws:List TokV) (p:PSt→Bool) (most:Nat) (rd:PSt→β×PSt) (n:Nat) (acc:List β) (s:PSt) (h:p s=false):elemsP ws p most rd n acc s=(acc,s):=by
 cases n with
 | zero=>rfl
 | succ n=>unfold elemsP;rw [h];rfl
end Go.Proofs.YtpfecpcgdfbekaaGreatDoor
