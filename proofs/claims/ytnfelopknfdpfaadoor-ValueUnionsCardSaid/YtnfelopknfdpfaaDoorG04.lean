/- Which texts are sequences of code points; decoded and encoded anew. Plain. A region that draws its order: an invariant over what has been carried out serves every order. Plain lemmas over any program. A region that draws its order: an invariant that knows what has been carried out, and what not. Plain lemmas over any program. The walk of ValueGo, given what value's functions are asked for. -/
import Derived.Test.YtnfelopknfdpfaaDoorG00
import Derived.Lib.MapLaws
import Derived.Lib.QuoteLoop
import Derived.Laws.Cover4
import Derived.Laws.IdiomStrings
import Derived.Test.YtnfelopknfdpfaaDoorG03
set_option linter.unusedVariables false
set_option linter.unusedSimpArgs false
set_option linter.unnecessarySimpa false
namespace Go.Proofs.YtnfelopknfdpfaaDoor
open Go.Lib
def vB:Nat→List UInt8→Bool
 | 0,l=>l.isEmpty
 | f+1,l=>if l=[] then true else if (decodeL l).1=65533∧(decodeL l).2=1 then false else vB f (l.drop (decodeL l).2)
def validU (l:List UInt8):Bool:=vB l.length l
def zsU:Nat→List UInt8→List Nat
 | 0,_=>[]
 | f+1,l=>if l=[] then [] else (decodeL l).1 :: zsU f (l.drop (decodeL l).2)
def encU (zs:List Nat):List UInt8:=zs.flatMap fun (z:Nat)=>encodeRune (z:Int)
theorem width_pos (l:List UInt8):1≤(decodeL l).2:=by
 rw [decodeL_N]
 rcases decodeN_shape l.length (l.getD 0 0).toNat (l.getD 1 0).toNat (l.getD 2 0).toNat (l.getD 3 0).toNat with ⟨c,e⟩ | ⟨c1,c2,c3,cv,e⟩ | ⟨c1,c2,c3,c4,cv,cs,e⟩ | ⟨c1,c2,c3,c4,c5,cv,cw,e⟩ | e
 all_goals (rw [e];dsimp only;omega)
theorem bad3:(encodeRune ((65533:Nat):Int)).length=3:=by decide
theorem enc_len:∀ (f:Nat) (l:List UInt8),l.length≤f→l.length≤(encU (zsU f l)).length∧(vB f l=true→encU (zsU f l)=l)∧(vB f l=false→l.length<(encU (zsU f l)).length)
 | 0,l,h=>by
  have:l=[]:=List.eq_nil_of_length_eq_zero (by omega)
  subst this
  exact ⟨Nat.zero_le _,fun _=>rfl,fun h=>by cases h⟩
 | f+1,l,h=>by
  unfold vB zsU
  by_cases hl:l=[]
  ·subst hl
   exact ⟨Nat.zero_le _,fun _=>rfl,fun h=>by cases h⟩
  ·rw [if_neg hl,if_neg hl]
   have hp:=width_pos l
   have hw:=decodeL_le l hl
   have hpos:0<l.length:=List.length_pos_iff.2 hl
   obtain ⟨i1,i2,i3⟩:=enc_len f (l.drop (decodeL l).2) (by rw [List.length_drop];omega)
   rw [List.length_drop] at i1 i3
   have he:encU ((decodeL l).1 :: zsU f (l.drop (decodeL l).2))=encodeRune ((decodeL l).1:Int)++encU (zsU f (l.drop (decodeL l).2)):=rfl
   rw [he]
   by_cases hb:(decodeL l).1=65533∧(decodeL l).2=1
   ·rw [if_pos hb,List.length_append]
    have h3:(encodeRune ((decodeL l).1:Int)).length=3:=by rw [hb.1];exact bad3
    rw [h3]
    have:=hb.2
    exact ⟨by omega,(fun h=>by cases h),fun _=>by omega⟩
   ·rw [if_neg hb,encode_decode l hl hb,List.length_append,List.length_take]
    refine ⟨by omega,fun hv=>?_,fun hv=>by have:=i3 hv;omega⟩
    rw [i2 hv,List.take_append_drop]
theorem enc_valid (l:List UInt8):decide (encU (zsU l.length l)=l)=validU l:=by
 obtain ⟨h1,h2,h3⟩:=enc_len l.length l (Nat.le_refl _)
 unfold validU
 cases h:vB l.length l with
 | true=>exact decide_eq_true (h2 h)
 | false=>exact decide_eq_false fun e=>by have:=h3 h;rw [e] at this;omega
theorem decode_drop (l:List UInt8) (i:Nat):Utf8.decode ⟨l.toArray⟩ i=decodeL (l.drop i):=by
 rw [decodeL_N,decode_at]
 have hg:∀ k,(ByteArray.mk l.toArray).get! k=l.getD k 0:=fun k=>by
  rw [← Go.Lib.getD_get!' ⟨l.toArray⟩ k]
 have hd:∀ k,(l.drop i).getD k 0=l.getD (i+k) 0:=fun k=>by simp [List.getD,List.getElem?_drop]
 rw [hg,hg,hg,hg,hd,hd,hd,hd,List.length_drop]
 rfl
theorem runes_eq (l:List UInt8):∀ (f i:Nat) (acc:Array Value),Conv.runesFrom ⟨l.toArray⟩ f i acc=acc++((zsU f (l.drop i)).map fun (z:Nat)=>Value.int .i32 (z:Int)).toArray
 | 0,i,acc=>by simp [Conv.runesFrom,zsU]
 | f+1,i,acc=>by
  unfold Conv.runesFrom zsU
  have hs:(ByteArray.mk l.toArray).size=l.length:=by simp [ByteArray.size]
  rw [hs]
  by_cases h:i<l.length
  ·rw [if_pos h,if_neg (by intro e;have:=congrArg List.length e;rw [List.length_drop] at this;simp at this;omega),decode_drop]
   simp only
   rw [runes_eq l f,List.drop_drop]
   apply Array.toList_inj.1
   simp
  ·rw [if_neg h,if_pos (List.drop_of_length_le (by omega))];simp
theorem enc_one (z:Nat) (h:z<55296∨(57343<z∧z≤1114111)):(Utf8.encode (z:Int)).data.toList=encodeRune (z:Int):=by
 have hv:Utf8.valid (z:Int)=true:=by
  unfold Utf8.valid
  simp only [Bool.or_eq_true,Bool.and_eq_true,decide_eq_true_eq]
  omega
 unfold Utf8.encode encodeRune
 simp only [hv,if_true,Int.toNat_natCast]
 by_cases a:z<128
 ·rw [if_pos a,encodeRuneZ_one (by omega) (by omega)]
  rfl
 ·rw [if_neg a]
  by_cases b:z<2048
  ·rw [if_pos b,encodeRuneZ_two (by omega) (by omega)]
   simp only [List.map_cons,List.map_nil]
   rw [show (192+(z:Int) / 64).toNat=192+z / 64 by omega,show (128+(z:Int) % 64).toNat=128+z % 64 by omega]
  ·rw [if_neg b]
   by_cases c:z<65536
   ·rw [if_pos c,encodeRuneZ_three (by omega)]
    simp only [List.map_cons,List.map_nil]
    rw [show (224+(z:Int) / 4096).toNat=224+z / 4096 by omega,show (128+(z:Int) / 64 % 64).toNat=128+z / 64 % 64 by omega,show (128+(z:Int) % 64).toNat=128+z % 64 by omega]
   ·rw [if_neg c,encodeRuneZ_four (by omega) (by omega)]
    simp only [List.map_cons,List.map_nil]
    rw [show (240+(z:Int) / 262144).toNat=240+z / 262144 by omega,show (128+(z:Int) / 4096 % 64).toNat=128+z / 4096 % 64 by omega,show (128+(z:Int) / 64 % 64).toNat=128+z / 64 % 64 by omega,show (128+(z:Int) % 64).toNat=128+z % 64 by omega]
theorem zs_ok:∀ (f:Nat) (l:List UInt8),∀ z ∈ zsU f l,z<55296∨(57343<z∧z≤1114111)
 | 0,l,z,h=>by cases h
 | f+1,l,z,h=>by
  unfold zsU at h
  by_cases hl:l=[]
  ·rw [if_pos hl] at h;cases h
  ·rw [if_neg hl] at h
   rcases List.mem_cons.1 h with rfl | h
   ·rw [decodeL_N];exact decodeN_valid _ _ _ _ _ (UInt8.toNat_lt _)
   ·exact zs_ok f _ z h
theorem fold_enc:∀ (zs:List Nat) (s:ByteArray),(∀ z ∈ zs,z<55296∨(57343<z∧z≤1114111))→((zs.map fun (z:Nat)=>(z:Int)).foldl (fun r n=>r++Utf8.encode n) s).data.toList=s.data.toList++encU zs
 | [],s,_=>by simp [encU]
 | z :: r,s,h=>by
  rw [List.map_cons,List.foldl_cons,fold_enc r _ (fun y hy=>h y (by simp [hy]))]
  have e:(s++Utf8.encode (z:Int)).data.toList=s.data.toList++(Utf8.encode (z:Int)).data.toList:=by simp [ByteArray.data_append]
  rw [e,enc_one z (h z (by simp)),List.append_assoc]
  rfl
theorem runes_back (l:List UInt8):runesBytes ((zsU l.length l).map fun (z:Nat)=>(z:Int))=⟨(encU (zsU l.length l)).toArray⟩:=by
 have h:=fold_enc (zsU l.length l) ByteArray.empty (zs_ok _ _)
 have h0:(ByteArray.empty).data.toList=[]:=rfl
 rw [h0,List.nil_append] at h
 show (((zsU l.length l).map fun (z:Nat)=>(z:Int)).foldl (fun r n=>r++Utf8.encode n) ByteArray.empty)=_
 rw [← h]
end Go.Proofs.YtnfelopknfdpfaaDoor
namespace Go.Proofs.YtnfelopknfdpfaaDoor
namespace RI
def PA:List Oper→Nat→(Nat→Value)→Act→Act
 | [],_,_,a=>a
 | o :: os,k,x,a=>PA os (k+1) x (a.put o.dst (x k))
def upd (x:Nat→Value) (i:Nat) (v:Value):Nat→Value:=fun j=>if j=i then v else x j
theorem PA_congr:∀ (os:List Oper) (k:Nat) (x y:Nat→Value) (a:Act),(∀ j,k≤j→x j=y j)→PA os k x a=PA os k y a
 | [],_,_,_,_,_=>rfl
 | o :: os,k,x,y,a,h=>by
  unfold PA
  rw [h k (Nat.le_refl _)]
  exact PA_congr os (k+1) x y _ (fun j hj=>h j (by omega))
def dsts (os:List Oper):List Nat:=os.filterMap (·.dst)
theorem put_put (a:Act) (d:Nat) (u v:Value):(a.put (some d) u).put (some d) v=a.put (some d) v:=by
 simp [Act.put]
theorem put_swap (a:Act) (d e:Nat) (u v:Value) (h:d≠e):(a.put (some d) u).put (some e) v=(a.put (some e) v).put (some d) u:=by
 simp only [Act.put]
 rw [Array.setIfInBounds_comm _ _ h]
theorem PA_put:∀ (os:List Oper) (k:Nat) (x:Nat→Value) (a:Act) (d:Nat) (v:Value),d ∉ dsts os→PA os k x (a.put (some d) v)=(PA os k x a).put (some d) v
 | [],_,_,_,_,_,_=>rfl
 | o :: os,k,x,a,d,v,h=>by
  unfold PA
  cases hd:o.dst with
  | none =>
   rw [hd] at *
   have h2:d ∉ dsts os:=fun h'=>h (by simp [dsts,hd] at h' ⊢;exact .inr h')
   exact PA_put os (k+1) x a d v h2
  | some e =>
   have h1:e≠d:=fun h'=>h (by simp [dsts,hd,h'])
   have h2:d ∉ dsts os:=fun h'=>h (by simp [dsts,hd] at h' ⊢;exact .inr h')
   rw [put_swap _ _ _ _ _ (Ne.symm h1)]
   exact PA_put os (k+1) x _ d v h2
theorem PA_upd:∀ (os:List Oper) (k:Nat) (x:Nat→Value) (a:Act) (i:Nat) (o:Oper) (v:Value),(dsts os).Nodup→os[i]? = some o→(PA os k x a).put o.dst v=PA os k (upd x (k+i) v) a
 | [],_,_,_,_,_,_,_,h=>by simp at h
 | o' :: os,k,x,a,i,o,v,hn,h=>by
  have hn2:(dsts os).Nodup:=by
   cases hd:o'.dst with
   | none=>simpa [dsts,hd] using hn
   | some e=>have:=hn;simp [dsts,hd] at this;exact this.2
  cases i with
  | zero =>
   simp at h
   subst h
   unfold PA
   have e1:upd x (k+0) v k=v:=by simp [upd]
   have e2:∀ j,k+1≤j→x j=upd x (k+0) v j:=fun j hj=>by unfold upd;rw [if_neg (by omega)]
   rw [e1,← PA_congr os (k+1) x _ _ e2]
   cases hd:o'.dst with
   | none=>rfl
   | some e =>
    have h2:e ∉ dsts os:=by
     have:=hn
     simp [dsts,hd] at this
     simpa [dsts] using this.1
    rw [← PA_put os (k+1) x _ e v h2,put_put]
  | succ i =>
   simp at h
   unfold PA
   have e1:upd x (k+(i+1)) v k=x k:=by unfold upd;rw [if_neg (by omega)]
   rw [e1,show k+(i+1)=k+1+i by omega]
   exact PA_upd os (k+1) x _ i o v hn2 h
def old (a:Act) (os:List Oper):Nat→Value:=fun j=>match (os[j]?).bind (·.dst) with
 | some d=>a.tmps.getD d undef
 | none=>undef
theorem put_own (a:Act) (d:Nat):a.put (some d) (a.tmps.getD d undef)=a:=by
 cases a with
 | mk t ds =>
  simp only [Act.put,Act.mk.injEq,and_true]
  apply Array.ext
  ·simp
  ·intro i h1 h2
   by_cases h:d=i
   ·subst h
    rw [Array.getElem_setIfInBounds_self]
    simp at h1
    simp [h1]
   ·rw [Array.getElem_setIfInBounds_ne _ h]
theorem PA_old:∀ (os:List Oper) (k:Nat) (x:Nat→Value) (a:Act),(∀ i o d,os[i]? = some o→o.dst=some d→x (k+i)=a.tmps.getD d undef)→PA os k x a=a
 | [],_,_,_,_=>rfl
 | o :: os,k,x,a,h=>by
  unfold PA
  have e:a.put o.dst (x k)=a:=by
   cases hd:o.dst with
   | none=>rfl
   | some d=>rw [show x k=a.tmps.getD d undef from h 0 o d rfl hd];exact put_own a d
  rw [e]
  exact PA_old os (k+1) x a (fun i o' d h1 h2=>by rw [show k+1+i=k+(i+1) by omega];exact h (i+1) o' d (by simpa using h1) h2)
section
variable {P:Program} {md:Region.Mode} (l:List Oper) (a0:Act) (V:Nat→Value→World→Prop) (S:World→Prop) (R:World→World→Prop)
def Step (P:Program) (i:Nat) (o:Oper):Prop:=∀ (x:Nat→Value) (w:World),S w→(∀ e ∈ o.after.toList,Region.binds .any e=true→V e.on (x e.on) w) →
 ∀ K:Act→World→Prop,(∀ a' w' v,a'=(PA l 0 x a0).put o.dst v→V i v w'→S w'→R w w'→K a' w') →
  if Region.wanted o (yielded l.toArray (PA l 0 x a0).tmps) then o.wp P (PA l 0 x a0) w K (fun _ _ _=>False) else K ((PA l 0 x a0).put o.dst undef) w
def Steps (P:Program):List Oper→Nat→Prop
 | [],_=>True
 | o :: os,i=>Step l a0 V S R P i o∧Steps P os (i+1)
variable {l a0 V S R}
theorem Steps.at_:∀ {os:List Oper} {k:Nat},Steps l a0 V S R P os k→∀ i o,os[i]? = some o→Step l a0 V S R P (k+i) o
 | [],_,_,i,o,h=>by simp at h
 | o' :: os,k,hs,i,o,h=>by
  cases i with
  | zero=>simp at h;subst h;exact hs.1
  | succ i=>rw [show k+(i+1)=k+1+i by omega];exact Steps.at_ hs.2 i o (by simpa using h)
def unl (n:Nat) (listed:Array Bool):Nat:=((List.range n).filter fun i=>!listed.getD i true).length
theorem filter_lt {α:Type} (p q:α→Bool) (xs:List α) (h:∀ y ∈ xs,p y=true→q y=true) (z:α) (hz:z ∈ xs) (h1:p z=false) (h2:q z=true):(xs.filter p).length<(xs.filter q).length:=by
 have le:∀ ys:List α,(∀ y ∈ ys,p y=true→q y=true)→(ys.filter p).length≤(ys.filter q).length:=by
  intro ys
  induction ys with
  | nil=>intro _;exact Nat.le_refl _
  | cons y ys ih =>
   intro h
   have:=ih (fun y hy=>h y (by simp [hy]))
   cases hp:p y
   ·rw [List.filter_cons_of_neg (by simp [hp])]
    cases hq:q y
    ·rw [List.filter_cons_of_neg (by simp [hq])];exact this
    ·rw [List.filter_cons_of_pos hq];simp;omega
   ·rw [List.filter_cons_of_pos hp,List.filter_cons_of_pos (h y (by simp) hp)];simp;exact this
 induction xs with
 | nil=>cases hz
 | cons y ys ih =>
  have hle:=le ys (fun y hy=>h y (by simp [hy]))
  rcases List.mem_cons.1 hz with rfl | hz
  ·rw [List.filter_cons_of_neg (by simp [h1]),List.filter_cons_of_pos h2];simp;omega
  ·have:=ih (fun y hy=>h y (by simp [hy])) hz
   cases hp:p y
   ·rw [List.filter_cons_of_neg (by simp [hp])]
    cases hq:q y
    ·rw [List.filter_cons_of_neg (by simp [hq])];exact this
    ·rw [List.filter_cons_of_pos hq];simp;omega
   ·rw [List.filter_cons_of_pos hp,List.filter_cons_of_pos (h y (by simp) hp)];simp;exact this
def backB (l:List Oper):Bool:=(List.range l.length).all fun i=>match l[i]? with
 | some o=>o.after.all fun e=>!Region.binds .any e || decide (e.on<i)
 | none=>true
def okB (l:List Oper):Bool:=backB l && decide ((dsts l).Nodup)
theorem all_listed (hb:backB l=true) {listed:Array Bool} (hz:listed.size=l.length) (hr:Region.ready .any l.toArray listed=[]):∀ i,i<l.length→listed.getD i true=true:=by
 intro i
 induction i using Nat.strongRecOn with
 | ind i ih =>
  intro hi
  cases h:listed.getD i true with
  | true=>rfl
  | false =>
   exfalso
   have hmem:i ∈ Region.ready .any l.toArray listed:=by
    rw [mem_ready]
    refine ⟨h,l[i],by simp [hi],fun e he hbd=>?_⟩
    have h1:=List.all_eq_true.1 hb i (List.mem_range.2 hi)
    simp only [List.getElem?_eq_getElem hi] at h1
    have h2:=Array.all_eq_true'.1 h1 e he
    simp [hbd] at h2
    have h3:=ih e.on h2 (by omega)
    have h4:e.on<listed.size:=by omega
    simpa [h4] using h3
   rw [hr] at hmem
   cases hmem
theorem upd_same (x:Nat→Value) (i:Nat) (v:Value):upd x i v i=v:=by simp [upd]
theorem upd_ne (x:Nat→Value) (i j:Nat) (v:Value) (h:j≠i):upd x i v j=x j:=by unfold upd;rw [if_neg h]
def StepZ (l:List Oper) (oz:Oper) (a0:Act) (V:Nat→Value→World→Prop) (S:World→Prop) (R:World→World→Prop) (P:Program) (i:Nat) (o:Oper):Prop:=∀ (x:Nat→Value) (w:World),S w→(∀ e ∈ o.after.toList,Region.binds .any e=true→V e.on (x e.on) w) →
 ∀ K:Act→World→Prop,(∀ a' w' v,a'=(PA l 0 x a0).put o.dst v→V i v w'→S w'→R w w'→K a' w') →
  if Region.wanted o (yielded (l++[oz]).toArray (PA l 0 x a0).tmps) then o.wp P (PA l 0 x a0) w K (fun _ _ _=>False) else K ((PA l 0 x a0).put o.dst undef) w
def StepsZ (l:List Oper) (oz:Oper) (a0:Act) (V:Nat→Value→World→Prop) (S:World→Prop) (R:World→World→Prop) (P:Program):List Oper→Nat→Prop
 | [],_=>True
 | o :: os,i=>StepZ l oz a0 V S R P i o∧StepsZ l oz a0 V S R P os (i+1)
theorem StepsZ.at_ {oz:Oper}:∀ {os:List Oper} {k:Nat},StepsZ l oz a0 V S R P os k→∀ i o,os[i]? = some o→StepZ l oz a0 V S R P (k+i) o
 | [],_,_,i,o,h=>by simp at h
 | o' :: os,k,hs,i,o,h=>by
  cases i with
  | zero=>simp at h;subst h;exact hs.1
  | succ i=>rw [show k+(i+1)=k+1+i by omega];exact StepsZ.at_ hs.2 i o (by simpa using h)
theorem PA_last:∀ (l:List Oper) (k:Nat) (x:Nat→Value) (a:Act) (oz:Oper),oz.dst=none→PA (l++[oz]) k x a=PA l k x a
 | [],k,x,a,oz,h=>by simp only [List.nil_append,PA,h];rfl
 | o :: l,k,x,a,oz,h=>by
  simp only [List.cons_append,PA]
  exact PA_last l (k+1) x _ oz h
def StepL (L:List Oper) (a0:Act) (V:Nat→Value→World→Prop) (S:World→Prop) (R:World→World→Prop) (P:Program) (i:Nat) (o:Oper):Prop:=∀ (x:Nat→Value) (w:World),S w→(∀ e ∈ o.after.toList,Region.binds .any e=true→V e.on (x e.on) w) →
 ∀ K:Act→World→Prop,(∀ a' w' v,a'=(PA L 0 x a0).put o.dst v→V i v w'→S w'→R w w'→K a' w') →
  if Region.wanted o (yielded L.toArray (PA L 0 x a0).tmps) then o.wp P (PA L 0 x a0) w K (fun _ _ _=>False) else K ((PA L 0 x a0).put o.dst undef) w
def StepsY (L:List Oper) (a0:Act) (V:Nat→Value→World→Prop) (S:World→Prop) (R:World→World→Prop) (P:Program) (Q:Exit→Act→World→Prop):List Oper→Nat→Prop
 | [],_=>True
 | [oz],n=>∀ (x:Nat→Value) (w:World),S w→(∀ j,j<n→V j (x j) w)→oz.wp P (PA L 0 x a0) w (fun a' w'=>Q .normal a' w') (fun _ _ _=>False)
 | o :: o' :: os,i=>StepL L a0 V S R P i o∧StepsY L a0 V S R P Q (o' :: os) (i+1)
theorem StepsY.split {Q:Exit→Act→World→Prop} {oz:Oper} (hd:oz.dst=none):∀ (os:List Oper) (k:Nat),StepsY (l++[oz]) a0 V S R P Q (os++[oz]) k →
  StepsZ l oz a0 V S R P os k∧(∀ (x:Nat→Value) (w:World),S w→(∀ j,j<k+os.length→V j (x j) w)→oz.wp P (PA l 0 x a0) w (fun a' w'=>Q .normal a' w') (fun _ _ _=>False))
 | [],k,h=>by
  refine ⟨trivial,fun x w h1 h2=>?_⟩
  have:=h x w h1 (by simpa using h2)
  rw [PA_last l 0 x a0 oz hd] at this
  exact this
 | o :: os,k,h=>by
  have h':StepL (l++[oz]) a0 V S R P k o∧StepsY (l++[oz]) a0 V S R P Q (os++[oz]) (k+1):=by
   cases os with
   | nil=>exact h
   | cons o2 os=>exact h
  obtain ⟨h1,h2⟩:=StepsY.split hd os (k+1) h'.2
  refine ⟨⟨?_,h1⟩,?_⟩
  ·intro x w hS hdp K hK
   have:=h'.1 x w hS hdp K (by rw [PA_last l 0 x a0 oz hd];exact hK)
   rw [PA_last l 0 x a0 oz hd] at this
   exact this
  ·rw [List.length_cons,show k+(os.length+1)=k+1+os.length by omega]
   exact h2
def Vof (Vs:List (Value→World→Prop)):Nat→Value→World→Prop:=fun j=>Vs.getD j fun _ _=>True
theorem Vof.keeps {Vs:List (Value→World→Prop)} {R:World→World→Prop} (h:∀ p ∈ Vs,∀ v w w',p v w→R w w'→p v w'):∀ j v w w',Vof Vs j v w→R w w'→Vof Vs j v w':=by
 intro j v w w' h1 h2
 unfold Vof at *
 rw [List.getD_eq_getElem?_getD] at *
 cases hj:Vs[j]? with
 | none=>trivial
 | some p =>
  rw [hj] at h1
  exact h p (List.mem_of_getElem? hj) v w w' h1 h2
theorem eval_put (a:Act) (d:Nat) (v:Value) (h:d<a.tmps.size):(a.put (some d) v).eval (.tmp d)=v:=by
 simp [Act.put,Act.eval,h]
theorem eval_put_ne (a:Act) (x:Option Tmp) (d:Nat) (v:Value) (h:x≠some d):(a.put x v).eval (.tmp d)=a.eval (.tmp d):=by
 cases x with
 | none=>rfl
 | some e =>
  have:e≠d:=fun h'=>h (by rw [h'])
  simp only [Act.put,Act.eval]
  rw [Array.getD_eq_getD_getElem?,Array.getElem?_setIfInBounds_ne this,← Array.getD_eq_getD_getElem?]
theorem PA_out:∀ (os:List Oper) (k:Nat) (x:Nat→Value) (a:Act) (d:Nat),d ∉ dsts os→(PA os k x a).eval (.tmp d)=a.eval (.tmp d)
 | [],_,_,_,_,_=>rfl
 | o :: os,k,x,a,d,h=>by
  unfold PA
  have h2:d ∉ dsts os:=fun h'=>h (by simp [dsts] at h' ⊢;exact .inr h')
  have h1:o.dst≠some d:=fun h'=>h (by simp [dsts,h'])
  rw [PA_out os (k+1) x _ d h2,eval_put_ne _ _ _ _ h1]
theorem PA_in:∀ (os:List Oper) (k:Nat) (x:Nat→Value) (a:Act) (i:Nat) (o:Oper) (d:Nat),(dsts os).Nodup→os[i]? = some o→o.dst=some d→d<a.tmps.size→(PA os k x a).eval (.tmp d)=x (k+i)
 | [],_,_,_,_,_,_,_,h,_,_=>by simp at h
 | o' :: os,k,x,a,i,o,d,hn,h,hd,hs=>by
  have hn2:(dsts os).Nodup:=by
   cases hd:o'.dst with
   | none=>simpa [dsts,hd] using hn
   | some e=>have:=hn;simp [dsts,hd] at this;exact this.2
  unfold PA
  cases i with
  | zero =>
   simp at h
   subst h
   have h2:d ∉ dsts os:=by
    have:=hn
    simp [dsts,hd] at this
    simpa [dsts] using this.1
   rw [PA_out os (k+1) x _ d h2,hd,eval_put _ _ _ hs,Nat.add_zero]
  | succ i =>
   rw [PA_in os (k+1) x _ i o d hn2 (by simpa using h) hd (by cases o'.dst <;> simp [Act.put,hs]),show k+1+i=k+(i+1) by omega]
def slotB (L:List Oper) (d i:Nat):Bool:=decide ((dsts L).Nodup) && ((L[i]?).bind (·.dst) == some d)
theorem PA_slot {L:List Oper} {x:Nat→Value} {a:Act} {d i:Nat} (h:slotB L d i=true) (hs:d<a.tmps.size):(PA L 0 x a).eval (.tmp d)=x i:=by
 unfold slotB at h
 simp only [Bool.and_eq_true,decide_eq_true_eq,beq_iff_eq] at h
 obtain ⟨hn,h⟩:=h
 cases ho:L[i]? with
 | none=>rw [ho] at h;cases h
 | some o =>
  rw [ho] at h
  rw [PA_in L 0 x a i o d hn ho h hs,Nat.zero_add]
theorem PA_old_slot {L:List Oper} {x:Nat→Value} {a:Act} {d:Nat} (h:(dsts L).contains d=false):(PA L 0 x a).eval (.tmp d)=a.eval (.tmp d) :=
 PA_out L 0 x a d (by simpa using h)
def setAll:List Oper→Nat→(Nat→Value)→List Value→List Value
 | [],_,_,l=>l
 | o :: os,k,x,l=>setAll os (k+1) x (match o.dst with | some d=>l.set d (x k) | none=>l)
theorem PA_list:∀ (os:List Oper) (k:Nat) (x:Nat→Value) (a:Act),PA os k x a=⟨(setAll os k x a.tmps.toList).toArray,a.defers⟩
 | [],_,_,a=>rfl
 | o :: os,k,x,a=>by
  unfold PA setAll
  rw [PA_list os (k+1) x _]
  cases o.dst with
  | none=>rfl
  | some d=>simp [Act.put]
end
end RI
end Go.Proofs.YtnfelopknfdpfaaDoor
namespace Go.Proofs.YtnfelopknfdpfaaDoor
namespace RI
def reachB (L:List Oper):Nat→Nat→Nat→Bool
 | 0,j,i=>j == i
 | f+1,j,i=>j == i || match L[j]? with
  | some o=>o.after.any fun e=>Region.binds .any e && reachB L f e.on i
  | none=>false
def Closed (L:List Oper) (ls:Array Bool):Prop:=∀ j o,L[j]? = some o→ls.getD j false=true→∀ e ∈ o.after.toList,Region.binds .any e=true→ls.getD e.on false=true
theorem Closed.reach {L:List Oper} {ls:Array Bool} (h:Closed L ls):∀ (f j i:Nat),reachB L f j i=true→ls.getD j false=true→ls.getD i false=true
 | 0,j,i,hr,hj=>by
  have:j=i:=by simpa [reachB] using hr
  rw [← this];exact hj
 | f+1,j,i,hr,hj=>by
  unfold reachB at hr
  rw [Bool.or_eq_true] at hr
  rcases hr with hr | hr
  ·have:j=i:=by simpa using hr
   rw [← this];exact hj
  ·cases ho:L[j]? with
   | none=>rw [ho] at hr;cases hr
   | some o =>
    rw [ho] at hr
    dsimp only at hr
    obtain ⟨e,he,hb⟩:=Array.any_eq_true'.1 hr
    rw [Bool.and_eq_true] at hb
    exact Closed.reach h f e.on i hb.2 (h j o ho hj e (by simpa using he) hb.1)
theorem Closed.not {L:List Oper} {ls:Array Bool} (h:Closed L ls) (f j i:Nat) (hr:reachB L f j i=true) (hi:ls.getD i true=false):ls.getD j false=false:=by
 rw [Bool.eq_false_iff]
 intro hj
 have h1:=h.reach f j i hr hj
 have h2:i<ls.size:=by
  rcases Nat.lt_or_ge i ls.size with h | h
  ·exact h
  ·rw [Array.getD_eq_getD_getElem?,Array.getElem?_eq_none h] at h1;cases h1
 simp [h2] at h1 hi
 rw [hi] at h1;cases h1
section
variable {P:Program} (L:List Oper) (a0:Act) (V:Nat→Value→World→Prop) (S:Array Bool→World→Prop) (R:Array Bool→World→World→Prop)
def StepM (P:Program) (i:Nat) (o:Oper):Prop :=
 ∀ (a:Act) (x:Nat→Value) (ls:Array Bool) (w:World),S ls w→ls.size=L.length→ls.getD i true=false→Closed L ls→(∀ j,j<L.length→ls.getD j false=false→x j=old a0 L j)→(∀ d i,slotB L d i=true→d<a0.tmps.size→a.eval (.tmp d)=x i)→(∀ d,(dsts L).contains d=false→a.eval (.tmp d)=a0.eval (.tmp d)) →
  (∀ e ∈ o.after.toList,Region.binds .any e=true→V e.on (x e.on) w) →
  ∀ K:Act→World→Prop,(∀ w' v,V i v w'→S (ls.setIfInBounds i true) w'→R ls w w'→K (a.put o.dst v) w')→o.wp P a w K (fun _ _ _=>False)
def StepsM (P:Program):List Oper→Nat→Prop
 | [],_=>True
 | o :: os,i=>StepM L a0 V S R P i o∧StepsM P os (i+1)
variable {L a0 V S R}
theorem StepsM.at_:∀ {os:List Oper} {k:Nat},StepsM L a0 V S R P os k→∀ i o,os[i]? = some o→StepM L a0 V S R P (k+i) o
 | [],_,_,i,o,h=>by simp at h
 | o' :: os,k,hs,i,o,h=>by
  cases i with
  | zero=>simp at h;subst h;exact hs.1
  | succ i=>rw [show k+(i+1)=k+1+i by omega];exact StepsM.at_ hs.2 i o (by simpa using h)
theorem inv_anyM {Q:Exit→Act→World→Prop} (hok:okB L=true) (hg:L.all (fun o=>o.guard == none)=true) (hV:∀ ls j v w w',ls.getD j false=true→V j v w→R ls w w'→V j v w') (hs:StepsM L a0 V S R P L 0)
  (hend:∀ (x:Nat→Value) ls w,S ls w→(∀ j,j<L.length→ls.getD j false=true)→(∀ j,j<L.length→V j (x j) w)→Q .normal (PA L 0 x a0) w) :
  ∀ (f:Nat) (listed:Array Bool) (x:Nat→Value) (w:World),listed.size=L.length→unl L.length listed≤f→S listed w→Closed L listed→(∀ j,j<L.length→listed.getD j false=false→x j=old a0 L j)→(∀ j,listed.getD j false=true→V j (x j) w) →
   wpAny P .any L.toArray Q f listed (PA L 0 x a0) w:=by
 simp only [okB,Bool.and_eq_true,decide_eq_true_eq] at hok
 obtain ⟨hb,hn⟩:=hok
 have fin:∀ (listed:Array Bool) (x:Nat→Value) (w:World),listed.size=L.length→S listed w→(∀ j,listed.getD j false=true→V j (x j) w)→(∀ i,i<L.length→listed.getD i true=true)→Q .normal (PA L 0 x a0) w:=by
  intro listed x w hz hS hx hall
  have hall':∀ j,j<L.length→listed.getD j false=true:=fun j hj=>by
   have h4:j<listed.size:=by omega
   simpa [h4] using hall j hj
  exact hend x listed w hS hall' fun j hj=>hx j (hall' j hj)
 intro f
 induction f with
 | zero =>
  intro listed x w hz hf hS hcl hun hx
  have hall:∀ i,i<L.length→listed.getD i true=true:=by
   intro i hi
   cases h:listed.getD i true with
   | true=>rfl
   | false =>
    exfalso
    have:i ∈ (List.range L.length).filter fun i=>!listed.getD i true:=List.mem_filter.2 ⟨List.mem_range.2 hi,by rw [h];rfl⟩
    have:=List.length_pos_of_mem this
    unfold unl at hf
    omega
  refine ⟨?_,fin listed x w hz hS hx hall⟩
  rw [List.eq_nil_iff_forall_not_mem]
  intro i hi
  obtain ⟨h1,o,ho,-⟩:=mem_ready.1 hi
  have hi2:i<L.length:=by
   have:=(Array.getElem?_eq_some_iff.1 ho).1
   simpa using this
  rw [hall i hi2] at h1
  cases h1
 | succ f ih =>
  intro listed x w hz hf hS hcl hun hx
  refine ⟨fun hr=>fin listed x w hz hS hx (all_listed hb hz hr),fun i hi=>?_⟩
  obtain ⟨h1,o,ho,hdep⟩:=mem_ready.1 hi
  have hi2:i<L.length:=by
   have:=(Array.getElem?_eq_some_iff.1 ho).1
   simpa using this
  have hol:L[i]? = some o:=by simpa using ho
  have hgd:o.guard=none:=by
   have:=List.all_eq_true.1 hg o (List.mem_of_getElem? hol)
   simpa using this
  have hst:=hs.at_ i o hol
  rw [Nat.zero_add] at hst
  have h4:i<listed.size:=by omega
  have h:=hst (PA L 0 x a0) x listed w hS hz h1 hcl hun (fun d i g1 g2=>PA_slot g1 g2) (fun d g1=>PA_old_slot g1) (fun e he hbd=>hx e.on (hdep e (by simpa using he) hbd)) (wpAny P .any L.toArray Q f (listed.setIfInBounds i true)) (by
   intro w' v hv hS' hR
   rw [PA_upd L 0 x a0 i o v hn hol,Nat.zero_add]
   refine ih (listed.setIfInBounds i true) (upd x i v) w' (by simpa using hz) ?_ hS' ?_ ?_ ?_
   ·have:unl L.length (listed.setIfInBounds i true)<unl L.length listed:=by
     refine filter_lt _ _ _ ?_ i (List.mem_range.2 hi2) ?_ ?_
     ·intro y hy hp
      by_cases hyi:i=y
      ·subst hyi
       simp [h4] at hp
      ·rw [getD_set_ne true hyi] at hp;exact hp
     ·simp [h4]
     ·rw [h1];rfl
    omega
   ·intro j o' ho' hj e he hbd
    by_cases hji:j=i
    ·subst hji
     rw [hol] at ho'
     obtain rfl:=Option.some.inj ho'
     have:=hdep e (by simpa using he) hbd
     by_cases hei:j=e.on
     ·rw [← hei];simp [h4]
     ·rw [getD_set_ne false hei];exact this
    ·rw [getD_set_ne false (Ne.symm hji)] at hj
     have:=hcl j o' ho' hj e he hbd
     by_cases hei:i=e.on
     ·rw [← hei];simp [h4]
     ·rw [getD_set_ne false hei];exact this
   ·intro j hj hl
    by_cases hji:j=i
    ·subst hji;simp [h4] at hl
    ·rw [upd_ne _ _ _ _ hji]
     rw [getD_set_ne false (Ne.symm hji)] at hl
     exact hun j hj hl
   ·intro j hj
    by_cases hji:j=i
    ·subst hji;rw [upd_same];exact hv
    ·rw [upd_ne _ _ _ _ hji]
     rw [getD_set_ne false (Ne.symm hji)] at hj
     exact hV _ _ _ _ _ hj (hx j hj) hR)
  unfold wpOp
  rw [ho]
  dsimp only
  rw [if_pos (by unfold Region.wanted;rw [hgd])]
  exact .inl (wp_mono_both (fun _ _ h=>h) h trivial)
theorem wp_region_M {id:Nat} {Q:Exit→Act→World→Prop} {w:World} {ops:Array Oper} (V:Nat→Value→World→Prop) (S:Array Bool→World→Prop) (R:Array Bool→World→World→Prop) (hm:P.follows .mixedOrders=true) (hok:okB ops.toList=true) (hg:ops.toList.all (fun o=>o.guard == none)=true)
  (hV:∀ ls j v w w',ls.getD j false=true→V j v w→R ls w w'→V j v w') (hS:S (Array.replicate ops.size false) { w with drawn:=w.drawn+1 }) (hs:StepsM ops.toList a0 V S R P ops.toList 0)
  (hend:∀ (A:Act) (x:Nat→Value) ls w,S ls w→(∀ j,j<ops.toList.length→ls.getD j false=true)→(∀ d i,slotB ops.toList d i=true→d<a0.tmps.size→A.eval (.tmp d)=x i)→(∀ d,(dsts ops.toList).contains d=false→A.eval (.tmp d)=a0.eval (.tmp d))→(∀ j,j<ops.toList.length→V j (x j) w) →
   RowKit.Hid (A=⟨(setAll ops.toList 0 x a0.tmps.toList).toArray,a0.defers⟩)→Q .normal A w):(Code.region id ops true).wp P Q a0 w:=by
 refine wp_region_any hm ?_
 have hold:PA ops.toList 0 (old a0 ops.toList) a0=a0:=PA_old ops.toList 0 _ a0 (fun i o d h1 h2=>by unfold old;rw [Nat.zero_add,h1];simp [h2])
 have hrep:∀ j,(Array.replicate ops.size false).getD j false=false:=by
  intro j
  rw [Array.getD_eq_getD_getElem?]
  cases h:(Array.replicate ops.size false)[j]? with
  | none=>rfl
  | some b =>
   obtain ⟨h1,h2⟩:=Array.getElem?_eq_some_iff.1 h
   simp at h2
   simp [← h2]
 have:=inv_anyM (P:=P) (Q:=Q) hok hg hV hs (fun x ls w h1 h2 h3=>hend (PA ops.toList 0 x a0) x ls w h1 h2 (fun d i g1 g2=>PA_slot g1 g2) (fun d g1=>PA_old_slot g1) h3 (PA_list ops.toList 0 x a0)) ops.size (Array.replicate ops.size false) (old a0 ops.toList) { w with drawn:=w.drawn+1 } (by simp) ?_ hS ?_ ?_ ?_
 ·rw [hold] at this
  simpa using this
 ·unfold unl
  have:=List.length_filter_le (fun i=>!(Array.replicate ops.size false).getD i true) (List.range ops.toList.length)
  simp only [List.length_range] at this
  simpa using this
 ·intro j o ho hj
  rw [hrep] at hj;cases hj
 ·intro j _ _;rfl
 ·intro j hj
  rw [hrep] at hj;cases hj
end
end RI
end Go.Proofs.YtnfelopknfdpfaaDoor
namespace Go.Proofs.YtnfelopknfdpfaaDoor
open Go.RowKit Go.Lib
def zv (z:Nat):Value:=.int .i32 (z:Int)
theorem zsU_len:∀ (f:Nat) (l:List UInt8),(zsU f l).length≤f
 | 0,l=>by simp [zsU]
 | f+1,l=>by
  unfold zsU
  by_cases h:l=[]
  ·rw [if_pos h];simp
  ·rw [if_neg h,List.length_cons];have:=zsU_len f (l.drop (decodeL l).2);omega
theorem conv_to (w:World) (l:List UInt8) (hl:l.length≤60):∃ c w',(convert 9 44 (.string ⟨l.toArray⟩)).run Tryd.prog w = .ok (.slice (some ⟨w.heap.size,0,none⟩) (zsU l.length l).length c) w'∧Nx w w'∧w.heap.size<w'.heap.size∧∀ j (h:j<(zsU l.length l).length),w'.cell? ⟨w.heap.size,j,none⟩=some (zv (zsU l.length l)[j]):=by
 have hs:(ByteArray.mk l.toArray).size=l.length:=by simp [ByteArray.size]
 have e:=runes_eq l l.length 0 #[]
 rw [List.drop_zero,Array.empty_append] at e
 have e1:(Conv.runesFrom ⟨l.toArray⟩ (ByteArray.mk l.toArray).size 0 #[])=((zsU l.length l).map zv).toArray:=by rw [hs];exact e
 have hz:=zsU_len l.length l
 have h:=run_runes_of_string (P:=Tryd.prog) w 9 44 21 ⟨l.toArray⟩ Tryd.underlying9 Tryd.underlying44 Tryd.underlying21 (by rw [e1];simp;omega)
 rw [e1] at h
 simp only [List.size_toArray,List.length_map] at h
 refine ⟨_,_,h,(Nx.drawn _).trans (nx0 _ _),?_,fun j hj=>?_⟩
 ·show w.heap.size<(w.heap.push _).size
  rw [Array.size_push];omega
 ·have:=(Blk.new w.drew (((zsU l.length l).map zv).toArray++Array.replicate (grownCap w (zsU l.length l).length 0 21 - (zsU l.length l).length) (.int .i32 0)) 21).cell j
  refine this.trans ?_
  rw [Array.getElem?_append_left (by simpa using hj)]
  simp [hj]
theorem conv_fro (w:World) (g c:Nat) (l:List UInt8) (hc:∀ j (h:j<(zsU l.length l).length),w.cell? ⟨g,j,none⟩=some (zv (zsU l.length l)[j])):(convert 44 9 (.slice (some ⟨g,0,none⟩) (zsU l.length l).length c)).run Tryd.prog w = .ok (.string ⟨(encU (zsU l.length l)).toArray⟩) w:=by
 have h:=run_convert_runes (P:=Tryd.prog) w 44 9 21 ⟨g,0,none⟩ (zsU l.length l).length c ((zsU l.length l).map fun (z:Nat)=>(z:Int)) (by simp) Tryd.underlying44 Tryd.underlying21 Tryd.underlying9 (fun j hj=>by
  have hj2:j<(zsU l.length l).length:=by simpa using hj
  rw [Addr.add_lit,Nat.zero_add,hc j hj2]
  simp [zv,List.getD,hj2])
 rw [h,List.take_of_length_le (by simp),runes_back]
section
variable (w:World) {o:Oper} {a:Act} {K:Act→World→Prop}
theorem op_to (x:Operand) (ho:o.op = .convert 9 44 x) (l:List UInt8) (hl:l.length≤60) (hx:a.eval x = .string ⟨l.toArray⟩)
  (h:∀ g c w',g<w'.heap.size→Nx w w'→(∀ j (h:j<(zsU l.length l).length),w'.cell? ⟨g,j,none⟩=some (zv (zsU l.length l)[j]))→K (a.put o.dst (.slice (some ⟨g,0,none⟩) (zsU l.length l).length c)) w'):o.wp Tryd.prog a w K (fun _ _ _=>False):=by
 obtain ⟨c,w',hrun,h1,h2,h3⟩:=conv_to w l hl
 have:=h _ c w' h2 h1 h3
 unfold Oper.wp execOp
 simp only [ho,Sem.run_bind,Sem.run_pure,Result.andThen_ok,hx,hrun]
 exact this
theorem op_fro (x:Operand) (ho:o.op = .convert 44 9 x) (l:List UInt8) (g c:Nat) (hx:a.eval x = .slice (some ⟨g,0,none⟩) (zsU l.length l).length c) (hc:∀ j (h:j<(zsU l.length l).length),w.cell? ⟨g,j,none⟩=some (zv (zsU l.length l)[j]))
  (h:K (a.put o.dst (.string ⟨(encU (zsU l.length l)).toArray⟩)) w):o.wp Tryd.prog a w K (fun _ _ _=>False):=by
 have hrun:=conv_fro w g c l hc
 unfold Oper.wp execOp
 simp only [ho,Sem.run_bind,Sem.run_pure,Result.andThen_ok,hx,hrun]
 exact h
end
def regV (l:List UInt8):List (Value→World→Prop) :=
  [fun v _=>v = .string ⟨l.toArray⟩,fun v _=>v = .bool (validU l),fun v _=>v = .string ⟨l.toArray⟩,
   fun v w=>∃ g c,v = .slice (some ⟨g,0,none⟩) (zsU l.length l).length c∧g<w.heap.size∧∀ j (h:j<(zsU l.length l).length),w.cell? ⟨g,j,none⟩=some (zv (zsU l.length l)[j]),
   fun v _=>v = .string ⟨(encU (zsU l.length l)).toArray⟩,fun v _=>v = .string ⟨l.toArray⟩,fun v _=>v = .bool (validU l),fun v _=>v = .bool true,fun v _=>v = .bool true]
set_option maxRecDepth 100000 in
set_option maxHeartbeats 12800000 in
theorem ValueGo_of {T:World→Prop} (hC:ValC T validU) (l:List UInt8) (w:World) (hT:T w) :
  Calls Tryd.prog 4 #[.string ⟨l.toArray⟩] w fun e w'=>e = .returned (.bool true)∧Below w.heap.size w w':=by
 have HBG:=Lib.hid (vlbegun_of hC (by decide) (by decide) w hT)
 have HC:=Lib.hid hC
 have HT:=Lib.hid hT
 clear hC hT
 have HSZ:(ByteArray.mk l.toArray).size=l.length:=by simp [ByteArray.size]
 go_enter Tryd.func4,Tryd.ntmps4
 go_wp2_with fail
 refine HBG.out.mono ?_;rintro e w1 ⟨rfl,hn1⟩
 have HN1:=Lib.hid hn1
 clear hn1 HBG
 by_cases h60:l.length≤60
 ·have q1:decide (60<(l.length:Int))=false:=decide_eq_false (by omega)
  have q2:¬ 60<(l.length:Int):=by omega
  go_upto_region 5 with (fail)
  refine RI.wp_region_M (RI.Vof (regV l)) (fun _ x=>Nx w1 x) (fun _ x y=>Nx x y) rfl (by kernel_rfl) (by kernel_rfl) (fun ls j v x y _ h1 h2=>RI.Vof.keeps (R:=fun x y=>Nx x y) ?_ j v x y h1 h2) (Nx.drawn _) ?_ ?_
  ·intro p hp v x y h1 h2
   simp only [regV,List.mem_cons,List.not_mem_nil,or_false] at hp
   rcases hp with rfl | rfl | rfl | rfl | rfl | rfl | rfl | rfl | rfl <;> first | exact h1 | (obtain ⟨g,c,e1,e2,e3⟩:=h1;exact ⟨g,c,e1,Nat.lt_of_lt_of_le e2 h2.size,fun j hj=>(h2.cell (p:=⟨g,j,none⟩) e2).trans (e3 j hj)⟩)
  ·refine ⟨?_,?_,?_,?_,?_,?_,?_,?_,?_,trivial⟩
   ·intro a x ls w' hS hsz hni hcl hun hin hout hd K hK
    have o:a.eval (.tmp 0) = .string ⟨l.toArray⟩:=hout 0 (by kernel_rfl)
    exact hK w' _ o hS (Nx.refl _)
   ·intro a x ls w' hS hsz hni hcl hun hin hout hd K hK
    have i8:a.tmps.getD 8 undef = .string ⟨l.toArray⟩:=(hin 8 0 (by kernel_rfl) (show 8<16 by decide)).trans (hd ⟨0,.data⟩ (by simp) rfl)
    have e8:a.eval (.tmp 8) = .string ⟨l.toArray⟩:=i8
    have HSS:Hid (Nx w1 w'):=hS
    have HV:=Lib.hid (HC.out.val w' l (HC.out.nx HT.out (HN1.out.trans HSS.out)) h60)
    clear hin hout hun hd hcl hS
    go_simp
    refine HV.out.mono ?_;rintro e w2 ⟨rfl,hn2⟩
    exact hK w2 _ rfl (HSS.out.trans hn2) hn2
   ·intro a x ls w' hS hsz hni hcl hun hin hout hd K hK
    have o:a.eval (.tmp 0) = .string ⟨l.toArray⟩:=hout 0 (by kernel_rfl)
    exact hK w' _ o hS (Nx.refl _)
   ·intro a x ls w' hS hsz hni hcl hun hin hout hd K hK
    have e10:a.eval (.tmp 10) = .string ⟨l.toArray⟩:=(hin 10 2 (by kernel_rfl) (show 10<16 by decide)).trans (hd ⟨2,.data⟩ (by simp) rfl)
    refine op_to w' (.tmp 10) rfl l h60 e10 fun g c w2 h1 h2 h3=>?_
    exact hK w2 _ ⟨g,c,rfl,h1,h3⟩ ((show Nx w1 w' from hS).trans h2) h2
   ·intro a x ls w' hS hsz hni hcl hun hin hout hd K hK
    obtain ⟨g,c,hvv,h1,h3⟩:=hd ⟨3,.data⟩ (by simp) rfl
    have e11:a.eval (.tmp 11) = .slice (some ⟨g,0,none⟩) (zsU l.length l).length c:=(hin 11 3 (by kernel_rfl) (show 11<16 by decide)).trans hvv
    refine op_fro w' (.tmp 11) rfl l g c e11 h3 ?_
    exact hK w' _ rfl hS (Nx.refl _)
   ·intro a x ls w' hS hsz hni hcl hun hin hout hd K hK
    have o:a.eval (.tmp 0) = .string ⟨l.toArray⟩:=hout 0 (by kernel_rfl)
    exact hK w' _ o hS (Nx.refl _)
   ·intro a x ls w' hS hsz hni hcl hun hin hout hd K hK
    have i12:a.tmps.getD 12 undef = .string ⟨(encU (zsU l.length l)).toArray⟩:=(hin 12 4 (by kernel_rfl) (show 12<16 by decide)).trans (hd ⟨4,.data⟩ (by simp) rfl)
    have e12:a.eval (.tmp 12) = .string ⟨(encU (zsU l.length l)).toArray⟩:=i12
    have i13:a.tmps.getD 13 undef = .string ⟨l.toArray⟩:=(hin 13 5 (by kernel_rfl) (show 13<16 by decide)).trans (hd ⟨5,.data⟩ (by simp) rfl)
    have e13:a.eval (.tmp 13) = .string ⟨l.toArray⟩:=i13
    have HSS:Hid (Nx w1 w'):=hS
    have HEV:Hid (validU l=decide (encU (zsU l.length l)=l)):=(enc_valid l).symm
    clear hin hout hun hd hcl hS
    by_cases he:encU (zsU l.length l)=l
    ·rw [he] at i12 e12
     have HV:Hid (validU l=true):=by have:=HEV.out;rw [decide_eq_true he] at this;exact this
     go_simp
     exact hK w' _ (show Value.bool true = .bool (validU l) from by rw [HV.out]) HSS.out (Nx.refl _)
    ·have HV:Hid (validU l=false):=by have:=HEV.out;rw [decide_eq_false he] at this;exact this
     go_simp
     exact hK w' _ (show Value.bool (encU (zsU l.length l) == l) = .bool (validU l) from by rw [HV.out,beq_eq_false_iff_ne.2 he]) HSS.out (Nx.refl _)
   ·intro a x ls w' hS hsz hni hcl hun hin hout hd K hK
    have i9:a.tmps.getD 9 undef = .bool (validU l):=(hin 9 1 (by kernel_rfl) (show 9<16 by decide)).trans (hd ⟨1,.data⟩ (by simp) rfl)
    have e9:a.eval (.tmp 9) = .bool (validU l):=i9
    have i14:a.tmps.getD 14 undef = .bool (validU l):=(hin 14 6 (by kernel_rfl) (show 14<16 by decide)).trans (hd ⟨6,.data⟩ (by simp) rfl)
    have e14:a.eval (.tmp 14) = .bool (validU l):=i14
    have HSS:Hid (Nx w1 w'):=hS
    clear hin hout hun hd hcl hS
    obtain ⟨b,hb⟩:∃ b,validU l=b:=⟨_,rfl⟩
    rw [hb] at i9 e9 i14 e14
    clear hb
    cases b
    ·go_simp
     exact hK w' _ rfl HSS.out (Nx.refl _)
    ·go_simp
     exact hK w' _ rfl HSS.out (Nx.refl _)
   ·intro a x ls w' hS hsz hni hcl hun hin hout hd K hK
    have e15:a.eval (.tmp 15) = .bool true:=(hin 15 7 (by kernel_rfl) (show 15<16 by decide)).trans (hd ⟨7,.data⟩ (by simp) rfl)
    exact hK w' _ e15 hS (Nx.refl _)
  ·intro A x ls w' hS hall hin hout hV hA
   have v8:x 8 = .bool true:=hV 8 (by decide)
   have hA2:=hA.out
   have HSS:Hid (Nx w1 w'):=hS
   clear hA hin hout hV hall hS
   simp only [RI.setAll,List.toList_toArray,List.set_cons_succ,List.set_cons_zero,Nat.reduceAdd] at hA2
   rw [v8] at hA2
   subst hA2
   have HND:Hid (Nx w w'):=HN1.out.trans HSS.out
   go_wp2_with fail
   go_ret
   exact ⟨rfl,HND.out⟩
 ·have q1:decide (60<(l.length:Int))=true:=decide_eq_true (by omega)
  have q2:60<(l.length:Int):=by omega
  go_wp2_with fail
  go_ret
  exact ⟨rfl,HN1.out⟩
end Go.Proofs.YtnfelopknfdpfaaDoor
