/- Reading goes on from left to right. Plain lemmas. Words that stand one behind the other, as a lexer finds them. Plain lemmas. A number's decimal digits as bytes. Plain lemmas. Whole numbers as a lexer finds them. Plain lemmas. Numbers with a fraction and a power of ten, as a lexer finds them. Plain lemmas. What is known of the words that a lexer found. Plain lemmas. -/
import Derived.Test.YtpfecpcgdfbekaaGreatDoorG09
import Derived.Test.YtpfecpcgdfbekaaGreatDoorG00
set_option linter.unusedVariables false
set_option linter.unusedSimpArgs false
set_option linter.unnecessarySimpa false
namespace Go.Proofs.YtpfecpcgdfbekaaGreatDoor
def Mo (s s':PSt):Prop:=s.i≤s'.i∧(s.e≠0→s'.e≠0)
def Adv (s s':PSt):Prop:=s'.e≠0∨s.i<s'.i
theorem Mo.refl (s:PSt):Mo s s:=⟨Nat.le_refl _,id⟩
theorem Mo.trans {a b c:PSt} (h:Mo a b) (k:Mo b c):Mo a c:=⟨Nat.le_trans h.1 k.1,fun e=>k.2 (h.2 e)⟩
theorem Adv.mo {a b c:PSt} (h:Adv a b) (k:Mo b c):Adv a c:=by
 rcases h with h | h
 ·exact .inl (k.2 h)
 ·exact .inr (Nat.lt_of_lt_of_le h k.1)
theorem Mo.adv {a b c:PSt} (h:Mo a b) (k:b.e=0→Adv b c) (hm:Mo b c):Adv a c:=by
 by_cases he:b.e=0
 ·rcases k he with k | k
  ·exact .inl k
  ·exact .inr (Nat.lt_of_le_of_lt h.1 k)
 ·exact .inl (hm.2 he)
theorem mo_next (s:PSt):Mo s (nextP s):=by
 unfold nextP;split
 ·exact Mo.refl _
 ·exact ⟨Nat.le_succ _,id⟩
theorem adv_next (s:PSt) (he:s.e=0):Adv s (nextP s):=by
 unfold nextP;rw [if_neg (by simpa using he)];exact .inr (Nat.lt_succ_self _)
theorem mo_fail (k:Nat) (hk:k≠0) (s:PSt):Mo s (failP k s):=by
 unfold failP;split
 ·exact Mo.refl _
 ·exact ⟨Nat.le_refl _,fun _=>hk⟩
theorem adv_fail (k:Nat) (hk:k≠0) (s:PSt):Adv s (failP k s):=.inl (fail_ne k hk s)
section
variable (ws:List TokV)
theorem mo_take (t:List UInt8) (s:PSt):Mo s (takeP ws t s):=by
 unfold takeP;split
 ·exact mo_next _
 ·exact Mo.refl _
theorem mo_need (t:List UInt8) (s:PSt):Mo s (needP ws t s):=by
 unfold needP;split
 ·exact mo_next _
 ·exact mo_fail 2 (by decide) _
theorem adv_need (t:List UInt8) (s:PSt) (he:s.e=0):Adv s (needP ws t s):=by
 unfold needP;split
 ·exact adv_next _ he
 ·exact adv_fail 2 (by decide) _
theorem mo_sep (s:PSt):Mo s (sepP ws s):=by
 unfold sepP;split
 ·exact mo_next _
 ·exact mo_take ws _ _
theorem mo_plainN (s:PSt):Mo s (plainN ws s).2:=by
 unfold plainN;dsimp only;split
 ·exact mo_next _
 ·exact (mo_fail 2 (by decide) _).trans (mo_next _)
theorem adv_plainN (s:PSt) (he:s.e=0):Adv s (plainN ws s).2:=by
 unfold plainN;dsimp only;split
 ·exact adv_next _ he
 ·exact (adv_fail 2 (by decide) _).mo (mo_next _)
theorem mo_qualN (s:PSt):Mo s (qualN ws s).2:=by
 unfold qualN;dsimp only;split
 ·exact mo_next _
 ·exact (mo_fail 2 (by decide) _).trans (mo_next _)
theorem mo_add {α:Type} (most:Nat) (rd:PSt→α×PSt) (hm:∀ s,Mo s (rd s).2) (acc:List α) (s:PSt):Mo s (addP most rd acc s).2:=by
 unfold addP;split
 ·exact mo_fail 4 (by decide) _
 ·exact hm s
theorem mo_elems {α:Type} (p:PSt→Bool) (most:Nat) (rd:PSt→α×PSt) (hm:∀ s,Mo s (rd s).2):∀ (n:Nat) (acc:List α) (s:PSt),Mo s (elemsP ws p most rd n acc s).2
 | 0,_,s=>Mo.refl s
 | n+1,acc,s=>by
  unfold elemsP
  split
  ·exact ((mo_add most rd hm acc s).trans (mo_sep ws _)).trans (mo_elems p most rd hm n _ _)
  ·exact Mo.refl s
theorem mo_leaf (s:PSt):Mo s (leafP ws s).2:=by
 unfold leafP;repeat' split
 ·exact mo_next _
 ·exact mo_next _
 ·exact mo_fail 2 (by decide) _
theorem adv_leaf (s:PSt) (he:s.e=0):Adv s (leafP ws s).2:=by
 unfold leafP;repeat' split
 ·exact adv_next _ he
 ·exact adv_next _ he
 ·exact adv_fail 2 (by decide) _
theorem mo_type:∀ (r:Nat) (s:PSt),Mo s (typeP ws r s).2
 | 0,s=>by
  unfold typeP;split
  ·exact mo_fail 6 (by decide) _
  ·exact mo_leaf ws s
 | r+1,s=>by
  have ih:=mo_type r
  unfold typeP;dsimp only;repeat' split
  ·exact (((mo_next s).trans (mo_need ws _ _)).trans (ih _)).trans (mo_need ws _ _)
  ·exact (((mo_next s).trans (mo_need ws _ _)).trans (ih _)).trans (mo_need ws _ _)
  ·exact (((((mo_next s).trans (mo_need ws _ _)).trans (ih _)).trans (mo_need ws _ _)).trans (ih _)).trans (mo_need ws _ _)
  ·exact mo_leaf ws s
theorem adv_type (r:Nat) (s:PSt) (he:s.e=0):Adv s (typeP ws r s).2:=by
 cases r with
 | zero =>
  unfold typeP;split
  ·exact adv_fail 6 (by decide) _
  ·exact adv_leaf ws s he
 | succ r =>
  have ih:=mo_type ws r
  unfold typeP;dsimp only;repeat' split
  ·exact (adv_next s he).mo (((mo_need ws _ _).trans (ih _)).trans (mo_need ws _ _))
  ·exact (adv_next s he).mo (((mo_need ws _ _).trans (ih _)).trans (mo_need ws _ _))
  ·exact (adv_next s he).mo (((((mo_need ws _ _).trans (ih _)).trans (mo_need ws _ _)).trans (ih _)).trans (mo_need ws _ _))
  ·exact adv_leaf ws s he
theorem mo_pair (item:PSt→Con×PSt) (hm:∀ s,Mo s (item s).2) (s:PSt):Mo s (pairP ws item s).2:=by
 unfold pairP;dsimp only
 exact ((hm s).trans (mo_need ws _ _)).trans (hm _)
theorem mo_con:∀ (r:Nat) (s:PSt),Mo s (conP ws r s).2
 | 0,s=>by
  unfold conP;repeat' split
  ·exact mo_fail 2 (by decide) _
  ·exact mo_next _
  ·exact mo_fail 6 (by decide) _
 | r+1,s=>by
  have ih:=mo_con r
  unfold conP;dsimp only;repeat' split
  ·exact mo_fail 2 (by decide) _
  ·exact mo_next _
  ·exact ((mo_next s).trans (mo_elems ws _ _ _ ih _ _ _)).trans (mo_need ws _ _)
  ·exact ((mo_need ws _ s).trans (mo_elems ws _ _ _ (mo_pair ws _ ih) _ _ _)).trans (mo_need ws _ _)
theorem adv_con (r:Nat) (s:PSt) (he:s.e=0):Adv s (conP ws r s).2:=by
 cases r with
 | zero =>
  unfold conP;repeat' split
  ·exact adv_fail 2 (by decide) _
  ·exact adv_next _ he
  ·exact adv_fail 6 (by decide) _
 | succ r =>
  have ih:=mo_con ws r
  unfold conP;dsimp only;repeat' split
  ·exact adv_fail 2 (by decide) _
  ·exact adv_next _ he
  ·exact (adv_next s he).mo ((mo_elems ws _ _ _ ih _ _ _).trans (mo_need ws _ _))
  ·exact (adv_need ws _ s he).mo ((mo_elems ws _ _ _ (mo_pair ws _ ih) _ _ _).trans (mo_need ws _ _))
theorem adv_pair (r:Nat) (s:PSt) (he:s.e=0):Adv s (pairP ws (conP ws r) s).2:=by
 unfold pairP;dsimp only
 exact (adv_con ws r s he).mo ((mo_need ws _ _).trans (mo_con ws r _))
theorem mo_req (s:PSt):Mo s (reqN ws s):=by
 unfold reqN;split
 ·exact mo_next _
 ·exact mo_take ws _ _
theorem mo_if {b:Bool} {s s1 s2:PSt} (h1:Mo s s1) (h2:Mo s s2):Mo s (if b=true then s1 else s2):=by
 cases b
 ·exact h2
 ·exact h1
theorem mo_if2 {α:Type} {b:Bool} {s:PSt} {r1 r2:α×PSt} (h1:Mo s r1.2) (h2:Mo s r2.2):Mo s (if b=true then r1 else r2).2:=by
 cases b
 ·exact h2
 ·exact h1
theorem mo_field (s:PSt):Mo s (fieldP ws s).2:=by
 have ht:=mo_type ws 12
 have hc:=mo_con ws 12
 unfold fieldP
 generalize typeP ws 12=tp at *
 generalize conP ws 12=cp at *
 dsimp only
 have h1:Mo s (if decide ((wordP ws s).k=2)=true then needP ws [58] (nextP s) else s):=mo_if ((mo_next s).trans (mo_need ws _ _)) (Mo.refl s)
 generalize (if decide ((wordP ws s).k=2)=true then needP ws [58] (nextP s) else s)=s1 at *
 have h2:=h1.trans (mo_req ws s1)
 generalize reqN ws s1=s2 at *
 have h3:=h2.trans (ht s2)
 generalize (tp s2).2=s3 at *
 have h4:=h3.trans (mo_plainN ws s3)
 generalize (plainN ws s3).2=s4 at *
 exact h4.trans (mo_if2 ((mo_next _).trans (hc _)) (Mo.refl _))
theorem adv_field (s:PSt) (he:s.e=0):Adv s (fieldP ws s).2:=by
 have ht:=mo_type ws 12
 have ha:=adv_type ws 12
 have hc:=mo_con ws 12
 unfold fieldP
 generalize typeP ws 12=tp at *
 generalize conP ws 12=cp at *
 dsimp only
 have h1:Mo s (if decide ((wordP ws s).k=2)=true then needP ws [58] (nextP s) else s):=mo_if ((mo_next s).trans (mo_need ws _ _)) (Mo.refl s)
 generalize (if decide ((wordP ws s).k=2)=true then needP ws [58] (nextP s) else s)=s1 at *
 have h2:=h1.trans (mo_req ws s1)
 generalize reqN ws s1=s2 at *
 have h3:=h2.adv (ha s2) (ht s2)
 generalize (tp s2).2=s3 at *
 have h4:=h3.mo (mo_plainN ws s3)
 generalize (plainN ws s3).2=s4 at *
 exact h4.mo (mo_if2 ((mo_next _).trans (hc _)) (Mo.refl _))
theorem mo_fields (o c:UInt8) (s:PSt):Mo s (fieldsP ws o c s).2:=by
 unfold fieldsP;dsimp only
 exact ((mo_need ws _ s).trans (mo_elems ws _ _ _ (mo_field ws) _ _ _)).trans (mo_need ws _ _)
theorem mo_mem (s:PSt):Mo s (memP ws s).2:=by
 unfold memP;dsimp only
 refine (mo_plainN ws s).trans ?_
 repeat' split
 ·exact (mo_next _).trans (mo_next _)
 ·exact ((mo_next _).trans (mo_fail 2 (by decide) _)).trans (mo_next _)
 ·exact Mo.refl _
theorem adv_mem (s:PSt) (he:s.e=0):Adv s (memP ws s).2:=by
 unfold memP;dsimp only
 refine (adv_plainN ws s he).mo ?_
 repeat' split
 ·exact (mo_next _).trans (mo_next _)
 ·exact ((mo_next _).trans (mo_fail 2 (by decide) _)).trans (mo_next _)
 ·exact Mo.refl _
theorem met_tail (s1:PSt):Mo s1 (if isP ws kThrows s1=true then fieldsP ws 40 41 (nextP s1) else ([],s1)).2:=by
 split
 ·exact (mo_next _).trans (mo_fields ws _ _ _)
 ·exact Mo.refl _
theorem mo_met (s:PSt):Mo s (metP ws s).2:=by
 unfold metP;dsimp only
 have h1:∀ s1,Mo s1 (if isP ws kVoid s1=true then ((wordP ws s1).t,nextP s1) else typeP ws 12 s1).2:=fun s1=>by
  split
  ·exact mo_next _
  ·exact mo_type ws 12 _
 exact ((((mo_take ws _ s).trans (h1 _)).trans (mo_plainN ws _)).trans (mo_fields ws _ _ _)).trans (met_tail ws _)
theorem adv_met (s:PSt) (he:s.e=0):Adv s (metP ws s).2:=by
 unfold metP;dsimp only
 have h1:∀ s1,Mo s1 (if isP ws kVoid s1=true then ((wordP ws s1).t,nextP s1) else typeP ws 12 s1).2:=fun s1=>by
  split
  ·exact mo_next _
  ·exact mo_type ws 12 _
 have h2:∀ s1:PSt,s1.e=0→Adv s1 (if isP ws kVoid s1=true then ((wordP ws s1).t,nextP s1) else typeP ws 12 s1).2:=fun s1 he=>by
  split
  ·exact adv_next _ he
  ·exact adv_type ws 12 _ he
 exact ((mo_take ws _ s).adv (h2 _) (h1 _)).mo (((mo_plainN ws _).trans (mo_fields ws _ _ _)).trans (met_tail ws _))
theorem mo_body (k:Nat) (nm ty:List UInt8) (s:PSt):Mo s (bodyP ws k nm ty s).2:=by
 unfold bodyP;dsimp only
 split
 ·exact (mo_need ws _ s).trans (mo_con ws 12 _)
 ·split
  ·exact ((mo_need ws _ s).trans (mo_elems ws _ _ _ (mo_mem ws) _ _ _)).trans (mo_need ws _ _)
  ·split
   ·exact mo_fields ws _ _ s
   ·split
    ·have h1:Mo s (if isP ws kExtends s=true then qualN ws (nextP s) else ([],s)).2:=by
      split
      ·exact (mo_next _).trans (mo_qualN ws _)
      ·exact Mo.refl _
     exact ((h1.trans (mo_need ws _ _)).trans (mo_elems ws _ _ _ (mo_met ws) _ _ _)).trans (mo_need ws _ _)
    ·exact Mo.refl s
theorem def_tail (k:Nat) (s1:PSt):Mo s1 (if k=1∨k=3 then typeP ws 12 s1 else ([],s1)).2:=by
 split
 ·exact mo_type ws 12 _
 ·exact Mo.refl _
theorem adv_def (s:PSt) (he:s.e=0):Adv s (defP ws s).2:=by
 unfold defP;dsimp only
 exact (adv_next s he).mo (((def_tail ws _ _).trans (mo_plainN ws _)).trans (mo_body ws _ _ _ _))
theorem adv_inc (s:PSt) (he:s.e=0):Adv s (incP ws s).2:=by
 unfold incP;dsimp only
 split
 ·exact (adv_next s he).mo (mo_next _)
 ·exact (adv_next s he).mo (mo_fail 2 (by decide) _)
theorem adv_spc (s:PSt) (he:s.e=0):Adv s (spcP ws s).2:=by
 unfold spcP;dsimp only
 have h1:∀ s1,Mo s1 (if isP ws [42] s1=true then ((wordP ws s1).t,nextP s1) else qualN ws s1).2:=fun s1=>by
  split
  ·exact mo_next _
  ·exact mo_qualN ws _
 exact (adv_next s he).mo ((h1 _).trans (mo_qualN ws _))
theorem word_e {s:PSt} (h:(wordP ws s).k≠0):s.e=0:=by
 rcases Nat.eq_zero_or_pos s.e with h1 | h1
 ·exact h1
 ·unfold wordP at h
  rw [if_pos (by omega)] at h
  exact absurd rfl h
theorem is_e {t:List UInt8} {s:PSt} (h:isP ws t s=true):s.e=0:=by
 apply word_e ws
 unfold isP at h
 simp at h
 omega
theorem name_e {s:PSt} (h:atNameP ws s=true):s.e=0:=by
 apply word_e ws
 unfold atNameP at h
 simp at h
 omega
theorem con_e {s:PSt} (h:atConP ws s=true):s.e=0:=by
 apply word_e ws
 intro h0
 unfold atConP at h
 dsimp only at h
 rw [h0] at h
 simp at h
 unfold isP at h
 rw [h0] at h
 simp at h
theorem type_e {s:PSt} (h:atTypeP ws s=true):s.e=0:=by
 unfold atTypeP at h
 simp at h
 exact name_e ws h.1
theorem field_e {s:PSt} (h:atFieldP ws s=true):s.e=0:=by
 unfold atFieldP at h
 simp only [Bool.or_eq_true,decide_eq_true_eq] at h
 rcases h with ((h | h) | h) | h
 ·exact word_e ws (by omega)
 ·exact is_e ws h
 ·exact is_e ws h
 ·exact type_e ws h
theorem met_e {s:PSt} (h:atMetP ws s=true):s.e=0:=by
 unfold atMetP at h
 simp only [Bool.or_eq_true] at h
 rcases h with (h | h) | h
 ·exact is_e ws h
 ·exact is_e ws h
 ·exact type_e ws h
theorem plain_e {s:PSt} (h:atPlainP ws s=true):s.e=0:=by
 unfold atPlainP at h
 simp at h
 exact name_e ws h.1
theorem def_e {s:PSt} (h:atDefP ws s=true):s.e=0:=by
 unfold atDefP at h
 simp at h
 exact name_e ws h.1
theorem prog_con (r:Nat):Prog ws (atConP ws) (conP ws r):=fun s _ h=>⟨con_e ws h,adv_con ws r s (con_e ws h)⟩
theorem prog_pair (r:Nat):Prog ws (atConP ws) (pairP ws (conP ws r)):=fun s _ h=>⟨con_e ws h,adv_pair ws r s (con_e ws h)⟩
theorem prog_field:Prog ws (atFieldP ws) (fieldP ws):=fun s _ h=>⟨field_e ws h,adv_field ws s (field_e ws h)⟩
theorem prog_mem:Prog ws (atPlainP ws) (memP ws):=fun s _ h=>⟨plain_e ws h,adv_mem ws s (plain_e ws h)⟩
theorem prog_met:Prog ws (atMetP ws) (metP ws):=fun s _ h=>⟨met_e ws h,adv_met ws s (met_e ws h)⟩
theorem prog_def:Prog ws (atDefP ws) (defP ws):=fun s _ h=>⟨def_e ws h,adv_def ws s (def_e ws h)⟩
theorem prog_inc:Prog ws (isP ws kInclude) (incP ws):=fun s _ h=>⟨is_e ws h,adv_inc ws s (is_e ws h)⟩
theorem prog_spc:Prog ws (isP ws kNamespace) (spcP ws):=fun s _ h=>⟨is_e ws h,adv_spc ws s (is_e ws h)⟩
end
end Go.Proofs.YtpfecpcgdfbekaaGreatDoor
namespace Go.Proofs.YtpfecpcgdfbekaaGreatDoor
def Bd (l:List UInt8):Prop:=l=[]∨∃ c r,l=c :: r∧isNmS c=false
theorem Bd.nil_:Bd []:=.inl rfl
theorem Bd.of {c:UInt8} {r:List UInt8} (h:isNmS c=false):Bd (c :: r):=.inr ⟨c,r,rfl,h⟩
theorem spanN_app {p:UInt8→Bool} {a b:List UInt8} (ha:∀ c ∈ a,p c=true) (hb:b=[]∨∃ c r,b=c :: r∧p c=false):spanN p (a++b)=a.length :=
 spanN_is p _ _ (by simp) (by simpa using ha) (by simpa using hb)
theorem spanN_add {p:UInt8→Bool} {a b:List UInt8} (ha:∀ c ∈ a,p c=true):spanN p (a++b)=a.length+spanN p b:=by
 induction a with
 | nil=>simp
 | cons c a ih =>
  rw [List.cons_append]
  show (if _ then _ else _)=_
  rw [if_pos (ha c (by simp)),ih (fun d hd=>ha d (by simp [hd]))]
  simp;omega
def bare (v:TokV):Nat×List UInt8×Int×Nat:=(v.k,v.t,v.n,v.d)
structure Wd (v:Nat×List UInt8×Int×Nat) (t:List UInt8):Prop where
 pos:0<t.length
 notEnd:v.1≠6
 first:∀ r,Bd r→∃ x,firstS (t++r)=(0,x,t.length)∧bare x=v
 ahead:∃ c r,t=c :: r∧isWhS c=false∧c≠35∧c≠47
theorem Bd.goes {r:List UInt8} (h:Bd r):goesS r=false:=by
 rcases h with rfl | ⟨c,l,rfl,h⟩
 ·rfl
 ·exact h
theorem Wd.word {v:Nat×List UInt8×Int×Nat} {t:List UInt8} (h:Wd v t) {r:List UInt8} (hr:Bd r):∃ x,wordS (t++r)=(0,0,x,t.length)∧bare x=v:=by
 obtain ⟨x,h1,h2⟩:=h.first r hr
 refine ⟨x,?_,h2⟩
 unfold wordS
 rw [h1]
 simp [hr.goes]
def Sk (s:List UInt8):Prop:=∀ r,(r=[]∨∃ c l,r=c :: l∧isWhS c=false∧c≠35∧c≠47)→skipS (s++r)=(s.length,true)
theorem gapS_word {r:List UInt8} (h:r=[]∨∃ c l,r=c :: l∧isWhS c=false∧c≠35∧c≠47):gapS r=(0,true):=by
 rcases h with rfl | ⟨c,l,rfl,h1,h2,h3⟩
 ·rfl
 ·unfold gapS
  dsimp only
  rw [if_neg (by simp [h2,h3]),if_neg (by simp [h3])]
  unfold spanN
  rw [h1];rfl
theorem Sk.none_:Sk []:=fun r h=>by
 rw [List.nil_append,skipS_step,gapS_word h];rfl
theorem Sk.gap {g s:List UInt8} (hs:Sk s) (hg:0<g.length) (h:∀ r,gapS (g++(s++r))=(g.length,true)∨(r≠[]∧¬ ∃ c l,r=c :: l∧isWhS c=false∧c≠35∧c≠47)):Sk (g++s):=fun r hr=>by
 have hgap:gapS (g++(s++r))=(g.length,true):=by
  rcases h r with h | ⟨h1,h2⟩
  ·exact h
  ·rcases hr with rfl | hr
   ·exact absurd rfl h1
   ·exact absurd hr h2
 rw [List.append_assoc,skipS_step,hgap]
 dsimp only
 rw [if_neg (by omega),List.drop_left' rfl,hs r hr]
 simp
theorem Sk.white {g:List UInt8} (h:∀ c ∈ g,isWhS c=true):Sk g:=by
 cases g with
 | nil=>exact Sk.none_
 | cons c g =>
  have hc:=h c (by simp)
  have hcn:c≠35∧c≠47:=by
   constructor
   ·intro e;subst e;revert hc;decide
   ·intro e;subst e;revert hc;decide
  have:=Sk.gap (g:=c :: g) (s:=[]) Sk.none_ (by simp) (fun r=>by
   by_cases hr:r=[]∨∃ c l,r=c :: l∧isWhS c=false∧c≠35∧c≠47
   ·refine .inl ?_
    rw [List.nil_append]
    show gapS (c :: (g++r))=_
    unfold gapS
    dsimp only
    rw [if_neg (by simp [hcn.1,hcn.2]),if_neg (by simp [hcn.2])]
    have:spanN isWhS ((c :: g)++r)=(c :: g).length:=spanN_app h (hr.imp id fun ⟨c,l,h1,h2,_⟩=>⟨c,l,h1,h2⟩)
    rw [List.cons_append] at this
    rw [this]
   ·refine .inr ⟨fun e=>hr (.inl e),fun e=>hr (.inr e)⟩)
  simpa using this
def Lxs (l:List UInt8) (vs:List (Nat×List UInt8×Int×Nat)):Prop:=∀ f o,l.length<f→∃ ts,lexF f o l=(ts,0,0)∧ts.map bare=vs++[(6,[],0,0)]
theorem Lxs.end_ {s:List UInt8} (h:Sk s):Lxs s []:=fun f o hf=>by
 cases f with
 | zero=>omega
 | succ f =>
  have h1:=h [] (.inl rfl)
  rw [List.append_nil] at h1
  have h2:nextS o s=(0,0,⟨6,[],0,0,o+s.length⟩,s.length):=by
   unfold nextS
   rw [h1]
   dsimp only
   rw [if_neg (by simp),List.drop_length]
   rfl
  refine ⟨[⟨6,[],0,0,o+s.length⟩],?_,rfl⟩
  show (if _ then _ else _)=_
  rw [h2]
  rfl
theorem Lxs.cons {s t r:List UInt8} {v:Nat×List UInt8×Int×Nat} {vs:List (Nat×List UInt8×Int×Nat)} (hs:Sk s) (ht:Wd v t) (hr:Bd r) (h:Lxs r vs):Lxs (s++(t++r)) (v :: vs):=fun f o hf=>by
 cases f with
 | zero=>omega
 | succ f =>
  obtain ⟨c,t',e,a1,a2,a3⟩:=ht.ahead
  have h1:=hs (t++r) (.inr ⟨c,t'++r,by rw [e];rfl,a1,a2,a3⟩)
  obtain ⟨x,h2,h3⟩:=ht.word hr
  have h4:nextS o (s++(t++r))=(0,0,{ x with p:=o+s.length },s.length+t.length):=by
   unfold nextS
   rw [h1]
   dsimp only
   rw [if_neg (by simp),List.drop_left' rfl,h2]
   rfl
  have hp:=ht.pos
  simp only [List.length_append] at hf
  obtain ⟨ts,h5,h6⟩:=h f (o+(s.length+t.length)) (by omega)
  have hx:x.k=v.1:=by rw [← h3];rfl
  refine ⟨{ x with p:=o+s.length } :: ts,?_,?_⟩
  ·show (if _ then _ else _)=_
   rw [h4]
   dsimp only
   have hd:(s++(t++r)).drop (s.length+t.length)=r:=by
    rw [← List.append_assoc,← List.length_append,List.drop_left' rfl]
   rw [if_neg (by simp),if_neg (by rw [hx];exact ht.notEnd),hd,h5]
   rfl
  ·rw [List.map_cons,h6]
   show (x.k,x.t,x.n,x.d) :: _=_
   rw [show (x.k,x.t,x.n,x.d)=v from h3];rfl
theorem Wd.name {t:List UInt8} (h1:∃ c r,t=c :: r∧(isLetS c || decide (c.toNat=95))=true) (h2:∀ c ∈ t,isNmS c=true) (h3:t.length≤120) (h4:dotBad t=false):Wd (1,t,0,0) t:=by
 obtain ⟨c,r,rfl,hc⟩:=h1
 have hcn:c.toNat≠35∧c.toNat≠47∧isWhS c=false:=by
  unfold isLetS at hc
  simp at hc
  refine ⟨by omega,by omega,?_⟩
  unfold isWhS
  simp
  omega
 refine ⟨by simp,(show (1:Nat)≠6 by decide),fun r' hr=>?_,c,r,rfl,hcn.2.2,fun e=>hcn.1 (by rw [e];rfl),fun e=>hcn.2.1 (by rw [e];rfl)⟩
 have hs:spanN isNmS ((c :: r)++r')=(c :: r).length:=spanN_app h2 hr
 refine ⟨⟨1,c :: r,0,0,0⟩,?_,rfl⟩
 show (if _ then nameS (c :: (r++r')) else _)=_
 rw [if_pos hc]
 rw [List.cons_append] at hs
 unfold nameS
 rw [hs]
 have ht:(c :: (r++r')).take (c :: r).length=c :: r:=by
  rw [← List.cons_append];exact List.take_left' rfl
 rw [if_neg (by omega),ht,h4]
 simp
theorem Wd.sign {c:UInt8} (h:signsL.contains c=true):Wd (5,[c],0,0) [c]:=by
 have hm:c ∈ signsL:=List.contains_iff_mem.1 h
 refine ⟨by simp,(show (5:Nat)≠6 by decide),fun r _=>⟨⟨5,[c],0,0,0⟩,?_,rfl⟩,c,[],rfl,?_⟩
 ·unfold signsL at hm
  simp only [List.mem_cons,List.not_mem_nil,or_false] at hm
  rcases hm with rfl | rfl | rfl | rfl | rfl | rfl | rfl | rfl | rfl | rfl | rfl | rfl | rfl <;> rfl
 ·unfold signsL at hm
  simp only [List.mem_cons,List.not_mem_nil,or_false] at hm
  rcases hm with rfl | rfl | rfl | rfl | rfl | rfl | rfl | rfl | rfl | rfl | rfl | rfl | rfl <;> exact ⟨by decide,by decide,by decide⟩
theorem Wd.text {q:UInt8} {s:List UInt8} (hq:q=34∨q=39) (h1:∀ c ∈ s,c≠q) (h2:∀ c ∈ s,c≠10):Wd (4,s,0,0) (q :: (s++[q])):=by
 refine ⟨by simp,(show (4:Nat)≠6 by decide),fun r _=>⟨⟨4,s,0,0,0⟩,?_,rfl⟩,q,s++[q],rfl,?_⟩
 ·have hn:quoteN q (s++(q :: r))=s.length:=spanN_app (by simpa using h1) (.inr ⟨q,r,rfl,by simp⟩)
  have hl:¬ lineN (s++(q :: r))<s.length:=by
   unfold lineN
   rw [spanN_add (p:=fun c=>decide (c≠10)) (b:=q :: r) (by simpa using h2)]
   omega
  have hqs:quotedS q (s++(q :: r))=(0,⟨4,s,0,0,0⟩,s.length+2):=by
   unfold quotedS
   rw [hn,if_neg (by simp;omega),List.take_left' rfl]
  have hlist:(q :: (s++[q]))++r=q :: (s++(q :: r)):=by simp
  rw [hlist]
  rcases hq with rfl | rfl
  ·show quotedS 34 _=_
   rw [hqs];simp
  ·show quotedS 39 _=_
   rw [hqs];simp
 ·rcases hq with rfl | rfl <;> exact ⟨by decide,by decide,by decide⟩
end Go.Proofs.YtpfecpcgdfbekaaGreatDoor
namespace Go.Proofs.YtpfecpcgdfbekaaGreatDoor
open Go.RowKit
def decF:Nat→Nat→List UInt8
 | 0,n=>[UInt8.ofNat (48+n % 10)]
 | f+1,n=>if n<10 then [UInt8.ofNat (48+n % 10)] else decF f (n / 10)++[UInt8.ofNat (48+n % 10)]
def decS (n:Nat):List UInt8:=decF n n
theorem decF_more (f g n:Nat) (h1:n≤f) (h2:n≤g):decF f n=decF g n:=by
 induction f generalizing g n with
 | zero =>
  obtain rfl:n=0:=by omega
  cases g with
  | zero=>rfl
  | succ g=>simp [decF]
 | succ f ih =>
  cases g with
  | zero =>
   obtain rfl:n=0:=by omega
   simp [decF]
  | succ g =>
   unfold decF
   by_cases h:n<10
   ·rw [if_pos h,if_pos h]
   ·rw [if_neg h,if_neg h,ih g (n / 10) (by omega) (by omega)]
theorem decS_small (n:Nat) (h:n<10):decS n=[UInt8.ofNat (48+n % 10)]:=by
 unfold decS
 cases n with
 | zero=>rfl
 | succ n=>unfold decF;rw [if_pos h]
theorem decS_step (n:Nat) (h:10≤n):decS n=decS (n / 10)++[UInt8.ofNat (48+n % 10)]:=by
 unfold decS
 obtain ⟨m,rfl⟩:∃ m,n=m+1:=⟨n - 1,by omega⟩
 conv=>lhs;unfold decF
 rw [if_neg (by omega),decF_more m ((m+1) / 10) ((m+1) / 10) (by omega) (Nat.le_refl _)]
theorem decS_len (k n:Nat) (h:n<10 ^ (k+1)):(decS n).length≤k+1:=by
 induction k generalizing n with
 | zero=>rw [decS_small n (by simpa using h)];simp
 | succ k ih =>
  by_cases h10:n<10
  ·rw [decS_small n h10];simp
  ·rw [decS_step n (by omega),List.length_append]
   have:=ih (n / 10) (by rw [Nat.pow_succ] at h;omega)
   simp;omega
theorem decS_pos (n:Nat):1≤(decS n).length:=by
 by_cases h:n<10
 ·rw [decS_small n h];simp
 ·rw [decS_step n (by omega)];simp
def tenS (v:Int):List UInt8:=if v<0 then 45 :: decS (-v).toNat else decS v.toNat
end Go.Proofs.YtpfecpcgdfbekaaGreatDoor
namespace Go.Proofs.YtpfecpcgdfbekaaGreatDoor
theorem nm_dig {c:UInt8} (h:isNmS c=false):isDig c=false∧c.toNat≠46∧c.toNat≠101∧c.toNat≠69∧c.toNat≠120:=by
 unfold isNmS isLetS at h
 simp only [Bool.or_eq_false_iff,Bool.and_eq_false_iff,decide_eq_false_iff_not] at h
 obtain ⟨⟨⟨h1,h2⟩,h3⟩,h4⟩:=h
 refine ⟨h2,h4,?_,?_,?_⟩ <;> omega
theorem Bd.dig {r:List UInt8} (h:Bd r):r=[]∨∃ c l,r=c :: l∧isDig c=false:=h.imp id fun ⟨c,l,e,k⟩=>⟨c,l,e,(nm_dig k).1⟩
theorem Bd.frac {r:List UInt8} (h:Bd r):fracN r=0:=by
 rcases h with rfl | ⟨c,l,rfl,h⟩
 ·rfl
 ·unfold fracN
  dsimp only
  rw [if_neg (fun e=>(nm_dig h).2.1 e.1)]
theorem Bd.exp {r:List UInt8} (h:Bd r):expN r=0:=by
 rcases h with rfl | ⟨c,l,rfl,h⟩
 ·rfl
 ·unfold expN
  dsimp only
  rw [if_neg (fun e=>e.1.elim (nm_dig h).2.2.1 (nm_dig h).2.2.2.1)]
theorem dig_nat {c:UInt8} (h:isDig c=true):48≤c.toNat∧c.toNat≤57:=by
 unfold isDig at h
 simp at h
 omega
def Sgn (s:List UInt8):Prop:=s=[]∨s=[45]
theorem Sgn.n {s l:List UInt8} (h:Sgn s) (hl:∃ c r,l=c :: r∧isDig c=true):sgnN (s++l)=s.length:=by
 obtain ⟨c,r,rfl,hc⟩:=hl
 have:=dig_nat hc
 rcases h with rfl | rfl
 ·show (if _ then 1 else 0)=0
  rw [if_neg (by omega)]
 ·rfl
theorem hex_no {s W r:List UInt8} (hs:Sgn s) (hW:∀ c ∈ W,isDig c=true) (h0:W≠[]) (hr:r=[]∨∃ c l,r=c :: l∧c.toNat≠120):hexN (s++(W++r))=0:=by
 have key:∀ (a b:UInt8) (l:List UInt8),b.toNat≠120∨a.toNat≠48→hexN (a :: b :: l)=0:=fun a b l h=>by
  show (if _ then _ else _)=_
  rw [if_neg]
  rintro ⟨rfl,rfl,-⟩
  rcases h with h | h <;> exact h rfl
 obtain ⟨c,W',rfl⟩:∃ c W',W=c :: W':=by
  cases W with
  | nil=>exact absurd rfl h0
  | cons c W'=>exact ⟨c,W',rfl⟩
 rcases hs with rfl | rfl
 ·cases W' with
  | cons d W' =>
   have:=dig_nat (hW d (by simp))
   exact key c d _ (.inl (by omega))
  | nil =>
   rcases hr with rfl | ⟨d,l,rfl,hd⟩
   ·rfl
   ·exact key c d l (.inl hd)
 ·exact key 45 c _ (.inr (by decide))
theorem natB_snocL (b:Nat) (l:List UInt8) (c:UInt8):natB b (l++[c])=b * natB b l+hexV c:=by
 unfold natB;rw [List.foldl_append];rfl
theorem dig_of (n:Nat):isDig (UInt8.ofNat (48+n % 10))=true∧hexV (UInt8.ofNat (48+n % 10))=n % 10:=by
 have h:(UInt8.ofNat (48+n % 10)).toNat=48+n % 10:=by
  have:(UInt8.ofNat (48+n % 10)).toNat=(48+n % 10) % 256:=by simp
  omega
 unfold isDig hexV
 rw [h]
 constructor
 ·simp;omega
 ·rw [if_neg (by omega),if_neg (by omega)];omega
theorem decS_dig (n:Nat):∀ c ∈ decS n,isDig c=true:=by
 induction n using Nat.strongRecOn with
 | _ n ih =>
  by_cases h:n<10
  ·rw [decS_small n h]
   intro c hc
   rw [List.mem_singleton.1 hc];exact (dig_of n).1
  ·rw [decS_step n (by omega)]
   intro c hc
   rcases List.mem_append.1 hc with h1 | h1
   ·exact ih (n / 10) (by omega) c h1
   ·rw [List.mem_singleton.1 h1];exact (dig_of n).1
theorem natB_dec (n:Nat):natB 10 (decS n)=n:=by
 induction n using Nat.strongRecOn with
 | _ n ih =>
  by_cases h:n<10
  ·rw [decS_small n h]
   show 10 * 0+hexV _=n
   rw [(dig_of n).2];omega
  ·rw [decS_step n (by omega),natB_snocL,ih (n / 10) (by omega),(dig_of n).2];omega
theorem decS_ne0 (n:Nat):decS n≠[]:=fun h=>by have:=decS_pos n;rw [h] at this;simp at this
theorem decN_int {s W r:List UInt8} (hs:Sgn s) (hW:∀ c ∈ W,isDig c=true) (h0:W≠[]) (hr:Bd r):decN (s++(W++r))=s.length+W.length:=by
 have hhead:∃ c l,W++r=c :: l∧isDig c=true:=by
  cases W with
  | nil=>exact absurd rfl h0
  | cons c W'=>exact ⟨c,W'++r,rfl,hW c (by simp)⟩
 have hd:digN (W++r)=W.length:=spanN_app hW hr.dig
 unfold decN
 dsimp only
 rw [hs.n hhead,List.drop_left' rfl,hd,← List.append_assoc,show s.length+W.length=(s++W).length by simp,List.drop_left' rfl,hr.frac,Nat.add_zero]
 have hp:W.length≠0:=fun e=>h0 (List.eq_nil_of_length_eq_zero e)
 rw [if_neg hp,show s.length+W.length=(s++W).length by simp,List.drop_left' rfl,hr.exp]
 simp
theorem Wd.int (n:Int) (h1 : -9223372036854775808≤n) (h2:n≤9223372036854775807):Wd (2,[],n,0) (tenS n):=by
 obtain ⟨s,m,hs,ht,hneg,hn⟩:∃ s m,Sgn s∧tenS n=s++decS m∧(negB (s++decS m)=true→s=[45]∧n = -(m:Int)∧m≤9223372036854775808)∧(negB (s++decS m)=false→s=[]∧n=(m:Int)∧m≤9223372036854775807):=by
  by_cases hn:n<0
  ·refine ⟨[45],(-n).toNat,.inr rfl,by unfold tenS;rw [if_pos hn];rfl,fun _=>⟨rfl,by omega,by omega⟩,fun h=>?_⟩
   rw [show negB ([45]++decS (-n).toNat)=true from rfl] at h;cases h
  ·refine ⟨[],n.toNat,.inl rfl,by unfold tenS;rw [if_neg hn];rfl,fun h=>?_,fun _=>⟨rfl,by omega,by omega⟩⟩
   exfalso
   rw [List.nil_append] at h
   cases hd:decS n.toNat with
   | nil=>exact decS_ne0 _ hd
   | cons c l =>
    rw [hd] at h
    have:=dig_nat (decS_dig n.toNat c (by rw [hd];simp))
    unfold negB at h
    simp at h
    omega
 have hW:=decS_dig m
 have h0:=decS_ne0 m
 have hm:m≤9223372036854775808:=by
  cases hb:negB (s++decS m) with
  | true=>exact (hneg hb).2.2
  | false=>have:=(hn hb).2.2;omega
 have hlen:(decS m).length≤60:=Nat.le_trans (decS_len 19 m (by omega)) (by decide)
 have hhead:∃ c l,decS m=c :: l∧isDig c=true:=by
  cases hd:decS m with
  | nil=>exact absurd hd h0
  | cons c l=>exact ⟨c,l,rfl,hW c (by rw [hd];simp)⟩
 have hsg:sgnN (s++decS m)=s.length:=hs.n hhead
 have hwhole:wholeS (s++decS m)=(n,0):=by
  unfold wholeS
  dsimp only
  rw [hsg,List.drop_left' rfl,if_neg (by omega),natB_dec]
  cases hb:negB (s++decS m) with
  | true =>
   have:=hneg hb
   rw [if_neg (by simp;omega)]
   simp [this.2.1]
  | false =>
   have:=hn hb
   rw [if_neg (by simp;omega)]
   simp [this.2.1]
 rw [ht]
 have hwb:wholeB (s++decS m)=true:=by
  unfold wholeB
  rw [hsg,List.drop_left' rfl]
  have:digN (decS m)=(decS m).length:=by
   have:=spanN_app (p:=isDig) (a:=decS m) (b:=[]) hW (.inl rfl)
   rwa [List.append_nil] at this
  rw [this];simp
 have hne:∃ c l,s++decS m=c :: l∧isWhS c=false∧c≠35∧c≠47∧(isLetS c || decide (c.toNat=95))=false∧(isDig c || decide (c.toNat=43) || decide (c.toNat=45) || decide (c.toNat=46))=true:=by
  rcases hs with rfl | rfl
  ·obtain ⟨c,l,e,hc⟩:=hhead
   have:=dig_nat hc
   refine ⟨c,l,by rw [List.nil_append,e],?_,?_,?_,?_,by rw [hc];rfl⟩
   ·unfold isWhS;simp;omega
   ·intro e';subst e';revert hc;decide
   ·intro e';subst e';revert hc;decide
   ·unfold isLetS;simp;omega
  ·exact ⟨45,decS m,rfl,by decide,by decide,by decide,by decide,by decide⟩
 obtain ⟨c,l,e,a1,a2,a3,a4,a5⟩:=hne
 refine ⟨by rw [e];simp,(show (2:Nat)≠6 by decide),fun r hr=>⟨⟨2,[],n,0,0⟩,?_,rfl⟩,c,l,e,a1,a2,a3⟩
 have hnum:numberS ((s++decS m)++r)=(0,⟨2,[],n,0,0⟩,(s++decS m).length):=by
  unfold numberS
  rw [List.append_assoc,hex_no hs hW h0 (hr.imp id fun ⟨c,l,e,k⟩=>⟨c,l,e,(nm_dig k).2.2.2.2⟩),decN_int hs hW h0 hr]
  have hp:s.length+(decS m).length≠0:=fun e=>h0 (List.eq_nil_of_length_eq_zero (by omega))
  rw [if_neg (by simp),if_neg hp,← List.append_assoc,show s.length+(decS m).length=(s++decS m).length by simp,List.take_left' rfl,hwb,hwhole]
  rfl
 rw [e] at hnum ⊢
 show (if _ then _ else _)=_
 rw [if_neg (by rw [a4];simp),if_pos a5]
 exact hnum
end Go.Proofs.YtpfecpcgdfbekaaGreatDoor
namespace Go.Proofs.YtpfecpcgdfbekaaGreatDoor
def Digs (l:List UInt8):Prop:=(∀ c ∈ l,isDig c=true)∧l≠[]
theorem Digs.head {l:List UInt8} (h:Digs l) (r:List UInt8):∃ c t,l++r=c :: t∧isDig c=true:=by
 cases l with
 | nil=>exact absurd rfl h.2
 | cons c l=>exact ⟨c,l++r,rfl,h.1 c (by simp)⟩
theorem Digs.n {l:List UInt8} (h:Digs l) {r:List UInt8} (hr:r=[]∨∃ c t,r=c :: t∧isDig c=false):digN (l++r)=l.length:=spanN_app h.1 hr
theorem Digs.ne {l:List UInt8} (h:Digs l):l.length≠0:=fun e=>h.2 (List.eq_nil_of_length_eq_zero e)
structure Dbl (s W F z E:List UInt8):Prop where
 s:Sgn s
 W:Digs W
 F:Digs F
 z:Sgn z
 E:Digs E
def dblT (s W F z E:List UInt8):List UInt8:=s++(W++(46 :: (F++(101 :: (z++E)))))
theorem Dbl.decN {s W F z E r:List UInt8} (h:Dbl s W F z E) (hr:Bd r):decN (dblT s W F z E++r)=(dblT s W F z E).length:=by
 have e0:dblT s W F z E++r=s++(W++(46 :: (F++(101 :: (z++(E++r)))))):=by simp [dblT]
 have hF:digN (F++(101 :: (z++(E++r))))=F.length:=h.F.n (.inr ⟨101,_,rfl,by decide⟩)
 have hW:digN (W++(46 :: (F++(101 :: (z++(E++r))))))=W.length:=h.W.n (.inr ⟨46,_,rfl,by decide⟩)
 have hE:digN (E++r)=E.length:=h.E.n hr.dig
 have hfr:fracN (46 :: (F++(101 :: (z++(E++r)))))=F.length+1:=by
  unfold fracN
  dsimp only
  rw [hF,if_pos ⟨by decide,h.F.ne⟩]
 have hex:expN (101 :: (z++(E++r)))=1+z.length+E.length:=by
  unfold expN
  dsimp only
  rw [h.z.n (h.E.head r),List.drop_left' rfl,hE,if_pos ⟨.inl (by decide),h.E.ne⟩]
 rw [e0]
 unfold Go.Proofs.YtpfecpcgdfbekaaGreatDoor.decN
 dsimp only
 rw [h.s.n (h.W.head _),List.drop_left' rfl,hW]
 have d1:(s++(W++(46 :: (F++(101 :: (z++(E++r))))))).drop (s.length+W.length)=46 :: (F++(101 :: (z++(E++r)))):=by
  rw [← List.append_assoc,← List.length_append,List.drop_left' rfl]
 rw [d1,hfr]
 have hp:W.length+(F.length+1)≠0:=by omega
 rw [if_neg hp]
 have d2:(s++(W++(46 :: (F++(101 :: (z++(E++r))))))).drop (s.length+(W.length+(F.length+1)))=101 :: (z++(E++r)):=by
  have:s++(W++(46 :: (F++(101 :: (z++(E++r))))))=(s++(W++(46 :: F)))++(101 :: (z++(E++r))):=by simp
  rw [this,show s.length+(W.length+(F.length+1))=(s++(W++(46 :: F))).length by simp,List.drop_left' rfl]
 rw [d2,hex]
 simp [dblT]
 omega
theorem Wd.dbl {s W F z E:List UInt8} (h:Dbl s W F z E) {B:Nat} (hB:parseS (dblT s W F z E)=(B,0)):Wd (3,[],0,B) (dblT s W F z E):=by
 have hne:∃ c l,dblT s W F z E=c :: l∧isWhS c=false∧c≠35∧c≠47∧(isLetS c || decide (c.toNat=95))=false∧(isDig c || decide (c.toNat=43) || decide (c.toNat=45) || decide (c.toNat=46))=true:=by
  rcases h.s with rfl | rfl
  ·obtain ⟨c,l,e,hc⟩:=h.W.head (46 :: (F++(101 :: (z++E))))
   have:=dig_nat hc
   refine ⟨c,l,by unfold dblT;rw [List.nil_append,e],?_,?_,?_,?_,by rw [hc];rfl⟩
   ·unfold isWhS;simp;omega
   ·intro e';subst e';revert hc;decide
   ·intro e';subst e';revert hc;decide
   ·unfold isLetS;simp;omega
  ·exact ⟨45,_,rfl,by decide,by decide,by decide,by decide,by decide⟩
 have hwb:wholeB (dblT s W F z E)=false:=by
  unfold wholeB dblT
  rw [h.s.n (h.W.head _),List.drop_left' rfl,h.W.n (.inr ⟨46,_,rfl,by decide⟩)]
  simp
 obtain ⟨c,l,e,a1,a2,a3,a4,a5⟩:=hne
 refine ⟨by rw [e];simp,(show (3:Nat)≠6 by decide),fun r hr=>⟨⟨3,[],0,B,0⟩,?_,rfl⟩,c,l,e,a1,a2,a3⟩
 have hnum:numberS (dblT s W F z E++r)=(0,⟨3,[],0,B,0⟩,(dblT s W F z E).length):=by
  have hx:hexN (dblT s W F z E++r)=0:=by
   have e0:dblT s W F z E++r=s++(W++(46 :: (F++(101 :: (z++(E++r)))))):=by simp [dblT]
   rw [e0]
   exact hex_no h.s h.W.1 h.W.2 (.inr ⟨46,_,rfl,by decide⟩)
  unfold numberS
  rw [hx,h.decN hr]
  have hp:(dblT s W F z E).length≠0:=by rw [e];simp
  rw [if_neg (by simp),if_neg hp,List.take_left' rfl,hwb,hB]
  rfl
 rw [e] at hnum ⊢
 show (if _ then _ else _)=_
 rw [if_neg (by rw [a4];simp),if_pos a5]
 exact hnum
end Go.Proofs.YtpfecpcgdfbekaaGreatDoor
namespace Go.Proofs.YtpfecpcgdfbekaaGreatDoor
structure NameT (t:List UInt8):Prop where
 head:∃ c r,t=c :: r∧(isLetS c || decide (c.toNat=95))=true
 all:∀ c ∈ t,isNmS c=true
 len:t.length≤120
 dots:dotBad t=false
inductive TokOk:Nat×List UInt8×Int×Nat→Prop where
 | name {t:List UInt8} (h:NameT t):TokOk (1,t,0,0)
 | int (n:Int) (h1 : -9223372036854775808≤n) (h2:n≤9223372036854775807):TokOk (2,[],n,0)
 | dbl (B:Nat) (w:List UInt8) (h:parseS w=(B,0)):TokOk (3,[],0,B)
 | text (q:UInt8) (s:List UInt8) (hq:q=34∨q=39) (h1:∀ c ∈ s,c≠q) (h2:∀ c ∈ s,c≠10):TokOk (4,s,0,0)
 | sign (c:UInt8) (h:signsL.contains c=true):TokOk (5,[c],0,0)
 | fin:TokOk (6,[],0,0)
theorem name_ok {l:List UInt8} (hc:∃ c r,l=c :: r∧(isLetS c || decide (c.toNat=95))=true) (h:(nameS l).1=0):TokOk (bare (nameS l).2.1):=by
 unfold nameS at h ⊢
 split
 ·rename_i h1;rw [if_pos h1] at h;cases h
 ·rename_i h1
  rw [if_neg h1] at h
  split
  ·rename_i h2;rw [if_pos h2] at h;cases h
  ·rename_i h2
   refine .name ⟨?_,spanN_take _ _,?_,by simpa using h2⟩
   ·obtain ⟨c,r,rfl,hc⟩:=hc
    have hn:isNmS c=true:=by
     unfold isNmS
     rw [Bool.or_eq_true] at hc
     rcases hc with hc | hc
     ·rw [hc];rfl
     ·simp [hc]
    refine ⟨c,r.take (spanN isNmS r),?_,hc⟩
    have:spanN isNmS (c :: r)=spanN isNmS r+1:=if_pos hn
    rw [this,List.take_succ_cons]
   ·rw [List.length_take];omega
theorem whole_ok (l:List UInt8) (h:(wholeS l).2=0) : -9223372036854775808≤(wholeS l).1∧(wholeS l).1≤9223372036854775807:=by
 unfold wholeS
 dsimp only
 by_cases h1:60<(l.drop (sgnN l)).length
 ·rw [if_pos h1];exact ⟨by omega,by omega⟩
 ·rw [if_neg h1]
  by_cases h2:(if negB l then 9223372036854775808 else 9223372036854775807)<natB 10 (l.drop (sgnN l))
  ·rw [if_pos h2];exact ⟨by omega,by omega⟩
  ·rw [if_neg h2]
   cases hb:negB l <;> rw [hb] at h2 <;> simp at h2 ⊢ <;> omega
theorem hex_ok (l:List UInt8) : -9223372036854775808≤(hexS l).1∧(hexS l).1≤9223372036854775807:=by
 unfold hexS
 split
 ·exact ⟨by omega,by omega⟩
 ·split
  ·exact ⟨by omega,by omega⟩
  ·exact ⟨by omega,by omega⟩
theorem number_ok {l:List UInt8} (h:(numberS l).1=0):TokOk (bare (numberS l).2.1):=by
 unfold numberS at h ⊢
 split
 ·exact .int _ (hex_ok _).1 (hex_ok _).2
 ·rename_i h1
  rw [if_neg h1] at h
  split
  ·rename_i h2;rw [if_pos h2] at h;cases h
  ·rename_i h2
   rw [if_neg h2] at h
   split
   ·rename_i h3
    rw [if_pos h3] at h
    exact .int _ (whole_ok _ h).1 (whole_ok _ h).2
   ·rename_i h3
    rw [if_neg h3] at h
    exact .dbl _ _ (Prod.ext rfl h)
theorem quoted_ok {q:UInt8} {r:List UInt8} (hq:q=34∨q=39) (h:(quotedS q r).1=0):TokOk (bare (quotedS q r).2.1):=by
 unfold quotedS at h ⊢
 split
 ·rename_i h1;rw [if_pos h1] at h;cases h
 ·rename_i h1
  refine .text q _ hq (fun c hc=>?_) (fun c hc=>?_)
  ·have:=spanN_take (fun c=>decide (c≠q)) r c hc
   simpa using this
  ·have hle:quoteN q r≤lineN r:=by omega
   have hm:c ∈ r.take (lineN r):=by
    rw [show r.take (quoteN q r)=(r.take (lineN r)).take (quoteN q r) by rw [List.take_take,Nat.min_eq_left hle]] at hc
    exact List.mem_of_mem_take hc
   have:=spanN_take (fun c=>decide (c≠10)) r c hm
   simpa using this
theorem first_ok (l:List UInt8) (h:(firstS l).1=0):TokOk (bare (firstS l).2.1):=by
 cases l with
 | nil=>exact .fin
 | cons c r =>
  have e:firstS (c :: r)=if isLetS c || decide (c.toNat=95) then nameS (c :: r)
   else if isDig c || decide (c.toNat=43) || decide (c.toNat=45) || decide (c.toNat=46) then numberS (c :: r)
   else if c.toNat=34∨c.toNat=39 then quotedS c r
   else if signsL.contains c then (0,⟨5,[c],0,0,0⟩,1) else (2,tok0,0):=rfl
  rw [e] at h ⊢
  by_cases h1:(isLetS c || decide (c.toNat=95))=true
  ·rw [if_pos h1] at h ⊢
   exact name_ok ⟨c,r,rfl,h1⟩ h
  ·rw [if_neg h1] at h ⊢
   by_cases h2:(isDig c || decide (c.toNat=43) || decide (c.toNat=45) || decide (c.toNat=46))=true
   ·rw [if_pos h2] at h ⊢
    exact number_ok h
   ·rw [if_neg h2] at h ⊢
    by_cases h3:c.toNat=34∨c.toNat=39
    ·rw [if_pos h3] at h ⊢
     exact quoted_ok (h3.imp (fun e=>UInt8.toNat_inj.1 e) (fun e=>UInt8.toNat_inj.1 e)) h
    ·rw [if_neg h3] at h ⊢
     by_cases h4:signsL.contains c=true
     ·rw [if_pos h4] at h ⊢
      exact .sign c h4
     ·rw [if_neg h4] at h;cases h
theorem next_ok (o:Nat) (l:List UInt8) (h:(nextS o l).1=0):TokOk (bare (nextS o l).2.2.1):=by
 unfold nextS at h ⊢
 split
 ·rename_i h1;rw [if_pos h1] at h;cases h
 ·rename_i h1
  rw [if_neg h1] at h
  split
  ·rename_i h2;rw [if_pos h2] at h;exact absurd h h2
  ·rename_i h2
   show TokOk (bare (wordS (l.drop (skipS l).1)).2.2.1)
   generalize l.drop (skipS l).1=m at h2 ⊢
   have h3:(wordS m).1=0:=by simpa using h2
   unfold wordS at h3 ⊢
   split
   ·rename_i h4;rw [if_pos h4] at h3;exact absurd h3 h4
   ·rename_i h4
    rw [if_neg h4] at h3
    split
    ·rename_i h5;rw [if_pos h5] at h3;cases h3
    ·exact first_ok m (by simpa using h4)
theorem lexF_ok:∀ (f o:Nat) (l:List UInt8),(lexF f o l).2.1=0→∀ x ∈ (lexF f o l).1,TokOk (bare x)
 | 0,_,_,_=>fun x h=>by cases h
 | f+1,o,l,h=>by
  have ih:=lexF_ok f (o+(nextS o l).2.2.2) (l.drop (nextS o l).2.2.2)
  unfold lexF at h ⊢
  intro x hx
  split at hx
  ·cases hx
  ·rename_i h1
   have hn:=next_ok o l (by simpa using h1)
   rw [if_neg h1] at h
   split at hx
   ·simp at hx;subst hx;exact hn
   ·rename_i h2
    rw [if_neg h2] at h
    split at hx
    ·rename_i h3;rw [if_pos h3] at h;exact absurd h h3
    ·rename_i h3
     rcases List.mem_cons.1 hx with rfl | hx
     ·exact hn
     ·exact ih (by simpa using h3) x hx
theorem lex_tok_ok (l:List UInt8) (h:(lexS l).2.1=0):∀ x ∈ (lexS l).1,TokOk (bare x):=by
 unfold lexS at h ⊢
 split
 ·intro x hx;cases hx
 ·rename_i h1
  rw [if_neg h1] at h
  exact lexF_ok _ _ _ h
end Go.Proofs.YtpfecpcgdfbekaaGreatDoor
