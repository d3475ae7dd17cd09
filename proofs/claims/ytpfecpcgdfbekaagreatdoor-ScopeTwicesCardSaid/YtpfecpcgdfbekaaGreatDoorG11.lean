/- A file's words as one goes through them who stops at the first error: what the plain reader does then. Plain lemmas. The contracts of Head, May, Depth, Wire (what is plain of it). The contract of Names (what is plain of it). The contracts of the document's reading of kinds: its small functions. Texts joined. The contracts of the document's words of kinds: word, ShowType. The words of a text: places rise, the last one is the end. Plain lemmas. A struct of a name: its words, and what it is as a file. -/
import Derived.Test.YtpfecpcgdfbekaaGreatDoorG10
import Derived.Test.YtpfecpcgdfbekaaGreatDoorG09
import Derived.Test.YtpfecpcgdfbekaaGreatDoorG01
import Derived.Deep.CutBlock
import Derived.Deep.DeepCutAuto
import Derived.Test.YtpfecpcgdfbekaaGreatDoorG04
import Derived.Test.YtpfecpcgdfbekaaGreatDoorG08
set_option linter.unusedVariables false
set_option linter.unusedSimpArgs false
set_option linter.unnecessarySimpa false
namespace Go.Proofs.YtpfecpcgdfbekaaGreatDoor
def WOk (ws:List TokV):Prop:=∀ x ∈ ws,TokOk (bare x)
def ltB (c:UInt8):Bool:=isLetS c || decide (c.toNat=95)
theorem sign_lt {c:UInt8} (h:signsL.contains c=true):ltB c=false:=by
 have hm:c ∈ signsL:=by simpa using h
 simp only [signsL,List.mem_cons,List.not_mem_nil,or_false] at hm
 rcases hm with rfl | rfl | rfl | rfl | rfl | rfl | rfl | rfl | rfl | rfl | rfl | rfl | rfl <;> decide
theorem TokOk.of1 {v:Nat×List UInt8×Int×Nat} (h:TokOk v) (h1:v.1=1):∃ c r,v.2.1=c :: r∧ltB c=true:=by
 cases h with
 | name h=>exact h.head
 | int=>cases h1
 | dbl=>cases h1
 | text=>cases h1
 | sign=>cases h1
 | fin=>cases h1
theorem TokOk.of5 {v:Nat×List UInt8×Int×Nat} (h:TokOk v) (h1:v.1=5):∃ c,v.2.1=[c]∧signsL.contains c=true:=by
 cases h with
 | name h=>cases h1
 | int=>cases h1
 | dbl=>cases h1
 | text=>cases h1
 | sign c h=>exact ⟨c,rfl,h⟩
 | fin=>cases h1
section
variable {ws:List TokV}
theorem WOk.at_ (h:WOk ws) (s:PSt) (hk:(wordP ws s).k≠0):TokOk (bare (wordP ws s)):=by
 unfold wordP at hk ⊢
 split
 ·rename_i h1;rw [if_pos h1] at hk;exact absurd rfl hk
 ·rename_i h1
  rw [if_neg h1] at hk
  rw [List.getD_eq_getElem?_getD] at hk ⊢
  cases hi:ws[s.i]? with
  | none=>rw [hi] at hk;exact absurd rfl hk
  | some x=>exact h x (List.mem_of_getElem? hi)
theorem is_sign (h:WOk ws) (c:UInt8) (hc:ltB c=false) (s:PSt):isP ws [c] s=(decide ((wordP ws s).k=5) && decide ((wordP ws s).t=[c])):=by
 unfold isP
 by_cases h1:(wordP ws s).k=1
 ·obtain ⟨d,r,ht,hd⟩:=(h.at_ s (by omega)).of1 h1
  have hne:decide ((wordP ws s).t=[c])=false:=by
   rw [decide_eq_false_iff_not]
   intro e
   rw [show (wordP ws s).t=d :: r from ht] at e
   simp at e
   rw [e.1,hc] at hd;cases hd
  rw [hne];simp
 ·rw [decide_eq_false h1];rfl
theorem is_word (h:WOk ws) (c:UInt8) (r:List UInt8) (hc:ltB c=true) (s:PSt):isP ws (c :: r) s=(decide ((wordP ws s).k=1) && decide ((wordP ws s).t=c :: r)):=by
 unfold isP
 by_cases h5:(wordP ws s).k=5
 ·obtain ⟨d,ht,hd⟩:=(h.at_ s (by omega)).of5 h5
  have hne:decide ((wordP ws s).t=c :: r)=false:=by
   rw [decide_eq_false_iff_not]
   intro e
   rw [show (wordP ws s).t=[d] from ht] at e
   simp at e
   rw [← e.1,sign_lt hd] at hc;cases hc
  rw [hne];simp
 ·rw [decide_eq_false h5,Bool.or_false]
theorem er_word {s:PSt} (h:s.e≠0):wordP ws s=tok0:=if_pos h
theorem er_next {s:PSt} (h:s.e≠0):nextP s=s:=if_pos h
theorem er_fail {k:Nat} {s:PSt} (h:s.e≠0):failP k s=s:=if_pos h
theorem er_is {t:List UInt8} {s:PSt} (h:s.e≠0):isP ws t s=false:=by
 rw [Bool.eq_false_iff];intro h1;exact h (is_e ws h1)
theorem er_need {t:List UInt8} {s:PSt} (h:s.e≠0):needP ws t s=s:=by
 unfold needP;rw [er_is h];exact er_fail h
theorem er_take {t:List UInt8} {s:PSt} (h:s.e≠0):takeP ws t s=s:=by
 unfold takeP;rw [er_is h];rfl
theorem er_sep {s:PSt} (h:s.e≠0):sepP ws s=s:=by
 unfold sepP;rw [er_is h];exact er_take h
theorem er_name {s:PSt} (h:s.e≠0):atNameP ws s=false:=by
 rw [Bool.eq_false_iff];intro h1;exact h (name_e ws h1)
theorem er_plain {s:PSt} (h:s.e≠0):plainN ws s=([],s):=by
 unfold plainN atPlainP;rw [er_name h];simp only [Bool.false_and,Bool.false_eq_true,if_false];rw [er_fail h,er_next h,er_word h];rfl
theorem er_qual {s:PSt} (h:s.e≠0):qualN ws s=([],s):=by
 unfold qualN atQualP;rw [er_name h];simp only [Bool.false_and,Bool.false_eq_true,if_false];rw [er_fail h,er_next h,er_word h];rfl
theorem er_atType {s:PSt} (h:s.e≠0):atTypeP ws s=false:=by
 unfold atTypeP;rw [er_name h];rfl
theorem er_leaf {s:PSt} (h:s.e≠0):leafP ws s=([],s):=by
 unfold leafP;rw [er_is h,er_atType h,if_neg (by decide),if_neg (by decide),er_fail h]
theorem er_type {s:PSt} (h:s.e≠0) (r:Nat):typeP ws r s=([],s):=by
 cases r with
 | zero=>unfold typeP;rw [er_is h,er_is h,er_is h];exact er_leaf h
 | succ r=>unfold typeP;rw [er_is h,er_is h,er_is h];exact er_leaf h
theorem er_atCon {s:PSt} (h:s.e≠0):atConP ws s=false:=by
 rw [Bool.eq_false_iff];intro h1;exact h (con_e ws h1)
theorem con_no {s:PSt} (h:atConP ws s=false) (r:Nat):conP ws r s=(con0,failP 2 s):=by
 cases r with
 | zero=>unfold conP;rw [h];rfl
 | succ r=>unfold conP;rw [h];rfl
theorem er_con {s:PSt} (h:s.e≠0) (r:Nat):conP ws r s=(con0,s):=by rw [con_no (er_atCon h),er_fail h]
theorem fail2_e (s:PSt):(failP 2 s).e≠0:=fail_ne 2 (by decide) s
theorem pair_no {s:PSt} (h:atConP ws s=false) (r:Nat):(pairP ws (conP ws r) s).2=failP 2 s:=by
 unfold pairP
 dsimp only
 rw [con_no h]
 dsimp only
 rw [er_need (fail2_e s),er_con (fail2_e s)]
theorem type_no (hw:WOk ws) {s:PSt} (h:atTypeP ws s=false) (r:Nat):typeP ws r s=([],failP 2 s):=by
 have hk:∀ c m,ltB c=true→oftP (c :: m)=true→isP ws (c :: m) s=false:=by
  intro c m hc ho
  rw [Bool.eq_false_iff]
  intro h1
  rw [is_word hw c m hc] at h1
  simp only [Bool.and_eq_true,decide_eq_true_eq] at h1
  unfold atTypeP atNameP at h
  rw [h1.1,h1.2,ho] at h
  cases h
 have h1:isP ws kList s=false:=hk _ _ (by decide) (by decide)
 have h2:isP ws kSet s=false:=hk _ _ (by decide) (by decide)
 have h3:isP ws kMap s=false:=hk _ _ (by decide) (by decide)
 have h4:isP ws kByte s=false:=hk _ _ (by decide) (by decide)
 have hl:leafP ws s=([],failP 2 s):=by
  unfold leafP;rw [h4,h,if_neg (by decide),if_neg (by decide)]
 cases r with
 | zero=>unfold typeP;rw [h1,h2,h3];exact hl
 | succ r=>unfold typeP;rw [h1,h2,h3];exact hl
theorem field_no (hw:WOk ws) {s:PSt} (h:atFieldP ws s=false):(fieldP ws s).2=failP 2 s:=by
 unfold atFieldP at h
 simp only [Bool.or_eq_false_iff] at h
 obtain ⟨⟨⟨h1,h2⟩,h3⟩,h4⟩:=h
 unfold fieldP
 have ht:=type_no hw h4 12
 have hc:=@er_con ws _ (fail2_e s) 12
 generalize typeP ws 12=tp at *
 generalize conP ws 12=cp at *
 dsimp only
 rw [h1]
 simp only [Bool.false_eq_true,if_false]
 unfold reqN takeP
 rw [h2,h3]
 simp only [Bool.false_eq_true,if_false]
 rw [ht]
 dsimp only
 rw [er_plain (fail2_e s)]
 dsimp only
 rw [er_is (fail2_e s)]
 simp only [Bool.false_eq_true,if_false]
theorem mem_no {s:PSt} (h:atPlainP ws s=false):(memP ws s).2=failP 2 s:=by
 have hp:(plainN ws s).2=failP 2 s:=by
  unfold plainN;dsimp only;rw [h,if_neg (by decide),er_next (fail2_e s)]
 unfold memP
 dsimp only
 rw [hp,er_is (fail2_e s),if_neg (by decide)]
theorem er_elems {α:Type} {p:PSt→Bool} (hp:∀ s,p s=true→s.e=0) {s:PSt} (h:s.e≠0) (most:Nat) (rd:PSt→α×PSt) (f:Nat) (acc:List α):elemsP ws p most rd f acc s=(acc,s) :=
 elems_done _ _ _ _ _ _ _ (by rw [Bool.eq_false_iff];intro h1;exact h (hp s h1))
theorem er_fields {s:PSt} (h:s.e≠0) (o c:UInt8):fieldsP ws o c s=([],s):=by
 unfold fieldsP
 dsimp only
 rw [er_need h,er_elems (fun s h=>field_e ws h) h]
 dsimp only
 rw [er_need h]
theorem met_no (hw:WOk ws) {s:PSt} (h:atMetP ws s=false):(metP ws s).2=failP 2 s:=by
 unfold atMetP at h
 simp only [Bool.or_eq_false_iff] at h
 obtain ⟨⟨h2,h3⟩,h4⟩:=h
 unfold metP
 have ht:=type_no hw h4 12
 generalize typeP ws 12=tp at *
 dsimp only
 unfold takeP
 rw [h2]
 simp only [Bool.false_eq_true,if_false]
 rw [h3]
 simp only [Bool.false_eq_true,if_false]
 rw [ht]
 dsimp only
 rw [er_plain (fail2_e s)]
 dsimp only
 rw [er_fields (fail2_e s)]
 dsimp only
 rw [er_is (fail2_e s)]
 simp only [Bool.false_eq_true,if_false]
def Lp {α:Type} (ws:List TokV) (p:PSt→Bool) (most:Nat) (rd:PSt→α×PSt) (fin:PSt→PSt) (S':PSt) (L':List α) (acc:List α) (s:PSt):Prop :=
 ∃ f,ws.length<f+s.i∧fin (elemsP ws p most rd f acc s).2=S'∧(S'.e=0→(elemsP ws p most rd f acc s).1=L')
section
variable {α:Type} {p:PSt→Bool} {most:Nat} {rd:PSt→α×PSt} {fin:PSt→PSt} {S':PSt} {L' acc:List α} {s:PSt}
theorem Lp.start (hf:fin (elemsP ws p most rd (ws.length+1) [] s).2=S') (hl:S'.e=0→(elemsP ws p most rd (ws.length+1) [] s).1=L'):Lp ws p most rd fin S' L' [] s :=
 ⟨ws.length+1,by omega,hf,hl⟩
theorem Lp.end_ (h:Lp ws p most rd fin S' L' acc s) (hp:p s=false):fin s=S'∧(S'.e=0→acc=L'):=by
 obtain ⟨f,-,h1,h2⟩:=h
 rw [elems_done _ _ _ _ _ _ _ hp] at h1 h2
 exact ⟨h1,h2⟩
theorem Lp.stop (h:Lp ws p most rd fin S' L' acc s) (hpe:∀ s,p s=true→s.e=0) (he:s.e≠0):fin s=S'∧(S'.e=0→acc=L') :=
 h.end_ (by rw [Bool.eq_false_iff];intro h1;exact he (hpe s h1))
theorem Lp.mk_err (hpe:∀ s,p s=true→s.e=0) (he:s.e≠0) (hfe:∀ s,s.e≠0→fin s=s) (acc:List α):Lp ws p most rd fin s L' acc s:=by
 refine ⟨ws.length+1,by omega,?_,fun h=>absurd h he⟩
 rw [er_elems hpe he]
 exact hfe s he
theorem Lp.over (h:Lp ws p most rd fin S' L' acc s) (hlt:s.i<ws.length) (hpe:∀ s,p s=true→s.e=0) (hfe:∀ s,s.e≠0→fin s=s) (hl:acc.length=most) (hp:p s=true):failP 4 s=S':=by
 obtain ⟨f,hf,h1,-⟩:=h
 obtain ⟨f,rfl⟩:∃ k,f=k+1:=⟨f - 1,by omega⟩
 rw [elems_more _ _ _ _ _ _ _ hp] at h1
 have he4:(failP 4 s).e≠0:=fail_ne 4 (by decide) s
 have ha:(addP most rd acc s)=(acc,failP 4 s):=by unfold addP;rw [if_pos hl]
 rw [ha] at h1
 dsimp only at h1
 rw [er_sep he4,er_elems hpe he4] at h1
 rw [← h1]
 exact (hfe _ he4).symm
theorem Lp.go (h:Lp ws p most rd fin S' L' acc s) (hlt:s.i<ws.length) (hpe:∀ s,p s=true→s.e=0) (hfe:∀ s,s.e≠0→fin s=s) (hprog:Prog ws p rd) (hno:acc.length=most→p s=false)
  (hnp:p s=false→(rd s).2=failP 2 s∧fin s=failP 2 s) {y:α} {s1:PSt} (hr:rd s=(y,s1)) (y':α) (hy:s1.e=0→y'=y):Lp ws p most rd fin S' L' (acc++[y']) (sepP ws s1):=by
 by_cases hp:p s=true
 ·obtain ⟨f,hf,h1,h2⟩:=h
  obtain ⟨f,rfl⟩:∃ k,f=k+1:=⟨f - 1,by omega⟩
  rw [elems_more _ _ _ _ _ _ _ hp] at h1 h2
  have ha:(addP most rd acc s)=(acc++[y],s1):=by
   unfold addP
   rw [if_neg (fun e=>by rw [hno e] at hp;cases hp),hr]
  rw [ha] at h1 h2
  dsimp only at h1 h2
  by_cases he:s1.e=0
  ·rw [hy he]
   have hpr:=(hprog s hlt hp).2
   rw [hr] at hpr
   have hm:=(mo_sep ws s1).1
   refine ⟨f,?_,h1,h2⟩
   rcases hpr with hpr | hpr
   ·exact absurd he hpr
   ·have hpr':s.i<s1.i:=hpr
    omega
  ·rw [er_sep he,er_elems hpe he] at h1
   rw [er_sep he]
   obtain rfl:s1=S':=by rw [← h1];exact (hfe s1 he).symm
   exact Lp.mk_err hpe he hfe _
 ·have hp':p s=false:=by simpa using hp
  obtain ⟨h1,h2⟩:=hnp hp'
  obtain ⟨h3,-⟩:=h.end_ hp'
  rw [hr] at h1
  obtain rfl:s1=failP 2 s:=h1
  obtain rfl:failP 2 s=S':=by rw [← h2,h3]
  rw [er_sep (fail2_e s)]
  exact Lp.mk_err hpe (fail2_e s) hfe _
end
def Hp (ws:List TokV) (S':PSt) (A':List (List UInt8)) (B':List Spc) (a:List (List UInt8)) (b:List Spc) (s:PSt):Prop :=
 ∃ f,ws.length<f+s.i∧(headsP ws f a b s).2=S'∧(S'.e=0→(headsP ws f a b s).1=(A',B'))
section
variable {S':PSt} {A' a:List (List UInt8)} {B' b:List Spc} {s:PSt}
theorem heads_done (f:Nat) (h1:isP ws kInclude s=false) (h2:isP ws kNamespace s=false):headsP ws f a b s=((a,b),s):=by
 cases f with
 | zero=>rfl
 | succ f=>unfold headsP;rw [h1,h2];rfl
theorem heads_inc (f:Nat) (h1:isP ws kInclude s=true):headsP ws (f+1) a b s=headsP ws f (addP 5 (incP ws) a s).1 b (addP 5 (incP ws) a s).2:=by
 conv=>lhs;unfold headsP
 rw [if_pos h1]
theorem heads_spc (f:Nat) (h1:isP ws kInclude s=false) (h2:isP ws kNamespace s=true):headsP ws (f+1) a b s=headsP ws f a (addP 5 (spcP ws) b s).1 (addP 5 (spcP ws) b s).2:=by
 conv=>lhs;unfold headsP
 rw [if_neg (by rw [h1];decide),if_pos h2]
theorem Hp.start (h1:(headsP ws (ws.length+1) [] [] s).2=S') (h2:S'.e=0→(headsP ws (ws.length+1) [] [] s).1=(A',B')):Hp ws S' A' B' [] [] s:=⟨_,by omega,h1,h2⟩
theorem Hp.end_ (h:Hp ws S' A' B' a b s) (h1:isP ws kInclude s=false) (h2:isP ws kNamespace s=false):s=S'∧(S'.e=0→a=A'∧b=B'):=by
 obtain ⟨f,-,h3,h4⟩:=h
 rw [heads_done f h1 h2] at h3 h4
 exact ⟨h3,fun e=>by have:=h4 e;simpa using this⟩
theorem Hp.mk_err (he:s.e≠0) (a:List (List UInt8)) (b:List Spc):Hp ws s A' B' a b s:=by
 refine ⟨ws.length+1,by omega,?_,fun h=>absurd h he⟩
 rw [heads_done _ (er_is he) (er_is he)]
theorem Hp.overI (h:Hp ws S' A' B' a b s) (hlt:s.i<ws.length) (h1:isP ws kInclude s=true) (hl:a.length=5):failP 4 s=S':=by
 obtain ⟨f,hf,h3,-⟩:=h
 obtain ⟨f,rfl⟩:∃ k,f=k+1:=⟨f - 1,by omega⟩
 have he4:(failP 4 s).e≠0:=fail_ne 4 (by decide) s
 rw [heads_inc f h1,show addP 5 (incP ws) a s=(a,failP 4 s) by unfold addP;rw [if_pos hl],heads_done _ (er_is he4) (er_is he4)] at h3
 exact h3
theorem Hp.overS (h:Hp ws S' A' B' a b s) (hlt:s.i<ws.length) (h1:isP ws kInclude s=false) (h2:isP ws kNamespace s=true) (hl:b.length=5):failP 4 s=S':=by
 obtain ⟨f,hf,h3,-⟩:=h
 obtain ⟨f,rfl⟩:∃ k,f=k+1:=⟨f - 1,by omega⟩
 have he4:(failP 4 s).e≠0:=fail_ne 4 (by decide) s
 rw [heads_spc f h1 h2,show addP 5 (spcP ws) b s=(b,failP 4 s) by unfold addP;rw [if_pos hl],heads_done _ (er_is he4) (er_is he4)] at h3
 exact h3
theorem Hp.goI (h:Hp ws S' A' B' a b s) (hlt:s.i<ws.length) (h1:isP ws kInclude s=true) (hl:a.length≠5) {x:List UInt8} {s1:PSt} (hr:incP ws s=(x,s1)) (a':List (List UInt8)) (ha:s1.e=0→a'=a++[x]):Hp ws S' A' B' a' b s1:=by
 obtain ⟨f,hf,h3,h4⟩:=h
 obtain ⟨f,rfl⟩:∃ k,f=k+1:=⟨f - 1,by omega⟩
 rw [heads_inc f h1,show addP 5 (incP ws) a s=(a++[x],s1) by unfold addP;rw [if_neg hl,hr]] at h3 h4
 dsimp only at h3 h4
 by_cases he:s1.e=0
 ·have hpr:=(prog_inc ws s hlt h1).2
  rw [hr] at hpr
  rw [ha he]
  refine ⟨f,?_,h3,h4⟩
  rcases hpr with hpr | hpr
  ·exact absurd he hpr
  ·have:s.i<s1.i:=hpr
   omega
 ·rw [heads_done _ (er_is he) (er_is he)] at h3
  obtain rfl:s1=S':=h3
  exact Hp.mk_err he _ _
theorem Hp.goS (h:Hp ws S' A' B' a b s) (hlt:s.i<ws.length) (h1:isP ws kInclude s=false) (h2:isP ws kNamespace s=true) (hl:b.length≠5) {x:Spc} {s1:PSt} (hr:spcP ws s=(x,s1)) (b':List Spc) (hb:s1.e=0→b'=b++[x]):Hp ws S' A' B' a b' s1:=by
 obtain ⟨f,hf,h3,h4⟩:=h
 obtain ⟨f,rfl⟩:∃ k,f=k+1:=⟨f - 1,by omega⟩
 rw [heads_spc f h1 h2,show addP 5 (spcP ws) b s=(b++[x],s1) by unfold addP;rw [if_neg hl,hr]] at h3 h4
 dsimp only at h3 h4
 by_cases he:s1.e=0
 ·have hpr:=(prog_spc ws s hlt h2).2
  rw [hr] at hpr
  rw [hb he]
  refine ⟨f,?_,h3,h4⟩
  rcases hpr with hpr | hpr
  ·exact absurd he hpr
  ·have:s.i<s1.i:=hpr
   omega
 ·rw [heads_done _ (er_is he) (er_is he)] at h3
  obtain rfl:s1=S':=h3
  exact Hp.mk_err he _ _
end
end
end Go.Proofs.YtpfecpcgdfbekaaGreatDoor
namespace Go.Proofs.YtpfecpcgdfbekaaGreatDoor
open Go.RowKit
end Go.Proofs.YtpfecpcgdfbekaaGreatDoor
namespace Go.Proofs.YtpfecpcgdfbekaaGreatDoor
open Go.RowKit
end Go.Proofs.YtpfecpcgdfbekaaGreatDoor
namespace Go.Proofs.YtpfecpcgdfbekaaGreatDoor
open Go.RowKit
set_option maxRecDepth 100000 in
set_option maxHeartbeats 6400000 in
theorem refBase_any (s:ByteArray) (l:List UInt8) (w:World) (hl:Tx s l) :
  Calls Tryz.prog 49 #[.string s] w fun e w'=>e = .returned (.int .i64 (kindW l:Nat))∧w'=w:=by
 rcases kindW_is l with h0 | ⟨h1,h2⟩
 ·have hne:∀ k,isKw k→(s.toList == wordK k)=false:=by
   intro k hk
   rw [beq_eq_false_iff_ne,hl.toL]
   intro e
   rw [e,kindW_word k hk] at h0
   subst h0
   simp [isKw] at hk
  have t2:=hne 2 (by simp [isKw])
  have t3:=hne 3 (by simp [isKw])
  have t4:=hne 4 (by simp [isKw])
  have t6:=hne 6 (by simp [isKw])
  have t8:=hne 8 (by simp [isKw])
  have t10:=hne 10 (by simp [isKw])
  have t11:=hne 11 (by simp [isKw])
  have t13:=hne 13 (by simp [isKw])
  have t14:=hne 14 (by simp [isKw])
  have t15:=hne 15 (by simp [isKw])
  have t16:=hne 16 (by simp [isKw])
  simp only [wordK,reduceIte,Nat.reduceEqDiff] at t2 t3 t4 t6 t8 t10 t11 t13 t14 t15 t16
  rw [h0]
  clear hne hl h0
  go_enter Tryz.func49,Tryz.ntmps49
  go_wp2_with fail
  go_ret
  exact ⟨rfl,rfl⟩
 ·obtain rfl:=hl.eq
  clear hl
  generalize hK:kindW l=k at *
  subst h2
  rcases h1 with rfl | rfl | rfl | rfl | rfl | rfl | rfl | rfl | rfl | rfl | rfl
  all_goals
   clear hK
   simp only [wordK,reduceIte,Nat.reduceEqDiff]
   go_enter Tryz.func49,Tryz.ntmps49
   go_wp2_with fail
   go_ret
   exact ⟨rfl,rfl⟩
end Go.Proofs.YtpfecpcgdfbekaaGreatDoor
namespace Go.Proofs.YtpfecpcgdfbekaaGreatDoor
open Go.RowKit
theorem Tx.cat {s t:ByteArray} {a b:List UInt8} (h:Tx s a) (g:Tx t b):Tx (s++t) (a++b):=by
 unfold Tx at *
 rw [← h,← g]
 simp [ByteArray.data_append]
end Go.Proofs.YtpfecpcgdfbekaaGreatDoor
namespace Go.Proofs.YtpfecpcgdfbekaaGreatDoor
open Go.RowKit
def wdB:List (List UInt8):=[[98,111,111,108],[105,56],[105,49,54],[105,51,50],[105,54,52],[100,111,117,98,108,101],[115,116,114,105,110,103],[98,105,110,97,114,121],[108,105,115,116],[115,101,116],[109,97,112]]
def wdA:Array Value:=#[.string ⟨#[98,111,111,108]⟩,.string ⟨#[105,56]⟩,.string ⟨#[105,49,54]⟩,.string ⟨#[105,51,50]⟩,.string ⟨#[105,54,52]⟩,.string ⟨#[100,111,117,98,108,101]⟩,.string ⟨#[115,116,114,105,110,103]⟩,.string ⟨#[98,105,110,97,114,121]⟩,.string ⟨#[108,105,115,116]⟩,.string ⟨#[115,101,116]⟩,.string ⟨#[109,97,112]⟩]
theorem wd_at (i:Nat) (hi:i<11):∃ (u:ByteArray) (x:List UInt8),wdA[i]? = some (.string u)∧Tx u x∧wdB[i]? = some x∧x=wordK (kindW x):=by
 rcases (show i=0∨i=1∨i=2∨i=3∨i=4∨i=5∨i=6∨i=7∨i=8∨i=9∨i=10 by omega) with rfl | rfl | rfl | rfl | rfl | rfl | rfl | rfl | rfl | rfl | rfl <;> exact ⟨_,_,rfl,rfl,rfl,by decide⟩
theorem wd_all (k:Nat) (hk:isKw k):∃ i,i<11∧∃ x,wdB[i]? = some x∧kindW x=k:=by
 rcases hk with rfl | rfl | rfl | rfl | rfl | rfl | rfl | rfl | rfl | rfl | rfl
 ·exact ⟨0,by decide,_,rfl,by decide⟩
 ·exact ⟨1,by decide,_,rfl,by decide⟩
 ·exact ⟨5,by decide,_,rfl,by decide⟩
 ·exact ⟨2,by decide,_,rfl,by decide⟩
 ·exact ⟨3,by decide,_,rfl,by decide⟩
 ·exact ⟨4,by decide,_,rfl,by decide⟩
 ·exact ⟨6,by decide,_,rfl,by decide⟩
 ·exact ⟨10,by decide,_,rfl,by decide⟩
 ·exact ⟨9,by decide,_,rfl,by decide⟩
 ·exact ⟨8,by decide,_,rfl,by decide⟩
 ·exact ⟨7,by decide,_,rfl,by decide⟩
set_option maxRecDepth 100000 in
set_option maxHeartbeats 3200000 in
theorem rword_any (w:World) (k:Nat) (hk:isKw k) :
  Calls Tryz.prog 124 #[.int .i64 (k:Int)] w fun e w'=>e = .returned (.string ⟨(wordK k).toArray⟩)∧Nx w w':=by
 have HG:=Lib.hid wd_at
 have HA:=Lib.hid (wd_all k hk)
 clear hk
 go_enter Tryz.func124,Tryz.ntmps124
 go_wp2_with fail
 obtain ⟨g,hg⟩:∃ g,w.heap.size=g:=⟨_,rfl⟩
 rw [hg]
 generalize hW:World.alloc w _=W
 have hB0:Blk W g g wdA 9:=by rw [← hW,← hg];exact Blk.new w wdA _
 have hN:Nx w W:=by rw [← hW];exact nx0 _ _
 have HB0:=Lib.hid hB0
 have HN:=Lib.hid hN
 clear hB0 hN hg hW
 go_loopw [4] (fun v wr=>∃ i:Nat,v = .int .i64 i∧i≤11∧Hid (∀ x ∈ wdB.take i,kindW x≠k)∧wr=W) (fun v _=>(11 - intOf v).toNat)
 case atStart=>exact ⟨0,rfl,by decide,by intro x hx;simp at hx,rfl⟩
 case round =>
  obtain ⟨i,rfl,hi,HNO,rfl⟩:=hrel
  by_cases hlt:i<11
  ·obtain ⟨u,x,h1,h2,h3,h4⟩:=HG.out i hlt
   have c1:wr.cell? ⟨g,i,none⟩=some (.string u):=by rw [HB0.out.cell i];exact h1
   have hltI:(i:Int)<11:=by omega
   have HX:=Lib.hid (refBase_any u x wr h2)
   obtain ⟨K,hK⟩:∃ K,kindW x=K:=⟨_,rfl⟩
   rw [hK] at HX h4
   have HH:=Lib.hid h2
   by_cases hx:K=k
   ·subst hx
    have HU:Hid (u=⟨(wordK K).toArray⟩):=by unfold Hid;rw [h2.eq,← h4]
    clear h1 h2 h3 h4 hK HA HNO
    go_wp2_with fail
    refine HX.out.mono ?_;rintro e w' ⟨rfl,rfl⟩
    go_wp2_with fail
    go_ret
    exact ⟨by rw [← HU.out];rfl,HN.out⟩
   ·have hq:((K:Int) == (k:Int))=false:=by rw [beq_eq_false_iff_ne];omega
    have hq2:¬ (K:Int)=(k:Int):=by omega
    have hNO2:Hid (∀ x ∈ wdB.take (i+1),kindW x≠k):=by
     intro y hy
     rw [List.take_add_one,List.mem_append] at hy
     rcases hy with hy | hy
     ·exact HNO.out y hy
     ·rw [h3] at hy
      simp at hy
      subst hy;rw [hK];exact hx
    clear h1 h2 h3 h4 hK hx HNO
    go_wp2_with fail
    refine HX.out.mono ?_;rintro e w' ⟨rfl,rfl⟩
    go_wp2_with fail
    go_roundw
    case rel=>exact ⟨i+1,by go_num,hlt,hNO2,trivial⟩
    case measure=>simp [intOf];omega
  ·obtain rfl:i=11:=by omega
   exfalso
   obtain ⟨j,hj,x,h1,h2⟩:=HA.out
   refine HNO.out x ?_ h2
   rw [List.take_of_length_le (by decide)]
   exact List.mem_of_getElem? h1
set_option maxRecDepth 100000 in
set_option maxHeartbeats 3200000 in
theorem rshow_any (w:World) (k:Nat) (hk:k=13∨k=14∨k=15) (na sa sb:ByteArray) (la lb:List UInt8) (ha:Tx sa la) (hb:Tx sb lb) (h1:(la.length:Int)≤1000000) (h2:(lb.length:Int)≤1000000) :
  Calls Tryz.prog 99 #[.int .i64 (k:Int),.string na,.string sa,.string sb] w fun e w'=>e = .returned (.string ⟨(showS (k:Int) [] la lb).toArray⟩)∧Nx w w':=by
 have hza:sa.size=la.length:=ha.size
 have hzb:sb.size=lb.length:=hb.size
 have HA:=Lib.hid ha
 have HB:=Lib.hid hb
 have HW:=Lib.hid (rword_any w)
 rcases hk with rfl | rfl | rfl
 ·have HS:Hid ((((((⟨#[109,97,112,60]⟩:ByteArray)++sa)++⟨#[44]⟩)++sb)++⟨#[62]⟩)=⟨(showS 13 [] la lb).toArray⟩):=by
   have h:=(((((Tx.of [109,97,112,60]).cat ha).cat (Tx.of [44])).cat hb).cat (Tx.of [62])).eq
   unfold Hid
   rw [show13]
   exact h.trans (by simp [kMap])
  clear ha hb HW
  go_enter Tryz.func99,Tryz.ntmps99
  go_wp2_with fail
  go_ret
  exact ⟨congrArg (fun s=>Ending.returned (Value.string s)) HS.out,Nx.refl _⟩
 ·have HS:Hid (((((⟨(wordK 14).toArray⟩:ByteArray)++⟨#[60]⟩)++sa)++⟨#[62]⟩)=⟨(showS 14 [] la lb).toArray⟩):=by
   have h:=((((Tx.of (wordK 14)).cat (Tx.of [60])).cat ha).cat (Tx.of [62])).eq
   unfold Hid
   rw [show14]
   exact h.trans (by simp [kSet,wordK])
  clear ha hb
  go_enter Tryz.func99,Tryz.ntmps99
  go_wp2_with fail
  refine (HW.out 14 (by simp [isKw])).mono ?_;rintro e w' ⟨rfl,hn⟩
  have HN:=Lib.hid hn
  clear hn
  obtain ⟨S,hS⟩:∃ S:ByteArray,(⟨(wordK 14).toArray⟩:ByteArray)=S:=⟨_,rfl⟩
  have hSz:S.size=3:=by rw [← hS];decide
  rw [hS] at HS ⊢
  clear hS
  go_wp2_with fail
  go_ret
  exact ⟨congrArg (fun s=>Ending.returned (Value.string s)) HS.out,HN.out⟩
 ·have HS:Hid (((((⟨(wordK 15).toArray⟩:ByteArray)++⟨#[60]⟩)++sa)++⟨#[62]⟩)=⟨(showS 15 [] la lb).toArray⟩):=by
   have h:=((((Tx.of (wordK 15)).cat (Tx.of [60])).cat ha).cat (Tx.of [62])).eq
   unfold Hid
   rw [show15]
   exact h.trans (by simp [kList,wordK])
  clear ha hb
  go_enter Tryz.func99,Tryz.ntmps99
  go_wp2_with fail
  refine (HW.out 15 (by simp [isKw])).mono ?_;rintro e w' ⟨rfl,hn⟩
  have HN:=Lib.hid hn
  clear hn
  obtain ⟨S,hS⟩:∃ S:ByteArray,(⟨(wordK 15).toArray⟩:ByteArray)=S:=⟨_,rfl⟩
  have hSz:S.size=4:=by rw [← hS];decide
  rw [hS] at HS ⊢
  clear hS
  go_wp2_with fail
  go_ret
  exact ⟨congrArg (fun s=>Ending.returned (Value.string s)) HS.out,HN.out⟩
end Go.Proofs.YtpfecpcgdfbekaaGreatDoor
namespace Go.Proofs.YtpfecpcgdfbekaaGreatDoor
open Go.RowKit
def TextAt (L:List UInt8) (x:TokV):Prop:=x.k=1∨x.k=5→x.p+x.t.length≤L.length∧(L.take (x.p+x.t.length)).drop x.p=x.t
def Good (L:List UInt8):Nat→List TokV→Prop
 | _,[]=>False
 | o,[x]=>x.k=6∧o≤x.p∧x.p≤L.length
 | o,x :: y :: r=>x.k≠6∧o≤x.p∧x.p≤L.length∧TextAt L x∧Good L (x.p+1) (y :: r)
theorem Good.less {L:List UInt8} {o o':Nat} {ts:List TokV} (h:Good L o ts) (ho:o'≤o):Good L o' ts:=by
 match ts,h with
 | [x],h=>exact ⟨h.1,Nat.le_trans ho h.2.1,h.2.2⟩
 | x :: y :: r,h=>exact ⟨h.1,Nat.le_trans ho h.2.1,h.2.2⟩
theorem Good.at_ {L:List UInt8} {o:Nat} {ts:List TokV} (h:Good L o ts) (i:Nat) (hi:i<ts.length) :
  o≤ts[i].p∧ts[i].p≤L.length∧(ts[i].k=6↔i+1=ts.length)∧TextAt L ts[i]∧∀ j (hj:j+1=i),ts[j].p<ts[i].p:=by
 induction ts generalizing o i with
 | nil=>exact h.elim
 | cons x r ih =>
  cases r with
  | nil =>
   have:i=0:=by simp at hi;exact hi
   subst this
   refine ⟨h.2.1,h.2.2,⟨fun _=>rfl,fun _=>h.1⟩,fun hk=>?_,fun j hj=>by omega⟩
   have h6:x.k=6:=h.1
   rcases hk with hk | hk <;> (have hk':x.k=_:=hk;omega)
  | cons y r =>
   obtain ⟨h1,h2,h3,h4,h5⟩:=h
   cases i with
   | zero=>exact ⟨h2,h3,⟨fun e=>absurd e h1,fun e=>by simp at e⟩,h4,fun j hj=>by omega⟩
   | succ i =>
    obtain ⟨g1,g2,g3,g4,g5⟩:=ih h5 i (by simpa using hi)
    refine ⟨by simp;omega,by simpa using g2,?_,by simpa using g4,fun j hj=>?_⟩
    ·simp at g3 ⊢;exact g3
    ·cases j with
     | zero =>
      have:i=0:=by omega
      subst this
      simp at g1 ⊢
      omega
     | succ j =>
      have:=g5 j (by omega)
      simpa using this
theorem nameS_text (l:List UInt8) (h:(nameS l).1=0):(nameS l).2.1.k=1∧(nameS l).2.1.t=l.take (nameS l).2.1.t.length∧(nameS l).2.1.t.length≤l.length:=by
 have hn:=spanN_le isNmS l
 unfold nameS at h ⊢
 split at h
 ·cases h
 ·rename_i h1
  rw [if_neg h1]
  split at h
  ·cases h
  ·rename_i h2
   rw [if_neg h2]
   refine ⟨rfl,?_,by simp;omega⟩
   dsimp only
   rw [List.length_take,Nat.min_eq_left hn]
theorem numberS_k (l:List UInt8) (h:(numberS l).1=0):(numberS l).2.1.k=2∨(numberS l).2.1.k=3:=by
 unfold numberS at h ⊢
 split at h
 ·rename_i h1;rw [if_pos h1];exact .inl rfl
 ·rename_i h1
  rw [if_neg h1]
  split at h
  ·cases h
  ·rename_i h2
   rw [if_neg h2]
   split
   ·exact .inl rfl
   ·exact .inr rfl
theorem quotedS_k (q:UInt8) (r:List UInt8) (h:(quotedS q r).1=0):(quotedS q r).2.1.k=4:=by
 unfold quotedS at h ⊢
 split at h
 ·cases h
 ·rename_i h1;rw [if_neg h1]
theorem first_text (l:List UInt8) (h:(firstS l).1=0) (hk:(firstS l).2.1.k=1∨(firstS l).2.1.k=5):(firstS l).2.1.t=l.take (firstS l).2.1.t.length∧(firstS l).2.1.t.length≤l.length:=by
 cases l with
 | nil=>simp [firstS] at hk
 | cons c r =>
  rw [show firstS (c :: r)=if isLetS c || decide (c.toNat=95) then nameS (c :: r)
   else if isDig c || decide (c.toNat=43) || decide (c.toNat=45) || decide (c.toNat=46) then numberS (c :: r)
   else if c.toNat=34∨c.toNat=39 then quotedS c r
   else if signsL.contains c then (0,⟨5,[c],0,0,0⟩,1) else (2,tok0,0) from rfl] at h hk ⊢
  split at h
  ·rename_i h1
   rw [if_pos h1] at hk ⊢
   exact (nameS_text _ h).2
  ·rename_i h1
   rw [if_neg h1] at hk ⊢
   split at h
   ·rename_i h2
    rw [if_pos h2] at hk
    rcases numberS_k _ h with e | e <;> rw [e] at hk <;> simp at hk
   ·rename_i h2
    rw [if_neg h2] at hk ⊢
    split at h
    ·rename_i h3
     rw [if_pos h3] at hk
     rw [quotedS_k _ _ h] at hk
     simp at hk
    ·rename_i h3
     rw [if_neg h3] at hk ⊢
     split at h
     ·rename_i h4
      rw [if_pos h4]
      exact ⟨rfl,by simp⟩
     ·cases h
theorem next_text (L:List UInt8) (o:Nat) (h:(nextS o (L.drop o)).1=0) (ho:o≤L.length) :
  o≤(nextS o (L.drop o)).2.2.1.p∧(nextS o (L.drop o)).2.2.1.p≤L.length∧TextAt L (nextS o (L.drop o)).2.2.1 ∧
  ((nextS o (L.drop o)).2.2.1.k≠6→(nextS o (L.drop o)).2.2.1.p+1≤o+(nextS o (L.drop o)).2.2.2):=by
 have hs:=skipS_le (L.drop o)
 rw [List.length_drop] at hs
 generalize hl:L.drop o=l at *
 unfold nextS at h ⊢
 split at h
 ·cases h
 ·rename_i h1
  rw [if_neg h1]
  split at h
  ·rename_i h2;exact absurd h h2
  ·rename_i h2
   rw [if_neg h2]
   have hw:=word_ok (l.drop (skipS l).1) (by simpa using h2)
   rw [hw.1]
   dsimp only
   have hdd:l.drop (skipS l).1=L.drop (o+(skipS l).1):=by rw [← hl,List.drop_drop]
   refine ⟨by omega,by omega,fun hk=>?_,fun h6=>?_⟩
   ·dsimp only at hk ⊢
    have:=first_text _ hw.2 hk
    rw [hdd] at this ⊢
    obtain ⟨t1,t2⟩:=this
    rw [List.length_drop] at t2
    refine ⟨by omega,?_⟩
    rw [List.drop_take]
    rw [show o+(skipS l).1+(firstS (L.drop (o+(skipS l).1))).2.1.t.length - (o+(skipS l).1)=(firstS (L.drop (o+(skipS l).1))).2.1.t.length by omega]
    exact t1.symm
   ·have:=first_pos _ hw.2 h6
    omega
theorem lexF_good (L:List UInt8):∀ (f o:Nat),o≤L.length→L.length - o<f→(lexF f o (L.drop o)).2.1=0→Good L o (lexF f o (L.drop o)).1:=by
 intro f
 induction f with
 | zero=>intro o _ h;omega
 | succ f ih =>
  intro o ho hf he
  by_cases hn:(nextS o (L.drop o)).1=0
  ·obtain ⟨n1,n2,n3,n4⟩:=next_text L o hn ho
   have hl:=next_len o (L.drop o) hn
   rw [List.length_drop] at hl
   by_cases h6:(nextS o (L.drop o)).2.2.1.k=6
   ·rw [lexF_end f o _ hn h6]
    exact ⟨h6,n1,n2⟩
   ·have hc:=lexF_more f o _ hn h6 []
    rw [cat_nil _ (lexF_zero _ _ _)] at hc
    rw [hc] at he ⊢
    rw [List.drop_drop] at he ⊢
    have h1:=hl.2.1 h6
    have ih':=ih (o+(nextS o (L.drop o)).2.2.2) (by omega) (by omega)
    generalize hr:lexF f (o+(nextS o (L.drop o)).2.2.2) (L.drop (o+(nextS o (L.drop o)).2.2.2))=r at *
    unfold cat at he ⊢
    by_cases h0:r.2.1=0
    ·rw [if_neg (by simpa using h0)]
     have g:=ih' h0
     have h4:=n4 h6
     dsimp only
     cases hr1:r.1 with
     | nil=>rw [hr1] at g;exact g.elim
     | cons y ys =>
      rw [hr1] at g
      exact ⟨h6,n1,n2,n3,g.less h4⟩
    ·rw [if_pos h0] at he;exact absurd he h0
  ·rw [lexF_err f o _ hn] at he;exact absurd he hn
theorem lexF_bad (L:List UInt8):∀ (f o:Nat),o≤L.length→(lexF f o (L.drop o)).2.1≠0→(lexF f o (L.drop o)).1=[]∧(lexF f o (L.drop o)).2.2≤L.length:=by
 intro f
 induction f with
 | zero=>intro o _ h;exact absurd rfl h
 | succ f ih =>
  intro o ho he
  by_cases hn:(nextS o (L.drop o)).1=0
  ·have hl:=next_len o (L.drop o) hn
   rw [List.length_drop] at hl
   by_cases h6:(nextS o (L.drop o)).2.2.1.k=6
   ·rw [lexF_end f o _ hn h6] at he;exact absurd rfl he
   ·have hc:=lexF_more f o _ hn h6 []
    rw [cat_nil _ (lexF_zero _ _ _)] at hc
    rw [hc] at he ⊢
    rw [List.drop_drop] at he ⊢
    have ih':=ih (o+(nextS o (L.drop o)).2.2.2) (by omega)
    generalize hr:lexF f (o+(nextS o (L.drop o)).2.2.2) (L.drop (o+(nextS o (L.drop o)).2.2.2))=r at *
    unfold cat at he ⊢
    by_cases h0:r.2.1=0
    ·rw [if_neg (by simpa using h0)] at he;exact absurd rfl he
    ·rw [if_pos h0];exact ih' h0
  ·rw [lexF_err f o _ hn]
   refine ⟨rfl,?_⟩
   dsimp only
   have hs:=skipS_le (L.drop o)
   rw [List.length_drop] at hs
   unfold nextS
   split
   ·dsimp only;omega
   ·split
    ·dsimp only
     have:(wordS ((L.drop o).drop (skipS (L.drop o)).1)).2.1≤((L.drop o).drop (skipS (L.drop o)).1).length:=by
      have:=first_len ((L.drop o).drop (skipS (L.drop o)).1)
      unfold wordS
      split
      ·exact Nat.zero_le _
      ·split
       ·exact this
       ·exact Nat.zero_le _
     simp at this ⊢
     omega
    ·exact Nat.zero_le _
theorem lex_places (L:List UInt8):((lexS L).2.1=0→Good L 0 (lexS L).1)∧((lexS L).2.1≠0→(lexS L).1=[]∧(lexS L).2.2≤L.length):=by
 unfold lexS
 split
 ·exact ⟨fun h=>by simp at h,fun _=>⟨rfl,Nat.zero_le _⟩⟩
 ·have h1:=lexF_good L (L.length+1) 0 (Nat.zero_le _) (by omega)
  have h2:=lexF_bad L (L.length+1) 0 (Nat.zero_le _)
  rw [List.drop_zero] at h1 h2
  exact ⟨h1,h2⟩
end Go.Proofs.YtpfecpcgdfbekaaGreatDoor
namespace Go.Proofs.YtpfecpcgdfbekaaGreatDoor
open Go.RowKit
def NmL (l:List UInt8):Prop:=(∃ c r,l=c :: r∧(isLetS c || decide (c.toNat=95))=true)∧(∀ c ∈ l,isNmS c=true)∧l.length≤120∧dotBad l=false
theorem nms_far (c:UInt8) (h:isNmS c=true):isWhS c=false∧c≠35∧c≠47:=by
 have hx:∀ n:Fin 256,isNmS (UInt8.ofNat n.1)=true→isWhS (UInt8.ofNat n.1)=false∧UInt8.ofNat n.1≠35∧UInt8.ofNat n.1≠47:=by decide +kernel
 have:=hx ⟨c.toNat,c.toNat_lt⟩
 simp only [UInt8.ofNat_toNat] at this
 exact this h
theorem gap_none (c:UInt8) (r:List UInt8) (h:isNmS c=true):skipS (c :: r)=(0,true):=by
 have hw:isWhS c=false∧c≠35∧c≠47:=by
  revert h
  exact nms_far c
 have hg:gapS (c :: r)=(0,true):=by
  unfold gapS
  dsimp only
  rw [if_neg (by rintro (h | ⟨h,-⟩) <;> simp_all),if_neg (by rintro ⟨h,-⟩;simp_all)]
  unfold spanN
  rw [hw.1]
  rfl
 rw [skipS_step,hg]
 rfl
theorem NmL.first {l r:List UInt8} (h:NmL l) (hr:r=[]∨∃ c t,r=c :: t∧isNmS c=false):firstS (l++r)=(0,⟨1,l,0,0,0⟩,l.length):=by
 obtain ⟨⟨c,q,hc,hl⟩,hall,hlen,hdot⟩:=h
 have hs:spanN isNmS (l++r)=l.length:=by
  refine spanN_is _ _ _ (by simp) (by simpa using hall) ?_
  rw [List.drop_left]
  exact hr
 have hf:firstS (l++r)=nameS (l++r):=by
  subst hc
  exact if_pos hl
 rw [hf]
 unfold nameS
 rw [hs,if_neg (by omega),List.take_left,hdot]
 rfl
theorem NmL.word {l r:List UInt8} (h:NmL l) (hr:r=[]∨∃ c t,r=c :: t∧isNmS c=false):wordS (l++r)=(0,0,⟨1,l,0,0,0⟩,l.length):=by
 unfold wordS
 rw [h.first hr]
 rfl
theorem NmL.next {l r:List UInt8} (h:NmL l) (hr:r=[]∨∃ c t,r=c :: t∧isNmS c=false) (o:Nat):nextS o (l++r)=(0,0,⟨1,l,0,0,o⟩,l.length):=by
 have hw:=h.word hr
 obtain ⟨⟨c,q,hc,hl⟩,hall,hlen,hdot⟩:=h
 have hsk:skipS (l++r)=(0,true):=by
  subst hc
  exact gap_none c (q++r) (hall c (by simp))
 unfold nextS
 rw [hsk]
 dsimp only
 rw [List.drop_zero,hw]
 simp
theorem lexF_consQ {f o n:Nat} {l:List UInt8} {t:TokV} {ts:List TokV} (h:nextS o l=(0,0,t,n)) (hk:t.k≠6) (ht:lexF f (o+n) (l.drop n)=(ts,0,0)):lexF (f+1) o l=(t :: ts,0,0):=by
 unfold lexF
 rw [h]
 dsimp only
 rw [if_neg (by simp),if_neg hk,ht]
 rfl
theorem lexF_endQ {f o n:Nat} {l:List UInt8} {t:TokV} (h:nextS o l=(0,0,t,n)) (hk:t.k=6):lexF (f+1) o l=([t],0,0):=by
 unfold lexF
 rw [h]
 dsimp only
 rw [if_neg (by simp),if_pos hk]
end Go.Proofs.YtpfecpcgdfbekaaGreatDoor
