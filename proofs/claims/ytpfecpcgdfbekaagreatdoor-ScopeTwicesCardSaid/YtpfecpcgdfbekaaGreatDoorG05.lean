/- A word, in the document's steps. Plain lemmas. The walk of HybE, where a value may be taken out of a pair behind the store too. Plain. -/
import Derived.Test.YtpfecpcgdfbekaaGreatDoorG04
set_option linter.unusedVariables false
set_option linter.unusedSimpArgs false
set_option linter.unnecessarySimpa false
namespace Go.Proofs.YtpfecpcgdfbekaaGreatDoor
open Go.RowKit
theorem isLt_iff (c:UInt8):isLtS c=(isLetS c || decide (c.toNat=95)):=by
 unfold isLtS
 cases isLetS c <;> simp
theorem first_cons (c:UInt8) (r:List UInt8):firstS (c :: r)=if isLtS c=true then nameS (c :: r)
   else if isDig c || decide (c.toNat=43) || decide (c.toNat=45) || decide (c.toNat=46) then numberS (c :: r)
   else if c.toNat=34∨c.toNat=39 then quotedS c r
   else if signsL.contains c then (0,⟨5,[c],0,0,0⟩,1) else (2,tok0,0):=by
 rw [isLt_iff];rfl
theorem word_name (c:UInt8) (r:List UInt8) (h:isLtS c=true):wordS (c :: r)=((nameS (c :: r)).1,0,(nameS (c :: r)).2):=by
 unfold wordS
 rw [first_cons,if_pos h]
 unfold nameS
 split
 ·rfl
 ·split
  ·rfl
  ·rfl
theorem frac_head (l:List UInt8):fracN l≠0↔l.head? = some 46∧hasD (l.drop 1)=true:=by
 cases l with
 | nil=>simp [fracN]
 | cons c r =>
  rw [fracN_parts]
  have:c.toNat=46↔c=46:=by
   constructor
   ·intro h;exact UInt8.toNat.inj h
   ·rintro rfl;rfl
  by_cases h:c.toNat=46∧hasD r=true
  ·rw [if_pos h];simp [this.1 h.1,h.2]
  ·rw [if_neg h]
   simp only [ne_eq,not_true_eq_false,false_iff]
   rintro ⟨h1,h2⟩
   simp at h1
   exact h ⟨this.2 h1,h2⟩
theorem decN_iff (l:List UInt8):decN l≠0↔hasD (l.drop (sgnN l))=true∨((l.drop (sgnN l)).head? = some 46∧hasD ((l.drop (sgnN l)).drop 1)=true):=by
 rw [← frac_head,hasD_iff]
 have e:decN l≠0↔digN (l.drop (sgnN l))+fracN (l.drop (sgnN l+digN (l.drop (sgnN l))))≠0:=by
  unfold decN
  dsimp only
  by_cases h:digN (l.drop (sgnN l))+fracN (l.drop (sgnN l+digN (l.drop (sgnN l))))=0
  ·rw [if_pos h];simp [h]
  ·rw [if_neg h]
   constructor
   ·intro _;exact h
   ·intro _ h2;omega
 rw [e]
 by_cases h:digN (l.drop (sgnN l))=0
 ·rw [h,Nat.add_zero];simp
 ·simp [h]
theorem decN_start (c:UInt8) (r:List UInt8):decN (c :: r)≠0↔isDig c=true∨(c.toNat=46∧hasD r=true)∨((c.toNat=43∨c.toNat=45)∧(hasD r=true∨(r.head? = some 46∧hasD (r.drop 1)=true))):=by
 have h46:(c=46)↔c.toNat=46:=by
  constructor
  ·rintro rfl;rfl
  ·intro h;exact UInt8.toNat.inj h
 rw [decN_iff]
 rcases sign_case c r with ⟨h1,h2⟩ | ⟨h1,h3,h2⟩ | ⟨h1,h3,h2⟩
 ·rw [h2]
  have hd:isDig c=false:=by
   cases h:isDig c
   ·rfl
   ·have:=(isDig_iff c).1 h;omega
  simp [hd,h1]
 ·rw [h2]
  have hd:isDig c=false:=by
   cases h:isDig c
   ·rfl
   ·have:=(isDig_iff c).1 h;omega
  simp [hd,h3]
 ·rw [h2,List.drop_zero]
  simp [h1,h3,hasD,h46]
theorem hex_dec (c:UInt8) (r:List UInt8) (h:hexN (c :: r)≠0):decN (c :: r)≠0:=by
 rw [decN_start]
 obtain ⟨⟨h1,-⟩,-⟩:=(hex_starts _).1 h
 simp at h1
 subst h1
 exact .inl rfl
theorem decN_end (l:List UInt8) (h:decN l≠0):l.drop (decN l)=[]∨∃ c t,l.drop (decN l)=c :: t∧isDig c=false:=by
 obtain ⟨S,D,F,X,hP⟩:=parts_of l h
 obtain ⟨e,hle⟩:=hP.len
 by_cases hX:X=0
 ·by_cases hF:F=0
  ·have hd:=hP.d
   have:=spanN_drop isDig (l.drop S)
   rw [show spanN isDig (l.drop S)=D from hd,List.drop_drop] at this
   rw [e,hX,hF,Nat.add_zero,Nat.add_zero];exact this
  ·have hf:=hP.f
   generalize hm:l.drop (S+D)=m at hf
   cases m with
   | nil=>exact absurd hf (fun h=>hF h.symm)
   | cons c r =>
    rw [fracN_parts] at hf
    split at hf
    ·have:=spanN_drop isDig r
     rw [show spanN isDig r=digN r from rfl] at this
     have e2:l.drop (decN l)=r.drop (digN r):=by
      rw [e,hX,Nat.add_zero,← hf,← Nat.add_assoc,← List.drop_drop,hm,Nat.add_comm 1,List.drop_succ_cons]
     rw [e2];exact this
    ·exact absurd hf (fun h=>hF h.symm)
 ·have hx:=hP.x
  generalize hm:l.drop (S+(D+F))=m at hx
  cases m with
  | nil=>exact absurd hx (fun h=>hX h.symm)
  | cons c r =>
   rw [expN_parts] at hx
   split at hx
   ·have:=spanN_drop isDig (r.drop (sgnN r))
    rw [show spanN isDig (r.drop (sgnN r))=digN (r.drop (sgnN r)) from rfl,List.drop_drop] at this
    have e2:l.drop (decN l)=r.drop (sgnN r+digN (r.drop (sgnN r))):=by
     rw [e,← hx,← List.drop_drop,hm,Nat.add_assoc,Nat.add_comm 1,List.drop_succ_cons]
    rw [e2];exact this
   ·exact absurd hx (fun h=>hX h.symm)
theorem hexN_end (l:List UInt8) (h:hexN l≠0):l.drop (hexN l)=[]∨∃ c t,l.drop (hexN l)=c :: t∧isDig c=false:=by
 match l with
 | []=>exact absurd rfl h
 | [x]=>exact absurd rfl h
 | x :: y :: r =>
  have e:hexN (x :: y :: r)=if x=48∧y=120∧spanN isHexS r≠0 then 2+spanN isHexS r else 0:=rfl
  rw [e] at h ⊢
  split at h
  ·rename_i h1
   rw [if_pos h1,Nat.add_comm 2,List.drop_succ_cons,List.drop_succ_cons]
   rcases spanN_drop isHexS r with h2 | ⟨c,t,h2,h3⟩
   ·exact .inl h2
   ·refine .inr ⟨c,t,h2,?_⟩
    unfold isHexS at h3
    simp at h3
    exact h3.1.1
  ·exact absurd rfl h
theorem gos_eq (l:List UInt8) (h:l=[]∨∃ c t,l=c :: t∧isDig c=false):goesS l=gosR l:=by
 rcases h with rfl | ⟨c,t,rfl,h⟩
 ·rfl
 ·show isNmS c=(isLtS c || decide (c.toNat=46))
  rw [isNm_iff,h,Bool.or_false]
theorem word_num (c:UInt8) (r:List UInt8) (h:isLtS c=false) (hd:decN (c :: r)≠0):wordS (c :: r)=numW (c :: r):=by
 have hc:(isDig c || decide (c.toNat=43) || decide (c.toNat=45) || decide (c.toNat=46))=true:=by
  rcases (decN_start c r).1 hd with h | ⟨h,-⟩ | ⟨h | h,-⟩ <;> simp [h]
 have hf:firstS (c :: r)=numberS (c :: r):=by rw [first_cons,if_neg (by rw [h];decide),if_pos hc]
 unfold wordS numW
 rw [hf]
 by_cases h0:(numberS (c :: r)).1=0
 ·have h00:¬ (numberS (c :: r)).1≠0:=fun h=>h h0
  rw [if_neg h00,if_neg h00]
  have hk:numTok (numberS (c :: r)).2.1=true∧goesS ((c :: r).drop (numberS (c :: r)).2.2)=gosR ((c :: r).drop (numberS (c :: r)).2.2):=by
   unfold numberS
   by_cases hx:hexN (c :: r)≠0
   ·rw [if_pos hx];exact ⟨rfl,gos_eq _ (hexN_end _ hx)⟩
   ·rw [if_neg hx,if_neg hd]
    split
    ·exact ⟨rfl,gos_eq _ (decN_end _ hd)⟩
    ·exact ⟨rfl,gos_eq _ (decN_end _ hd)⟩
  rw [hk.1,hk.2,Bool.true_and]
 ·rw [if_pos h0,if_pos h0]
theorem word_bad (c:UInt8) (r:List UInt8) (h:isLtS c=false) (hc:(isDig c || decide (c.toNat=43) || decide (c.toNat=45) || decide (c.toNat=46))=true) (hd:decN (c :: r)=0):wordS (c :: r)=(2,0,tok0,0):=by
 have hf:firstS (c :: r)=numberS (c :: r):=by rw [first_cons,if_neg (by rw [h];decide),if_pos hc]
 have hx:¬ hexN (c :: r)≠0:=fun hx=>hex_dec c r hx hd
 unfold wordS
 rw [hf]
 unfold numberS
 rw [if_neg hx,if_pos hd]
 rfl
def quoteM (q:UInt8) (r:List UInt8):Nat:=spanN (fun c=>decide (c≠q) && decide (c≠10)) r
theorem quote_m (q:UInt8) (hq:q≠10) (r:List UInt8):(quoteN q r=r.length∨lineN r<quoteN q r→(r.drop (quoteM q r)=[]∨∃ t,r.drop (quoteM q r)=10 :: t)) ∧
  (¬ (quoteN q r=r.length∨lineN r<quoteN q r)→quoteN q r=quoteM q r∧∃ t,r.drop (quoteM q r)=q :: t):=by
 induction r with
 | nil=>exact ⟨fun _=>.inl rfl,fun h=>absurd (.inl rfl) h⟩
 | cons c r ih =>
  by_cases h1:c=q
  ·subst h1
   have e1:quoteM c (c :: r)=0:=by unfold quoteM spanN;simp
   have e2:quoteN c (c :: r)=0:=by unfold quoteN spanN;simp
   rw [e1,e2]
   refine ⟨fun h=>?_,fun _=>⟨rfl,r,rfl⟩⟩
   simp at h
  ·by_cases h2:c=10
   ·subst h2
    have e1:quoteM q (10 :: r)=0:=by unfold quoteM spanN;simp
    have e2:quoteN q (10 :: r)=quoteN q r+1:=by unfold quoteN;conv=>{ lhs;unfold spanN };rw [if_pos];simp [Ne.symm hq]
    have e3:lineN (10 :: r)=0:=by unfold lineN spanN;simp
    rw [e1,e2,e3]
    refine ⟨fun _=>.inr ⟨r,rfl⟩,fun h=>absurd (.inr (Nat.succ_pos _)) h⟩
   ·have e1:quoteM q (c :: r)=quoteM q r+1:=by unfold quoteM;conv=>{ lhs;unfold spanN };rw [if_pos];simp [h1,h2]
    have e2:quoteN q (c :: r)=quoteN q r+1:=by unfold quoteN;conv=>{ lhs;unfold spanN };rw [if_pos];simp [h1]
    have e3:lineN (c :: r)=lineN r+1:=by unfold lineN;conv=>{ lhs;unfold spanN };rw [if_pos];simp [h2]
    rw [e1,e2,e3,List.drop_succ_cons,List.length_cons]
    have i1:(quoteN q r+1=r.length+1∨lineN r+1<quoteN q r+1)↔(quoteN q r=r.length∨lineN r<quoteN q r):=by omega
    rw [i1]
    refine ⟨ih.1,fun h=>?_⟩
    obtain ⟨a,b⟩:=ih.2 h
    exact ⟨by rw [a],b⟩
theorem word_quote (c:UInt8) (r:List UInt8) (hc:c.toNat=34∨c.toNat=39):(r.drop (quoteM c r)=[]∨∃ t,r.drop (quoteM c r)=10 :: t)∧wordS (c :: r)=(2,0,tok0,0) ∨
  (∃ t,r.drop (quoteM c r)=c :: t)∧wordS (c :: r)=(0,0,⟨4,r.take (quoteM c r),0,0,0⟩,quoteM c r+2):=by
 have h1:isLtS c=false:=by
  rw [isLt_iff];unfold isLetS
  rcases hc with h | h <;> simp [h]
 have h2:(isDig c || decide (c.toNat=43) || decide (c.toNat=45) || decide (c.toNat=46))=false:=by
  have hd:isDig c=false:=by
   cases h:isDig c
   ·rfl
   ·have:=(isDig_iff c).1 h;omega
  rcases hc with h | h <;> simp [h,hd]
 have hq:c≠10:=by rintro rfl;revert hc;decide
 have hf:firstS (c :: r)=quotedS c r:=by rw [first_cons,if_neg (by rw [h1];decide),if_neg (by rw [h2];decide),if_pos hc]
 have hm:=quote_m c hq r
 unfold wordS
 rw [hf]
 unfold quotedS
 by_cases h:quoteN c r=r.length∨lineN r<quoteN c r
 ·rw [if_pos h]
  exact .inl ⟨hm.1 h,rfl⟩
 ·rw [if_neg h]
  obtain ⟨e,ht⟩:=hm.2 h
  rw [e]
  exact .inr ⟨ht,rfl⟩
theorem word_sign (c:UInt8) (r:List UInt8) (h1:isLtS c=false) (h2:(isDig c || decide (c.toNat=43) || decide (c.toNat=45) || decide (c.toNat=46))=false) (h3:¬ (c.toNat=34∨c.toNat=39)) :
  wordS (c :: r)=if signsL.contains c then (0,0,⟨5,[c],0,0,0⟩,1) else (2,0,tok0,0):=by
 have hf:firstS (c :: r)=if signsL.contains c then (0,⟨5,[c],0,0,0⟩,1) else (2,tok0,0):=by rw [first_cons,if_neg (by rw [h1];decide),if_neg (by rw [h2];decide),if_neg h3]
 unfold wordS
 rw [hf]
 cases signsL.contains c <;> rfl
theorem sign_byte (i:Nat) (hi:i<13):∃ (x:UInt8) (hp:i<(ByteArray.mk #[123,125,40,41,91,93,60,62,44,59,58,61,42]).size),(ByteArray.mk #[123,125,40,41,91,93,60,62,44,59,58,61,42])[i]'hp=x∧signsL[i]? = some x:=by
 refine ⟨_,hi,rfl,?_⟩
 unfold signsL
 simp [ByteArray.getElem_eq_getElem_data]
theorem third_at (s:ByteArray) (l:List UInt8) (o:Nat) (c d:UInt8) (r2:List UInt8) (hl:Tx s l) (h:l.drop o=c :: d :: r2) (ho7:(o:Int)≤7000) :
  (decide ((o:Int)+2<(l.length:Int))=false∧hasD r2=false) ∨
  (∃ (e:UInt8) (K:Nat) (hp:K<s.size),(o:Int)+2=(K:Int)∧decide ((o:Int)+2<(l.length:Int))=true∧decide ((K:Int)<(l.length:Int))=true∧(K:Int)<(s.size:Int)∧IntKind.i64.wrap (K:Int)=(K:Int)∧s[K]'hp=e∧isDig e=hasD r2):=by
 have hd:l.drop (o+2)=r2:=by rw [← List.drop_drop,h];rfl
 cases r2 with
 | nil =>
  left
  rw [List.drop_eq_nil_iff] at hd
  exact ⟨decide_eq_false (by omega),rfl⟩
 | cons e t =>
  right
  obtain ⟨h1,h2,h3⟩:=hl.byte (o+2) e t hd
  exact ⟨e,o+2,h2,by omega,decide_eq_true (by omega),decide_eq_true (by omega),by omega,by rw [IntKind.wrap_i64];omega,h3,rfl⟩
theorem word_cases (s:ByteArray) (l:List UInt8) (o:Nat) (c:UInt8) (r:List UInt8) (d:UInt8) (W:Nat×Nat×TokV×Nat) (DC DN:Bool) (hl:Tx s l) (hcr:l.drop o=c :: r) (hLC:isLtS c=false) (hDC:isDig c=DC) (hDN:isDig d=DN)
  (hd:r.headD 0=d) (hdr:hasD r=isDig d) (hW:wordS (c :: r)=W) (ho7:(o:Int)≤7000) :
  (decN (c :: r)≠0∧(DC=true∨(DC=false∧((c.toNat:Int) == 46)=true∧DN=true) ∨
       (DC=false∧((c.toNat:Int) == 46)=false∧(((c.toNat:Int) == 43)=true∨((c.toNat:Int) == 43)=false∧((c.toNat:Int) == 45)=true) ∧
        (DN=true∨(DN=false∧((d.toNat:Int) == 46)=true∧∃ (e:UInt8) (K:Nat) (hp:K<s.size),(o:Int)+2=(K:Int)∧decide ((o:Int)+2<(l.length:Int))=true∧decide ((K:Int)<(l.length:Int))=true∧(K:Int)<(s.size:Int)∧IntKind.i64.wrap (K:Int)=(K:Int)∧s[K]'hp=e∧isDig e=true))))) ∨
      (W=(2,0,tok0,0)∧DC=false∧((c.toNat:Int) == 46)=false∧(((c.toNat:Int) == 43)=true∨((c.toNat:Int) == 43)=false∧((c.toNat:Int) == 45)=true)∧DN=false ∧
        (((d.toNat:Int) == 46)=false∨(((d.toNat:Int) == 46)=true∧(decide ((o:Int)+2<(l.length:Int))=false∨∃ (e:UInt8) (K:Nat) (hp:K<s.size),(o:Int)+2=(K:Int)∧decide ((o:Int)+2<(l.length:Int))=true∧decide ((K:Int)<(l.length:Int))=true∧(K:Int)<(s.size:Int)∧IntKind.i64.wrap (K:Int)=(K:Int)∧s[K]'hp=e∧isDig e=false)))) ∨
      (DC=false∧((c.toNat:Int) == 46)=false∧((c.toNat:Int) == 43)=false∧((c.toNat:Int) == 45)=false∧(((c.toNat:Int) == 34)=true∨((c.toNat:Int) == 34)=false∧((c.toNat:Int) == 39)=true)) ∨
      (W=(if signsL.contains c then (0,0,⟨5,[c],0,0,0⟩,1) else (2,0,tok0,0))∧DC=false∧(((c.toNat:Int) == 46)=false∨((c.toNat:Int) == 46)=true∧DN=false)∧((c.toNat:Int) == 43)=false∧((c.toNat:Int) == 45)=false∧((c.toNat:Int) == 34)=false∧((c.toNat:Int) == 39)=false):=by
 have yes:∀ (x:UInt8) (n:Nat),x.toNat=n→((x.toNat:Int) == (n:Int))=true:=fun x n h=>by rw [beq_iff_eq];omega
 have no:∀ (x:UInt8) (n:Nat),x.toNat≠n→((x.toNat:Int) == (n:Int))=false:=fun x n h=>by rw [beq_eq_false_iff_ne];omega
 have dig:∀ n,c.toNat=n→n<48→DC=false:=fun n h1 h2=>by
  rw [← hDC]
  cases h:isDig c
  ·rfl
  ·have:=(isDig_iff c).1 h;omega
 have d46:r.head? = some 46↔d.toNat=46:=by
  rw [← hd]
  cases r with
  | nil=>simp
  | cons e t =>
   simp only [List.head?_cons,List.headD_cons,Option.some.injEq]
   constructor
   ·rintro rfl;rfl
   ·intro h;exact UInt8.toNat.inj h
 have third:r.head? = some 46→∃ r2,r.drop 1=r2∧l.drop o=c :: d :: r2:=by
  intro h
  cases r with
  | nil=>cases h
  | cons e t=>refine ⟨t,rfl,?_⟩;rw [hcr,← hd];rfl
 by_cases hn:decN (c :: r)≠0
 ·left
  refine ⟨hn,?_⟩
  rcases (decN_start c r).1 hn with h | ⟨h46,hh⟩ | ⟨hs,hh⟩
  ·left;rw [← hDC];exact h
  ·right;left
   exact ⟨dig 46 h46 (by decide),yes c 46 h46,by rw [← hDN,← hdr];exact hh⟩
  ·right;right
   refine ⟨by rcases hs with h | h <;> exact dig _ h (by decide),no c 46 (by omega),hs.elim (fun h=>.inl (yes c 43 h)) (fun h=>.inr ⟨no c 43 (by omega),yes c 45 h⟩),?_⟩
   cases DN
   ·right
    rcases hh with hh | ⟨h1,h2⟩
    ·rw [hdr,hDN] at hh;cases hh
    ·obtain ⟨r2,e1,e2⟩:=third h1
     refine ⟨rfl,yes d 46 (d46.1 h1),?_⟩
     rcases third_at s l o c d r2 hl e2 ho7 with ⟨-,h3⟩ | ⟨e,K,hp,q1,q2,q3,q4,q5,q6,q7⟩
     ·rw [e1,h3] at h2;cases h2
     ·exact ⟨e,K,hp,q1,q2,q3,q4,q5,q6,by rw [q7,← e1];exact h2⟩
   ·exact .inl rfl
 ·right
  have hn0:decN (c :: r)=0:=by omega
  have hst:=fun h=>hn ((decN_start c r).2 h)
  have hc0:DC=false:=by
   cases hD:DC
   ·rfl
   ·exact absurd (.inl (hDC.trans hD)) hst
  by_cases hs:c.toNat=43∨c.toNat=45
  ·left
   have hbad:W=(2,0,tok0,0):=by rw [← hW];exact word_bad c r hLC (by rcases hs with h | h <;> simp [h]) hn0
   have hno:DN=false:=by
    cases hD:DN
    ·rfl
    ·exact absurd (.inr (.inr ⟨hs,.inl (hdr.trans (hDN.trans hD))⟩)) hst
   refine ⟨hbad,hc0,no c 46 (by omega),hs.elim (fun h=>.inl (yes c 43 h)) (fun h=>.inr ⟨no c 43 (by omega),yes c 45 h⟩),hno,?_⟩
   by_cases h46:d.toNat=46
   ·right
    refine ⟨yes d 46 h46,?_⟩
    obtain ⟨r2,e1,e2⟩:=third (d46.2 h46)
    rcases third_at s l o c d r2 hl e2 ho7 with ⟨h3,-⟩ | ⟨e,K,hp,q1,q2,q3,q4,q5,q6,q7⟩
    ·exact .inl h3
    ·right
     refine ⟨e,K,hp,q1,q2,q3,q4,q5,q6,?_⟩
     cases hE:isDig e
     ·rfl
     ·exact absurd (.inr (.inr ⟨hs,.inr ⟨d46.2 h46,by rw [e1,← q7];exact hE⟩⟩)) hst
   ·exact .inl (no d 46 h46)
  ·right
   have n43:c.toNat≠43:=fun h=>hs (.inl h)
   have n45:c.toNat≠45:=fun h=>hs (.inr h)
   by_cases h46:c.toNat=46
   ·right
    have hbad:W=(2,0,tok0,0):=by rw [← hW];exact word_bad c r hLC (by simp [h46]) hn0
    have hc:c=46:=UInt8.toNat.inj h46
    have hno:DN=false:=by
     cases hD:DN
     ·rfl
     ·exact absurd (.inr (.inl ⟨h46,hdr.trans (hDN.trans hD)⟩)) hst
    refine ⟨?_,hc0,.inr ⟨yes c 46 h46,hno⟩,no c 43 n43,no c 45 n45,no c 34 (by omega),no c 39 (by omega)⟩
    rw [hbad,hc];rfl
   ·by_cases hq:c.toNat=34∨c.toNat=39
    ·left
     exact ⟨hc0,no c 46 h46,no c 43 n43,no c 45 n45,hq.elim (fun h=>.inl (yes c 34 h)) (fun h=>.inr ⟨no c 34 (by omega),yes c 39 h⟩)⟩
    ·right
     refine ⟨?_,hc0,.inl (no c 46 h46),no c 43 n43,no c 45 n45,no c 34 (fun h=>hq (.inl h)),no c 39 (fun h=>hq (.inr h))⟩
     rw [← hW]
     exact word_sign c r hLC (by rw [hDC,hc0];simp [n43,n45,h46]) hq
end Go.Proofs.YtpfecpcgdfbekaaGreatDoor
namespace Go.Proofs.YtpfecpcgdfbekaaGreatDoor
open Go.RowKit
theorem YG.any {P:Program} {ops:Array Oper} {w w':World} {o:Oper} {v:Value} {a:Act} {x:Operand} {n:Nat} (ho:o.op = .extract x n) (h:YG P ops w o v a):YG P ops w' o v a:=by
 rcases h with ⟨h1,h2⟩ | h
 ·refine .inl ⟨h1,fun y=>?_⟩
  have h:=h2 ⟨w,Nx.refl w⟩
  unfold Oper.quietAt at *
  have e:execOp a.eval o=(do pure (.value (← Instr.extract (a.eval x) n))):=by
   unfold execOp;rw [ho]
  rw [e] at h ⊢
  cases hv:a.eval x with
  | tuple vs =>
   rw [hv] at h
   simp only [Instr.extract] at h ⊢
   cases hn:vs[n]? with
   | none=>rw [hn] at h;exact h.elim
   | some u=>rw [hn] at h;exact ⟨rfl,h.2⟩
  | _=>rw [hv] at h;exact h.elim
 ·exact .inr h
namespace E
namespace X
section
variable {st:Nat} {P:Program} {ops:Array Oper} {md:Region.Mode}
theorem GA_first {Q:Act→World→Prop} {i:Nat} {oi:Oper} {v:Value} (hi:ops[i]? = some oi) (hsel:∀ (j:Nat) (o:Oper) cs b,ops[j]? = some o→o.op≠.select cs b)
  (hst:(∀ o,ops[st]? = some o→∃ e ∈ o.after,Region.binds md e=true∧e.on=i)∨∃ x n,oi.op = .extract x n) :
  ∀ (f:Nat) (listed:Array Bool) (a:Act) (w:World),
   (∀ j oj,ops[j]? = some oj→j≠i→listed.getD j true=false→(∀ e ∈ oj.after,Region.binds md e=true→e.on≠i)→oi.apart ops oj=true) →
   i ∈ Region.ready md ops listed→YG P ops w oi v a →
   GA st P md ops Q f (listed.setIfInBounds i true) (a.put oi.dst v) w→GA st P md ops Q (f+1) listed a w:=by
 intro f
 induction f with
 | zero =>
  intro listed a w _ hr hy H w1 hn
  refine ⟨fun h=>(by rw [h] at hr;cases hr),fun j hj=>?_⟩
  by_cases hji:j=i
  ·subst hji;exact (hy.grow hn).gOp hi ⟨.inr (Nx.refl _),H.grow hn⟩
  ·have:=ready_mono hj hji
   rw [H.1] at this
   cases this
 | succ f ih =>
  intro listed a w hfree hr hy H w1 hn
  refine ⟨fun h=>(by rw [h] at hr;cases hr),fun j hj=>?_⟩
  by_cases hji:j=i
  ·subst hji;exact (hy.grow hn).gOp hi ⟨.inr (Nx.refl _),H.grow hn⟩
  ·have h1:=(H w1 hn).2 j (ready_mono hj hji)
   obtain ⟨hjun,oj,hoj,hall⟩:=mem_ready.1 hj
   have hnot:∀ e ∈ oj.after,Region.binds md e=true→e.on≠i:=fun e he hb heq=>by
    have h1:=hall e he hb
    have h0:=(mem_ready.1 hr).1
    rw [heq] at h1
    rcases Nat.lt_or_ge i listed.size with h' | h'
    ·simp [h'] at h0 h1;rw [h0] at h1;cases h1
    ·simp [Array.getElem?_eq_none h'] at h1
   have h2:=gOp_put hoj (hfree j oj hoj hji hjun hnot) (fun cs b=>hsel i oi cs b hi) (fun cs b=>hsel j oj cs b hoj) (hy.grow hn) h1
   have hfree':∀ k ok,ops[k]? = some ok→k≠i→(listed.setIfInBounds j true).getD k true=false →
     (∀ e ∈ ok.after,Region.binds md e=true→e.on≠i)→oi.apart ops ok=true:=fun k ok hk hki hun hno=>by
    refine hfree k ok hk hki ?_ hno
    by_cases hjk:j=k
    ·subst hjk;exact hjun
    ·rw [getD_set_ne true hjk] at hun;exact hun
   refine gOp_mono (fun a' w' h3=>?_) h2
   rcases hst with hst | ⟨x,n,hx⟩
   ·have hjst:j≠st:=by
     rintro rfl
     obtain ⟨e,he,hb,heq⟩:=hst oj hoj
     exact hnot e he hb heq
    have hN:=h3.2.1.resolve_left hjst
    refine ⟨.inr hN,ih (listed.setIfInBounds j true) a' w' hfree' (ready_mono hr (Ne.symm hji)) (h3.1.grow hN) ?_⟩
    rw [Array.setIfInBounds_comm _ _ hji]
    exact h3.2.2
   ·refine ⟨h3.2.1,ih (listed.setIfInBounds j true) a' w' hfree' (ready_mono hr (Ne.symm hji)) (h3.1.any hx) ?_⟩
    rw [Array.setIfInBounds_comm _ _ hji]
    exact h3.2.2
def exB (ops:Array Oper) (k:Nat):Bool:=match ops[k]? with
 | some o=>match o.op with
  | .extract _ _=>true
  | _=>false
 | none=>false
theorem exB_spec {k:Nat} {o:Oper} (h:exB ops k=true) (ho:ops[k]? = some o):∃ x n,o.op = .extract x n:=by
 unfold exB at h
 simp only [ho] at h
 split at h
 ·exact ⟨_,_,by assumption⟩
 ·cases h
def hybFrom (st:Nat) (md:Region.Mode) (ops:Array Oper):List (Nat×Bool)→Array Bool→Bool
 | [],listed=>(Region.ready md ops listed).isEmpty
 | (k,true) :: rest,listed=>(Region.ready md ops listed).contains k && Region.free md ops listed k && (edge st md ops k || exB ops k) && hybFrom st md ops rest (listed.setIfInBounds k true)
 | (k,false) :: rest,listed=>Region.ready md ops listed == [k] && hybFrom st md ops rest (listed.setIfInBounds k true)
def hybB (st:Nat) (md:Region.Mode) (ops:Array Oper) (s:List (Nat×Bool)):Bool:=Region.noSelect ops && s.length == ops.size && hybFrom st md ops s (Array.replicate ops.size false)
theorem GA_hyb {Q:Act→World→Prop} (hs:Region.noSelect ops=true):∀ (s:List (Nat×Bool)) (listed:Array Bool) (a:Act) (w:World),
  hybFrom st md ops s listed=true→wpHyb st P ops Q s a w→GA st P md ops Q s.length listed a w
 | [],listed,a,w,hB,h=>⟨by simpa [hybFrom] using hB,h⟩
 | (k,true) :: rest,listed,a,w,hB,h=>by
  simp only [hybFrom,Bool.and_eq_true,Bool.or_eq_true] at hB
  obtain ⟨⟨⟨hr,hf⟩,hed⟩,hB'⟩:=hB
  have hr':k ∈ Region.ready md ops listed:=by simpa using hr
  obtain ⟨_,o,ho,_⟩:=mem_ready.1 hr'
  simp only [wpHyb,ho] at h
  by_cases hw:Region.wanted o (yielded ops a.tmps)=true
  ·simp only [hw,if_true] at h
   obtain ⟨v,h1,h2⟩:=h
   exact GA_first ho (Region.noSelect_spec hs) (hed.elim (fun h=>.inl (edge_spec h)) (fun h=>.inr (exB_spec h ho))) rest.length listed a w (Region.free_spec ho hf) hr' (.inl ⟨hw,h1⟩) (GA_hyb hs rest _ _ _ hB' h2)
  ·simp only [hw] at h
   exact GA_first ho (Region.noSelect_spec hs) (hed.elim (fun h=>.inl (edge_spec h)) (fun h=>.inr (exB_spec h ho))) rest.length listed a w (Region.free_spec ho hf) hr' (.inr ⟨by simpa using hw,rfl⟩) (GA_hyb hs rest _ _ _ hB' h)
 | (k,false) :: rest,listed,a,w,hB,h=>by
  simp only [hybFrom,Bool.and_eq_true,beq_iff_eq] at hB
  obtain ⟨hr,hB'⟩:=hB
  intro w1 hn
  refine ⟨fun h0=>(by rw [hr] at h0;cases h0),fun i hi=>?_⟩
  rw [hr] at hi
  obtain rfl:i=k:=by simpa using hi
  have h:=h w1 hn
  unfold gOp
  cases ho:ops[i]? with
  | none=>rw [ho] at h;exact h.elim
  | some o =>
   rw [ho] at h
   simp only at h ⊢
   by_cases hw:Region.wanted o (yielded ops a.tmps)=true
   ·simp only [hw,if_true] at h ⊢
    exact wp_mono_both (fun a' w' h'=>⟨h'.1,GA_hyb hs rest _ _ _ hB' h'.2⟩) h trivial
   ·simp only [hw] at h ⊢
    exact ⟨.inr (Nx.refl _),GA_hyb hs rest _ _ _ hB' h⟩
theorem wp_region_hyb {id:Nat} {Q:Exit→Act→World→Prop} {a:Act} {w:World} {l:List Oper} (s:List (Nat×Bool)) (hm:P.follows .mixedOrders=true) (hB:hybB st .any l.toArray s=true)
  (h:Hyb st P l.toArray (fun a w=>Q .normal a w) s a w):(Code.region id l.toArray true).wp P Q a w:=by
 simp only [hybB,Bool.and_eq_true,beq_iff_eq] at hB
 obtain ⟨⟨h1,h2⟩,h3⟩:=hB
 refine wp_region_any hm (wpAny_of_GA (st:=st) (Q:=fun a w=>Q .normal a w) (fun _ _ h=>h) _ _ _ _ ?_)
 have:=GA_hyb (st:=st) (md:=.any) h1 s _ _ _ h3 h.out
 rw [h2] at this
 exact this.grow (Nx.drawn w)
end
end X
end E
end Go.Proofs.YtpfecpcgdfbekaaGreatDoor
