/- A struct of a name: its words, and what it is as a file. -/
import Derived.Test.YtbblfkdmkpkmcaaGreatDoorG01
import Derived.Test.YtbblfkdmkpkmcaaGreatDoorG27
set_option linter.unusedVariables false
set_option linter.unusedSimpArgs false
namespace Go.Proofs.YtbblfkdmkpkmcaaGreatDoor
open Go.RowKit
def NmL (l:List UInt8):Prop:=(∃ c r,l=c :: r∧(isLetS c || decide (c.toNat=95))=true)∧(∀ c ∈ l,isNmS c=true)∧l.length≤120∧dotBad l=false
theorem nms_far (c:UInt8) (h:isNmS c=true):isWhS c=false∧c≠35∧c≠47:=by
 have hx:∀ n:Fin 256,isNmS (UInt8.ofNat n.1)=true→isWhS (UInt8.ofNat n.1)=false∧UInt8.ofNat n.1≠35∧UInt8.ofNat n.1≠47:=by decide +kernel
 have:=hx ⟨c.toNat,c.toNat_lt⟩
 simp only [UInt8.ofNat_toNat] at this
 exact this h
theorem gap_none (c:UInt8) (r:List UInt8) (h:isNmS c=true):skipS (c :: r)=(0,true):=by
 have hw:isWhS c=false∧c≠35∧c≠47:=by
  revert h
  exact nms_far c
 have hg:gapS (c :: r)=(0,true):=by
  unfold gapS
  dsimp only
  rw [if_neg (by rintro (h | ⟨h,-⟩) <;> simp_all),if_neg (by rintro ⟨h,-⟩;simp_all)]
  unfold spanN
  rw [hw.1]
  rfl
 rw [skipS_step,hg]
 rfl
theorem gap_one (c:UInt8) (r:List UInt8) (h:isNmS c=true):skipS (32 :: c :: r)=(1,true):=by
 have hw:isWhS c=false:=by
  revert h
  exact fun h=>(nms_far c h).1
 have hg:gapS (32 :: c :: r)=(1,true):=by
  unfold gapS
  dsimp only
  rw [if_neg (by rintro (h | ⟨h,-⟩) <;> cases h),if_neg (by rintro ⟨h,-⟩;cases h)]
  rw [show spanN isWhS (32 :: c :: r)=spanN isWhS (c :: r)+1 from rfl]
  unfold spanN
  rw [hw]
  rfl
 rw [skipS_step,hg]
 rw [if_neg (by decide)]
 rw [show (32 :: c :: r).drop ((1:Nat),true).1=c :: r from rfl,gap_none c r h]
 rfl
theorem NmL.first {l r:List UInt8} (h:NmL l) (hr:r=[]∨∃ c t,r=c :: t∧isNmS c=false):firstS (l++r)=(0,⟨1,l,0,0,0⟩,l.length):=by
 obtain ⟨⟨c,q,hc,hl⟩,hall,hlen,hdot⟩:=h
 have hs:spanN isNmS (l++r)=l.length:=by
  refine spanN_is _ _ _ (by simp) (by simpa using hall) ?_
  rw [List.drop_left]
  exact hr
 have hf:firstS (l++r)=nameS (l++r):=by
  subst hc
  exact if_pos hl
 rw [hf]
 unfold nameS
 rw [hs,if_neg (by omega),List.take_left,hdot]
 rfl
theorem NmL.word {l r:List UInt8} (h:NmL l) (hr:r=[]∨∃ c t,r=c :: t∧isNmS c=false):wordS (l++r)=(0,0,⟨1,l,0,0,0⟩,l.length):=by
 unfold wordS
 rw [h.first hr]
 rfl
theorem NmL.next {l r:List UInt8} (h:NmL l) (hr:r=[]∨∃ c t,r=c :: t∧isNmS c=false) (o:Nat):nextS o (l++r)=(0,0,⟨1,l,0,0,o⟩,l.length):=by
 have hw:=h.word hr
 obtain ⟨⟨c,q,hc,hl⟩,hall,hlen,hdot⟩:=h
 have hsk:skipS (l++r)=(0,true):=by
  subst hc
  exact gap_none c (q++r) (hall c (by simp))
 unfold nextS
 rw [hsk]
 dsimp only
 rw [List.drop_zero,hw]
 simp
theorem NmL.next1 {l r:List UInt8} (h:NmL l) (hr:r=[]∨∃ c t,r=c :: t∧isNmS c=false) (o:Nat):nextS o (32 :: (l++r))=(0,0,⟨1,l,0,0,o+1⟩,l.length+1):=by
 have hw:=h.word hr
 obtain ⟨⟨c,q,hc,hl⟩,hall,hlen,hdot⟩:=h
 have hsk:skipS (32 :: (l++r))=(1,true):=by
  subst hc
  exact gap_one c (q++r) (hall c (by simp))
 unfold nextS
 rw [hsk]
 dsimp only
 rw [show (32 :: (l++r)).drop 1=l++r from rfl,hw]
 simp [Nat.add_comm]
theorem lexF_consQ {f o n:Nat} {l:List UInt8} {t:TokV} {ts:List TokV} (h:nextS o l=(0,0,t,n)) (hk:t.k≠6) (ht:lexF f (o+n) (l.drop n)=(ts,0,0)):lexF (f+1) o l=(t :: ts,0,0):=by
 unfold lexF
 rw [h]
 dsimp only
 rw [if_neg (by simp),if_neg hk,ht]
 rfl
theorem lexF_endQ {f o n:Nat} {l:List UInt8} {t:TokV} (h:nextS o l=(0,0,t,n)) (hk:t.k=6):lexF (f+1) o l=([t],0,0):=by
 unfold lexF
 rw [h]
 dsimp only
 rw [if_neg (by simp),if_pos hk]
def stW (l:List UInt8):List TokV:=[⟨1,[115,116,114,117,99,116],0,0,0⟩,⟨1,l,0,0,7⟩,⟨5,[123],0,0,l.length+8⟩,⟨5,[125],0,0,l.length+9⟩,⟨6,[],0,0,l.length+10⟩]
theorem nmStruct:NmL [115,116,114,117,99,116]:=⟨⟨_,_,rfl,by decide⟩,by decide,by decide,by decide⟩
theorem lex_struct (l:List UInt8) (h:NmL l):lexS ([115,116,114,117,99,116,32]++l++[32,123,125])=(stW l,0,0):=by
 have hl:=h.2.2.1
 unfold lexS
 rw [if_neg (by simp;omega)]
 have z1:([115,116,114,117,99,116,32]++l++[32,123,125]).length=(l.length+6)+1+1+1+1:=by simp
 have z2:[115,116,114,117,99,116,32]++l++[32,123,125]=[115,116,114,117,99,116]++(32 :: (l++[32,123,125])):=by simp
 rw [z1,z2]
 refine lexF_consQ (nmStruct.next (.inr ⟨32,_,rfl,by decide⟩) 0) (by simp) ?_
 rw [List.drop_left]
 refine lexF_consQ (h.next1 (.inr ⟨32,_,rfl,by decide⟩) _) (by simp) ?_
 rw [show (32 :: (l++[32,123,125])).drop (l.length+1)=[32,123,125] by simp]
 have n1:∀ o,nextS o [32,123,125]=(0,0,⟨5,[123],0,0,o+1⟩,2):=fun o=>by
  unfold nextS
  rw [show skipS [32,123,125]=(1,true) by decide +kernel]
  rfl
 have n2:∀ o,nextS o [125]=(0,0,⟨5,[125],0,0,o⟩,1):=fun o=>by
  unfold nextS
  rw [show skipS [125]=(0,true) by decide +kernel]
  rfl
 have n3:∀ o,nextS o []=(0,0,⟨6,[],0,0,o⟩,0):=fun o=>by
  unfold nextS
  rw [show skipS []=(0,true) by decide +kernel]
  rfl
 have e1:=n1 (0+[115,116,114,117,99,116].length+(l.length+1))
 refine (lexF_consQ e1 (by simp) (lexF_consQ (n2 _) (by simp) (lexF_endQ (n3 _) rfl))).trans ?_
 simp [stW]
 omega
theorem NmL.of_plain {l:List UInt8} (h:plainP l=true):NmL l:=by
 unfold plainP at h
 cases l with
 | nil=>simp at h
 | cons c r =>
  simp only [Bool.and_eq_true,decide_eq_true_eq,Bool.not_eq_true'] at h
  obtain ⟨⟨⟨h1,h2⟩,-⟩,h3,h4⟩:=h
  refine ⟨⟨c,r,rfl,h3⟩,by simpa using h4,by omega,?_⟩
  have hd:∀ m:List UInt8,m.contains 46=false→dotBad m=false:=by
   intro m
   induction m with
   | nil=>intro _;rfl
   | cons d m ih =>
    intro hm
    rw [List.contains_cons] at hm
    simp only [Bool.or_eq_false_iff] at hm
    unfold dotBad
    rw [ih hm.2,Bool.or_false]
    have hd:d.toNat≠46:=fun e=>by
     have:d=46:=UInt8.toNat_inj.1 e
     subst this
     simp at hm
    rw [decide_eq_false hd]
    rfl
  exact hd _ h2
theorem NmL.of_lex {l:List UInt8} {t:TokV} {ts:List TokV} (h:(lexS l).2.1=0) (h1:(lexS l).1=t :: ts) (hk:t.k=1) (ht:t.t.length=l.length):NmL l:=by
 unfold lexS at h h1
 split at h
 ·cases h
 rename_i hlen
 rw [if_neg hlen] at h1
 unfold lexF at h h1
 split at h
 ·rename_i h0;exact absurd h h0
 rename_i h0
 rw [if_neg h0] at h1
 have hn0:(nextS 0 l).1=0:=by simpa using h0
 have htk:(nextS 0 l).2.2.1=t:=by
  split at h1
  ·simp at h1;exact h1.1
  ·split at h1
   ·rename_i h6 h7
    rw [if_neg h6,if_pos h7] at h
    exact absurd h h7
   ·simp at h1;exact h1.1
 have hs:=skipS_le l
 unfold nextS at hn0 htk
 split at hn0
 ·cases hn0
 rename_i g1
 rw [if_neg g1] at htk
 split at hn0
 ·rename_i g2;exact absurd hn0 g2
 rename_i g2
 rw [if_neg g2] at htk
 have hw:=word_ok (l.drop (skipS l).1) (by simpa using g2)
 rw [hw.1] at htk
 dsimp only at htk
 have e1:(firstS (l.drop (skipS l).1)).2.1.k=1:=by rw [← hk,← htk]
 have e2:(firstS (l.drop (skipS l).1)).2.1.t.length=l.length:=by rw [← ht,← htk]
 have e3:=first_text _ hw.2 (.inl e1)
 have e4:=e3.2
 rw [e2,List.length_drop] at e4
 have hz:(skipS l).1=0∨l.length=0:=by omega
 have hl0:l≠[]:=by
  rintro rfl
  simp [firstS] at e1
 have hz:(skipS l).1=0:=by
  rcases hz with hz | hz
  ·exact hz
  ·exact absurd (List.length_eq_zero_iff.1 hz) hl0
 rw [hz,List.drop_zero] at e1 e2 hw
 have hw2:=hw.2
 clear hw e3 e4 htk g1 g2 h0 h h1 hs
 cases l with
 | nil=>exact absurd rfl hl0
 | cons c r =>
  rw [show firstS (c :: r)=if isLetS c || decide (c.toNat=95) then nameS (c :: r)
   else if isDig c || decide (c.toNat=43) || decide (c.toNat=45) || decide (c.toNat=46) then numberS (c :: r)
   else if c.toNat=34∨c.toNat=39 then quotedS c r
   else if signsL.contains c then (0,⟨5,[c],0,0,0⟩,1) else (2,tok0,0) from rfl] at e1 e2 hw2
  split at hw2
  ·rename_i a1
   rw [if_pos a1] at e1 e2
   have hn:=spanN_le isNmS (c :: r)
   unfold nameS at hw2 e2
   split at hw2
   ·cases hw2
   rename_i a2
   rw [if_neg a2] at e2
   split at hw2
   ·cases hw2
   rename_i a3
   rw [if_neg a3] at e2
   dsimp only at e2
   rw [List.length_take,Nat.min_eq_left hn] at e2
   rw [e2,List.take_length] at a3
   refine ⟨⟨c,r,rfl,a1⟩,?_,by rw [e2] at a2;omega,by simpa using a3⟩
   have:=spanN_take isNmS (c :: r)
   rw [e2,List.take_length] at this
   exact this
  ·rename_i a1
   rw [if_neg a1] at e1
   split at hw2
   ·rename_i a2
    rw [if_pos a2] at e1
    rcases numberS_k _ hw2 with e | e <;> rw [e] at e1 <;> cases e1
   ·rename_i a2
    rw [if_neg a2] at e1
    split at hw2
    ·rename_i a3
     rw [if_pos a3,quotedS_k _ _ hw2] at e1
     cases e1
    ·rename_i a3
     rw [if_neg a3] at e1
     split at hw2
     ·rename_i a4
      rw [if_pos a4] at e1
      cases e1
     ·cases hw2
theorem parse_struct (l:List UInt8) (h:NmL l):parseF ([115,116,114,117,99,116,32]++l++[32,123,125])=if plainP l then (⟨[],[],[⟨4,l,[],con0,[],[],[],[]⟩]⟩,0,0) else (fil0,2,7):=by
 unfold parseF
 rw [lex_struct l h]
 cases hp:plainP l
 ·simp [stW,fileP,headsP,elemsP,addP,isP,wordP,kInclude,kNamespace,atDefP,atNameP,defK,defP,nextP,plainN,atPlainP,hp,failP,bodyP,fieldsP,needP,atFieldP,kRequired,kOptional,atTypeP,sepP,takeP,tok0]
 ·simp [stW,fileP,headsP,elemsP,addP,isP,wordP,kInclude,kNamespace,atDefP,atNameP,defK,defP,nextP,plainN,atPlainP,hp,failP,bodyP,fieldsP,needP,atFieldP,kRequired,kOptional,atTypeP,sepP,takeP,tok0]
end Go.Proofs.YtbblfkdmkpkmcaaGreatDoor
