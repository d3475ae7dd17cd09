/- A struct of a name: its words, and what it is as a file. A typedef of a type's text, with spaces or without: its words, and what it is as a file. Plain. -/
import Derived.Test.YtbblfkdmkpkmcaaGreatDoorG01
import Derived.Test.YtbblfkdmkpkmcaaGreatDoorG27
set_option linter.unusedVariables false
set_option linter.unusedSimpArgs false
set_option linter.unnecessarySimpa false
namespace Go.Proofs.YtbblfkdmkpkmcaaGreatDoor
open Go.RowKit
def NmL (l:List UInt8):Prop:=(∃ c r,l=c :: r∧(isLetS c || decide (c.toNat=95))=true)∧(∀ c ∈ l,isNmS c=true)∧l.length≤120∧dotBad l=false
theorem nms_far (c:UInt8) (h:isNmS c=true):isWhS c=false∧c≠35∧c≠47:=by
 have hx:∀ n:Fin 256,isNmS (UInt8.ofNat n.1)=true→isWhS (UInt8.ofNat n.1)=false∧UInt8.ofNat n.1≠35∧UInt8.ofNat n.1≠47:=by decide +kernel
 have:=hx ⟨c.toNat,c.toNat_lt⟩
 simp only [UInt8.ofNat_toNat] at this
 exact this h
theorem gap_none (c:UInt8) (r:List UInt8) (h:isNmS c=true):skipS (c :: r)=(0,true):=by
 have hw:isWhS c=false∧c≠35∧c≠47:=by
  revert h
  exact nms_far c
 have hg:gapS (c :: r)=(0,true):=by
  unfold gapS
  dsimp only
  rw [if_neg (by rintro (h | ⟨h,-⟩) <;> simp_all),if_neg (by rintro ⟨h,-⟩;simp_all)]
  unfold spanN
  rw [hw.1]
  rfl
 rw [skipS_step,hg]
 rfl
theorem gap_one (c:UInt8) (r:List UInt8) (h:isNmS c=true):skipS (32 :: c :: r)=(1,true):=by
 have hw:isWhS c=false:=by
  revert h
  exact fun h=>(nms_far c h).1
 have hg:gapS (32 :: c :: r)=(1,true):=by
  unfold gapS
  dsimp only
  rw [if_neg (by rintro (h | ⟨h,-⟩) <;> cases h),if_neg (by rintro ⟨h,-⟩;cases h)]
  rw [show spanN isWhS (32 :: c :: r)=spanN isWhS (c :: r)+1 from rfl]
  unfold spanN
  rw [hw]
  rfl
 rw [skipS_step,hg]
 rw [if_neg (by decide)]
 rw [show (32 :: c :: r).drop ((1:Nat),true).1=c :: r from rfl,gap_none c r h]
 rfl
theorem NmL.first {l r:List UInt8} (h:NmL l) (hr:r=[]∨∃ c t,r=c :: t∧isNmS c=false):firstS (l++r)=(0,⟨1,l,0,0,0⟩,l.length):=by
 obtain ⟨⟨c,q,hc,hl⟩,hall,hlen,hdot⟩:=h
 have hs:spanN isNmS (l++r)=l.length:=by
  refine spanN_is _ _ _ (by simp) (by simpa using hall) ?_
  rw [List.drop_left]
  exact hr
 have hf:firstS (l++r)=nameS (l++r):=by
  subst hc
  exact if_pos hl
 rw [hf]
 unfold nameS
 rw [hs,if_neg (by omega),List.take_left,hdot]
 rfl
theorem NmL.word {l r:List UInt8} (h:NmL l) (hr:r=[]∨∃ c t,r=c :: t∧isNmS c=false):wordS (l++r)=(0,0,⟨1,l,0,0,0⟩,l.length):=by
 unfold wordS
 rw [h.first hr]
 rfl
theorem NmL.next {l r:List UInt8} (h:NmL l) (hr:r=[]∨∃ c t,r=c :: t∧isNmS c=false) (o:Nat):nextS o (l++r)=(0,0,⟨1,l,0,0,o⟩,l.length):=by
 have hw:=h.word hr
 obtain ⟨⟨c,q,hc,hl⟩,hall,hlen,hdot⟩:=h
 have hsk:skipS (l++r)=(0,true):=by
  subst hc
  exact gap_none c (q++r) (hall c (by simp))
 unfold nextS
 rw [hsk]
 dsimp only
 rw [List.drop_zero,hw]
 simp
theorem NmL.next1 {l r:List UInt8} (h:NmL l) (hr:r=[]∨∃ c t,r=c :: t∧isNmS c=false) (o:Nat):nextS o (32 :: (l++r))=(0,0,⟨1,l,0,0,o+1⟩,l.length+1):=by
 have hw:=h.word hr
 obtain ⟨⟨c,q,hc,hl⟩,hall,hlen,hdot⟩:=h
 have hsk:skipS (32 :: (l++r))=(1,true):=by
  subst hc
  exact gap_one c (q++r) (hall c (by simp))
 unfold nextS
 rw [hsk]
 dsimp only
 rw [show (32 :: (l++r)).drop 1=l++r from rfl,hw]
 simp [Nat.add_comm]
theorem lexF_consQ {f o n:Nat} {l:List UInt8} {t:TokV} {ts:List TokV} (h:nextS o l=(0,0,t,n)) (hk:t.k≠6) (ht:lexF f (o+n) (l.drop n)=(ts,0,0)):lexF (f+1) o l=(t :: ts,0,0):=by
 unfold lexF
 rw [h]
 dsimp only
 rw [if_neg (by simp),if_neg hk,ht]
 rfl
theorem lexF_endQ {f o n:Nat} {l:List UInt8} {t:TokV} (h:nextS o l=(0,0,t,n)) (hk:t.k=6):lexF (f+1) o l=([t],0,0):=by
 unfold lexF
 rw [h]
 dsimp only
 rw [if_neg (by simp),if_pos hk]
def stW (l:List UInt8):List TokV:=[⟨1,[115,116,114,117,99,116],0,0,0⟩,⟨1,l,0,0,7⟩,⟨5,[123],0,0,l.length+8⟩,⟨5,[125],0,0,l.length+9⟩,⟨6,[],0,0,l.length+10⟩]
theorem nmStruct:NmL [115,116,114,117,99,116]:=⟨⟨_,_,rfl,by decide⟩,by decide,by decide,by decide⟩
theorem lex_struct (l:List UInt8) (h:NmL l):lexS ([115,116,114,117,99,116,32]++l++[32,123,125])=(stW l,0,0):=by
 have hl:=h.2.2.1
 unfold lexS
 rw [if_neg (by simp;omega)]
 have z1:([115,116,114,117,99,116,32]++l++[32,123,125]).length=(l.length+6)+1+1+1+1:=by simp
 have z2:[115,116,114,117,99,116,32]++l++[32,123,125]=[115,116,114,117,99,116]++(32 :: (l++[32,123,125])):=by simp
 rw [z1,z2]
 refine lexF_consQ (nmStruct.next (.inr ⟨32,_,rfl,by decide⟩) 0) (by simp) ?_
 rw [List.drop_left]
 refine lexF_consQ (h.next1 (.inr ⟨32,_,rfl,by decide⟩) _) (by simp) ?_
 rw [show (32 :: (l++[32,123,125])).drop (l.length+1)=[32,123,125] by simp]
 have n1:∀ o,nextS o [32,123,125]=(0,0,⟨5,[123],0,0,o+1⟩,2):=fun o=>by
  unfold nextS
  rw [show skipS [32,123,125]=(1,true) by decide +kernel]
  rfl
 have n2:∀ o,nextS o [125]=(0,0,⟨5,[125],0,0,o⟩,1):=fun o=>by
  unfold nextS
  rw [show skipS [125]=(0,true) by decide +kernel]
  rfl
 have n3:∀ o,nextS o []=(0,0,⟨6,[],0,0,o⟩,0):=fun o=>by
  unfold nextS
  rw [show skipS []=(0,true) by decide +kernel]
  rfl
 have e1:=n1 (0+[115,116,114,117,99,116].length+(l.length+1))
 refine (lexF_consQ e1 (by simp) (lexF_consQ (n2 _) (by simp) (lexF_endQ (n3 _) rfl))).trans ?_
 simp [stW]
 omega
theorem NmL.of_plain {l:List UInt8} (h:plainP l=true):NmL l:=by
 unfold plainP at h
 cases l with
 | nil=>simp at h
 | cons c r =>
  simp only [Bool.and_eq_true,decide_eq_true_eq,Bool.not_eq_true'] at h
  obtain ⟨⟨⟨h1,h2⟩,-⟩,h3,h4⟩:=h
  refine ⟨⟨c,r,rfl,h3⟩,by simpa using h4,by omega,?_⟩
  have hd:∀ m:List UInt8,m.contains 46=false→dotBad m=false:=by
   intro m
   induction m with
   | nil=>intro _;rfl
   | cons d m ih =>
    intro hm
    rw [List.contains_cons] at hm
    simp only [Bool.or_eq_false_iff] at hm
    unfold dotBad
    rw [ih hm.2,Bool.or_false]
    have hd:d.toNat≠46:=fun e=>by
     have:d=46:=UInt8.toNat_inj.1 e
     subst this
     simp at hm
    rw [decide_eq_false hd]
    rfl
  exact hd _ h2
theorem NmL.of_lex {l:List UInt8} {t:TokV} {ts:List TokV} (h:(lexS l).2.1=0) (h1:(lexS l).1=t :: ts) (hk:t.k=1) (ht:t.t.length=l.length):NmL l:=by
 unfold lexS at h h1
 split at h
 ·cases h
 rename_i hlen
 rw [if_neg hlen] at h1
 unfold lexF at h h1
 split at h
 ·rename_i h0;exact absurd h h0
 rename_i h0
 rw [if_neg h0] at h1
 have hn0:(nextS 0 l).1=0:=by simpa using h0
 have htk:(nextS 0 l).2.2.1=t:=by
  split at h1
  ·simp at h1;exact h1.1
  ·split at h1
   ·rename_i h6 h7
    rw [if_neg h6,if_pos h7] at h
    exact absurd h h7
   ·simp at h1;exact h1.1
 have hs:=skipS_le l
 unfold nextS at hn0 htk
 split at hn0
 ·cases hn0
 rename_i g1
 rw [if_neg g1] at htk
 split at hn0
 ·rename_i g2;exact absurd hn0 g2
 rename_i g2
 rw [if_neg g2] at htk
 have hw:=word_ok (l.drop (skipS l).1) (by simpa using g2)
 rw [hw.1] at htk
 dsimp only at htk
 have e1:(firstS (l.drop (skipS l).1)).2.1.k=1:=by rw [← hk,← htk]
 have e2:(firstS (l.drop (skipS l).1)).2.1.t.length=l.length:=by rw [← ht,← htk]
 have e3:=first_text _ hw.2 (.inl e1)
 have e4:=e3.2
 rw [e2,List.length_drop] at e4
 have hz:(skipS l).1=0∨l.length=0:=by omega
 have hl0:l≠[]:=by
  rintro rfl
  simp [firstS] at e1
 have hz:(skipS l).1=0:=by
  rcases hz with hz | hz
  ·exact hz
  ·exact absurd (List.length_eq_zero_iff.1 hz) hl0
 rw [hz,List.drop_zero] at e1 e2 hw
 have hw2:=hw.2
 clear hw e3 e4 htk g1 g2 h0 h h1 hs
 cases l with
 | nil=>exact absurd rfl hl0
 | cons c r =>
  rw [show firstS (c :: r)=if isLetS c || decide (c.toNat=95) then nameS (c :: r)
   else if isDig c || decide (c.toNat=43) || decide (c.toNat=45) || decide (c.toNat=46) then numberS (c :: r)
   else if c.toNat=34∨c.toNat=39 then quotedS c r
   else if signsL.contains c then (0,⟨5,[c],0,0,0⟩,1) else (2,tok0,0) from rfl] at e1 e2 hw2
  split at hw2
  ·rename_i a1
   rw [if_pos a1] at e1 e2
   have hn:=spanN_le isNmS (c :: r)
   unfold nameS at hw2 e2
   split at hw2
   ·cases hw2
   rename_i a2
   rw [if_neg a2] at e2
   split at hw2
   ·cases hw2
   rename_i a3
   rw [if_neg a3] at e2
   dsimp only at e2
   rw [List.length_take,Nat.min_eq_left hn] at e2
   rw [e2,List.take_length] at a3
   refine ⟨⟨c,r,rfl,a1⟩,?_,by rw [e2] at a2;omega,by simpa using a3⟩
   have:=spanN_take isNmS (c :: r)
   rw [e2,List.take_length] at this
   exact this
  ·rename_i a1
   rw [if_neg a1] at e1
   split at hw2
   ·rename_i a2
    rw [if_pos a2] at e1
    rcases numberS_k _ hw2 with e | e <;> rw [e] at e1 <;> cases e1
   ·rename_i a2
    rw [if_neg a2] at e1
    split at hw2
    ·rename_i a3
     rw [if_pos a3,quotedS_k _ _ hw2] at e1
     cases e1
    ·rename_i a3
     rw [if_neg a3] at e1
     split at hw2
     ·rename_i a4
      rw [if_pos a4] at e1
      cases e1
     ·cases hw2
theorem parse_struct (l:List UInt8) (h:NmL l):parseF ([115,116,114,117,99,116,32]++l++[32,123,125])=if plainP l then (⟨[],[],[⟨4,l,[],con0,[],[],[],[]⟩]⟩,0,0) else (fil0,2,7):=by
 unfold parseF
 rw [lex_struct l h]
 cases hp:plainP l
 ·simp [stW,fileP,headsP,elemsP,addP,isP,wordP,kInclude,kNamespace,atDefP,atNameP,defK,defP,nextP,plainN,atPlainP,hp,failP,bodyP,fieldsP,needP,atFieldP,kRequired,kOptional,atTypeP,sepP,takeP,tok0]
 ·simp [stW,fileP,headsP,elemsP,addP,isP,wordP,kInclude,kNamespace,atDefP,atNameP,defK,defP,nextP,plainN,atPlainP,hp,failP,bodyP,fieldsP,needP,atFieldP,kRequired,kOptional,atTypeP,sepP,takeP,tok0]
end Go.Proofs.YtbblfkdmkpkmcaaGreatDoor
namespace Go.Proofs.YtbblfkdmkpkmcaaGreatDoor
open Go.RowKit
def ktT (t:TokV):Nat×List UInt8:=(t.k,t.t)
def Lx (l:List UInt8) (E:List (Nat×List UInt8)):Prop:=∀ f o,l.length<f→∃ ts,lexF f o l=(ts,0,0)∧ts.map ktT=E
def NoNm (r:List UInt8):Prop:=r=[]∨∃ c t,r=c :: t∧isNmS c=false
theorem skip_space (l:List UInt8):skipS (32 :: l)=((skipS l).1+1,(skipS l).2):=by
 have hg:gapS (32 :: l)=(spanN isWhS l+1,true):=by
  unfold gapS
  dsimp only
  rw [if_neg (by rintro (h | ⟨h,-⟩) <;> cases h),if_neg (by rintro ⟨h,-⟩;cases h)]
  rfl
 rw [skipS_step,hg]
 rw [if_neg (by simp)]
 rw [show (32 :: l).drop ((spanN isWhS l+1,true):Nat×Bool).1=l.drop (spanN isWhS l) from rfl]
 by_cases h0:spanN isWhS l=0
 ·rw [h0,List.drop_zero]
  simp [Nat.add_comm]
 ·cases l with
  | nil=>exact absurd rfl h0
  | cons c r =>
   have hw:isWhS c=true:=by
    cases hc:isWhS c
    ·exfalso;apply h0;unfold spanN;rw [hc];rfl
    ·rfl
   have hne:c≠35∧c≠47:=by
    constructor <;> (rintro rfl;revert hw;decide)
   have hg2:gapS (c :: r)=(spanN isWhS (c :: r),true):=by
    unfold gapS
    dsimp only
    rw [if_neg (fun h=>h.elim hne.1 (fun h=>hne.2 h.1)),if_neg (fun h=>hne.2 h.1)]
   rw [skipS_step (c :: r),hg2,if_neg (by simpa using h0)]
   simp
   omega
theorem next_space (o:Nat) (l:List UInt8):(nextS o (32 :: l)).1=(nextS (o+1) l).1∧(nextS o (32 :: l)).2.1=(nextS (o+1) l).2.1∧(nextS o (32 :: l)).2.2.1=(nextS (o+1) l).2.2.1 ∧
  ((nextS (o+1) l).1=0→(nextS o (32 :: l)).2.2.2=(nextS (o+1) l).2.2.2+1):=by
 unfold nextS
 rw [skip_space l]
 dsimp only
 rw [show (32 :: l).drop ((skipS l).1+1)=l.drop (skipS l).1 from rfl]
 have e1:o+((skipS l).1+1)=o+1+(skipS l).1:=by omega
 rw [e1]
 split
 ·exact ⟨rfl,rfl,rfl,fun h=>by cases h⟩
 ·split
  ·rename_i h
   exact ⟨rfl,rfl,rfl,fun h2=>absurd h2 h⟩
  ·refine ⟨rfl,rfl,rfl,fun _=>?_⟩
   dsimp only
   omega
theorem lexF_space (f o:Nat) (l:List UInt8):lexF (f+1) o (32 :: l)=lexF (f+1) (o+1) l:=by
 obtain ⟨h1,h2,h3,h4⟩:=next_space o l
 unfold lexF
 rw [h1,h2,h3]
 split
 ·rfl
 ·rename_i h
  have h5:=h4 (by simpa using h)
  rw [h5]
  rw [show (32 :: l).drop ((nextS (o+1) l).2.2.2+1)=l.drop (nextS (o+1) l).2.2.2 from rfl]
  rw [show o+((nextS (o+1) l).2.2.2+1)=o+1+(nextS (o+1) l).2.2.2 by omega]
theorem Lx.space {l:List UInt8} {E:List (Nat×List UInt8)} (h:Lx l E):Lx (32 :: l) E:=by
 intro f o hf
 cases f with
 | zero=>simp at hf
 | succ f =>
  rw [lexF_space]
  exact h _ _ (by simp at hf;omega)
theorem Lx.nil:Lx [] [(6,[])]:=by
 intro f o hf
 cases f with
 | zero=>simp at hf
 | succ f =>
  have n3:nextS o []=(0,0,⟨6,[],0,0,o⟩,0):=by
   unfold nextS
   rw [show skipS []=(0,true) by decide +kernel]
   rfl
  exact ⟨_,lexF_endQ n3 rfl,rfl⟩
theorem Lx.name {n r:List UInt8} {E:List (Nat×List UInt8)} (hn:NmL n) (hr:NoNm r) (h:Lx r E):Lx (n++r) ((1,n) :: E):=by
 intro f o hf
 cases f with
 | zero=>simp at hf
 | succ f =>
  have hpos:0<n.length:=by
   obtain ⟨⟨c,q,hc,-⟩,-⟩:=hn
   rw [hc];simp
  obtain ⟨ts,h1,h2⟩:=h f (o+n.length) (by simp at hf;omega)
  refine ⟨_,lexF_consQ (hn.next hr o) (by simp) (ts:=ts) ?_,?_⟩
  ·rw [List.drop_left];exact h1
  ·rw [List.map_cons,h2];rfl
theorem Lx.sign {c:UInt8} {r:List UInt8} {E:List (Nat×List UInt8)} (hc:c=60∨c=62∨c=44) (h:Lx r E):Lx (c :: r) ((5,[c]) :: E):=by
 intro f o hf
 cases f with
 | zero=>simp at hf
 | succ f =>
  obtain ⟨ts,h1,h2⟩:=h f (o+1) (by simp at hf;omega)
  have hw:isWhS c=false∧c≠35∧c≠47:=by rcases hc with rfl | rfl | rfl <;> decide
  have hg:gapS (c :: r)=(0,true):=by
   unfold gapS
   dsimp only
   rw [if_neg (by rintro (h | ⟨h,-⟩) <;> simp_all),if_neg (by rintro ⟨h,-⟩;simp_all)]
   unfold spanN
   rw [hw.1]
   rfl
  have hs:skipS (c :: r)=(0,true):=by rw [skipS_step,hg];rfl
  have hf1:firstS (c :: r)=(0,⟨5,[c],0,0,0⟩,1):=by
   rcases hc with rfl | rfl | rfl <;> rfl
  have n1:nextS o (c :: r)=(0,0,⟨5,[c],0,0,o⟩,1):=by
   unfold nextS
   rw [hs]
   dsimp only
   rw [List.drop_zero]
   have hwd:wordS (c :: r)=(0,0,⟨5,[c],0,0,0⟩,1):=by
    unfold wordS
    rw [hf1]
    rfl
   rw [hwd]
   simp
  refine ⟨_,lexF_consQ n1 (by simp) (ts:=ts) h1,?_⟩
  rw [List.map_cons,h2];rfl
def tkT:Ty→List (Nat×List UInt8)
 | .nm s=>[(1,s)]
 | .bs k=>[(1,wordK k)]
 | .l1 k a=>(1,wordK k) :: (5,[60]) :: (tkT a++[(5,[62])])
 | .mp a b=>(1,wordK 13) :: (5,[60]) :: (tkT a++(5,[44]) :: (tkT b++[(5,[62])]))
def spB (b:Bool) (c:UInt8):List UInt8:=if b && (decide (c=60) || decide (c=62) || decide (c=44)) then [32,c,32] else [c]
def spL (b:Bool) (l:List UInt8):List UInt8:=l.flatMap (spB b)
theorem spL_cons (b:Bool) (c:UInt8) (l:List UInt8):spL b (c :: l)=spB b c++spL b l:=List.flatMap_cons
theorem spL_app (b:Bool) (x y:List UInt8):spL b (x++y)=spL b x++spL b y:=List.flatMap_append
theorem spL_nm (b:Bool) (l:List UInt8) (h:∀ c ∈ l,isNmS c=true):spL b l=l:=by
 induction l with
 | nil=>rfl
 | cons c l ih =>
  rw [spL_cons,ih (fun d hd=>h d (by simp [hd]))]
  have hc:=h c (by simp)
  have hne:c≠60∧c≠62∧c≠44:=by
   refine ⟨?_,?_,?_⟩ <;> (rintro rfl;revert hc;decide)
  unfold spB
  rw [if_neg (by simp [hne])]
  rfl
theorem spB_len (b:Bool) (c:UInt8):(spB b c).length≤3:=by unfold spB;split <;> simp
theorem spL_len (b:Bool) (l:List UInt8):(spL b l).length≤3 * l.length:=by
 induction l with
 | nil=>simp [spL]
 | cons c l ih=>rw [spL_cons,List.length_append];have:=spB_len b c;simp;omega
theorem spB_no (b:Bool) (c:UInt8) (r:List UInt8) (hc:c=60∨c=62∨c=44):NoNm (spB b c++r):=by
 right
 unfold spB
 split
 ·exact ⟨32,_,rfl,by decide⟩
 ·exact ⟨c,_,rfl,by rcases hc with rfl | rfl | rfl <;> decide⟩
theorem Lx.sp {b:Bool} {c:UInt8} {r:List UInt8} {E:List (Nat×List UInt8)} (hc:c=60∨c=62∨c=44) (h:Lx r E):Lx (spB b c++r) ((5,[c]) :: E):=by
 unfold spB
 split
 ·exact Lx.space (Lx.sign hc h.space)
 ·exact Lx.sign hc h
theorem word_NmL (k:Nat) (h:isKw k):NmL (wordK k):=by
 rcases h with rfl | rfl | rfl | rfl | rfl | rfl | rfl | rfl | rfl | rfl | rfl <;> exact ⟨⟨_,_,rfl,by decide⟩,by decide,by decide,by decide⟩
theorem Lx.type (b:Bool):∀ (T:Ty),wfT T→(∀ n ∈ namesT T,NmL n)→∀ (r:List UInt8) (E:List (Nat×List UInt8)),NoNm r→Lx r E→Lx (spL b (showT T)++r) (tkT T++E):=by
 intro T
 induction T with
 | nm s =>
  intro hw hn r E hr h
  rw [show showT (.nm s)=s from rfl,spL_nm b s hw.2]
  exact Lx.name (hn s (by simp [namesT])) hr h
 | bs k =>
  intro hw hn r E hr h
  rw [show showT (.bs k)=wordK k from rfl,spL_nm b _ (wordK_nm k (bs_kw hw))]
  exact Lx.name (word_NmL k (bs_kw hw)) hr h
 | l1 k a ih =>
  intro hw hn r E hr h
  have hk:isKw k:=by obtain ⟨h1 | h1,-⟩:=hw <;> (subst h1;simp [isKw])
  have e:spL b (showT (.l1 k a))++r=wordK k++(spB b 60++(spL b (showT a)++(spB b 62++r))):=by
   rw [show showT (.l1 k a)=wordK k++60 :: (showT a++[62]) from rfl,spL_app,spL_cons,spL_app,spL_cons,spL_nm b _ (wordK_nm k hk)]
   simp [spL]
  have e2:tkT (.l1 k a)++E=(1,wordK k) :: (5,[60]) :: (tkT a++((5,[62]) :: E)):=by simp [tkT]
  rw [e,e2]
  exact Lx.name (word_NmL k hk) (spB_no _ _ _ (by simp)) (Lx.sp (by simp) (ih hw.2 (fun n h=>hn n h) _ _ (spB_no _ _ _ (by simp)) (Lx.sp (by simp) h)))
 | mp a c iha ihc =>
  intro hw hn r E hr h
  have hk:isKw 13:=by simp [isKw]
  have e:spL b (showT (.mp a c))++r=wordK 13++(spB b 60++(spL b (showT a)++(spB b 44++(spL b (showT c)++(spB b 62++r))))):=by
   rw [show showT (.mp a c)=wordK 13++60 :: (showT a++44 :: (showT c++[62])) from rfl,spL_app,spL_cons,spL_app,spL_cons,spL_app,spL_cons,spL_nm b _ (wordK_nm 13 hk)]
   simp [spL]
  have e2:tkT (.mp a c)++E=(1,wordK 13) :: (5,[60]) :: (tkT a++((5,[44]) :: (tkT c++((5,[62]) :: E)))):=by simp [tkT]
  rw [e,e2]
  exact Lx.name (word_NmL 13 hk) (spB_no _ _ _ (by simp)) (Lx.sp (by simp) (iha hw.1 (fun n h=>hn n (by simp [namesT,h])) _ _ (spB_no _ _ _ (by simp)) (Lx.sp (by simp)
   (ihc hw.2 (fun n h=>hn n (by simp [namesT,h])) _ _ (spB_no _ _ _ (by simp)) (Lx.sp (by simp) h)))))
theorem plain_nil:plainP []=false:=by simp [plainP]
theorem split_ne (l:List UInt8):∃ a b,splitP l=a :: b:=by
 induction l with
 | nil=>exact ⟨_,_,rfl⟩
 | cons c l ih =>
  obtain ⟨a,b,h⟩:=ih
  unfold splitP
  split
  ·exact ⟨_,_,rfl⟩
  ·rw [h];exact ⟨_,_,rfl⟩
theorem split_dot (r:List UInt8):splitP (46 :: r)=[] :: splitP r:=by
 conv=>lhs;unfold splitP
 rw [if_pos rfl]
theorem split_cons {c:UInt8} {r a:List UInt8} {b:List (List UInt8)} (hc:c≠46) (h:splitP r=a :: b):splitP (c :: r)=(c :: a) :: b:=by
 conv=>lhs;unfold splitP
 rw [if_neg hc,h]
theorem split_bad:∀ (l a:List UInt8) (b:List (List UInt8)),splitP l=a :: b→(∀ p ∈ b,plainP p=true)→dotBad l=false:=by
 intro l
 induction l with
 | nil=>intro a b _ _;rfl
 | cons c r ih =>
  intro a b h hb
  obtain ⟨a',b',h'⟩:=split_ne r
  by_cases hc:c=46
  ·subst hc
   rw [split_dot,h'] at h
   obtain ⟨rfl,rfl⟩:=List.cons.inj h
   have ha:plainP a'=true:=hb a' (by simp)
   have hr:=ih a' b' h' (fun p hp=>hb p (by simp [hp]))
   unfold dotBad
   rw [hr,Bool.or_false]
   have h1:r.isEmpty=false:=by
    cases r with
    | nil =>
     have:a'=[]:=by simp [splitP] at h';exact h'.1
     subst this
     rw [plain_nil] at ha;cases ha
    | cons d r=>rfl
   have h2:decide (r.head? = some 46)=false:=by
    cases r with
    | nil=>rfl
    | cons d r =>
     apply decide_eq_false
     intro hd
     have:d=46:=by simpa using hd
     subst this
     rw [split_dot] at h'
     obtain ⟨rfl,-⟩:=List.cons.inj h'
     rw [plain_nil] at ha;cases ha
   rw [h1,h2];simp
  ·rw [split_cons hc h'] at h
   obtain ⟨rfl,rfl⟩:=List.cons.inj h
   have hr:=ih a' b' h' hb
   unfold dotBad
   rw [hr,Bool.or_false]
   have:decide (c.toNat=46)=false:=decide_eq_false fun e=>hc (UInt8.toNat_inj.1 e)
   rw [this];rfl
theorem split_all:∀ (l:List UInt8),(∀ p ∈ splitP l,∀ c ∈ p,isNmS c=true)→∀ c ∈ l,isNmS c=true:=by
 intro l
 induction l with
 | nil=>intro _ c h;cases h
 | cons d r ih =>
  intro h c hc
  obtain ⟨a',b',h'⟩:=split_ne r
  by_cases hd:d=46
  ·subst hd
   rw [split_dot] at h
   rcases List.mem_cons.1 hc with rfl | hc
   ·decide
   ·exact ih (fun p hp=>h p (by simp [hp])) c hc
  ·rw [split_cons hd h'] at h
   rcases List.mem_cons.1 hc with rfl | hc
   ·exact h (c :: a') (by simp) c (by simp)
   ·refine ih (fun p hp=>?_) c hc
    rw [h'] at hp
    rcases List.mem_cons.1 hp with rfl | hp
    ·exact fun c hc=>h (d :: p) (by simp) c (by simp [hc])
    ·exact h p (by simp [hp])
theorem plain_chars {l:List UInt8} (h:plainP l=true):∀ c ∈ l,isNmS c=true:=(NmL.of_plain h).2.1
theorem qual_nm {l:List UInt8} (h:qualP l=true) (hl:l.length≤120):NmL l:=by
 unfold qualP at h
 rw [Bool.and_eq_true] at h
 have hall:∀ p ∈ splitP l,plainP p=true:=by simpa using h.2
 obtain ⟨a,b,hab⟩:=split_ne l
 refine ⟨?_,split_all l fun p hp=>plain_chars (hall p hp),hl,split_bad l a b hab fun p hp=>hall p (by rw [hab];simp [hp])⟩
 cases l with
 | nil =>
  have:=hall [] (by simp [splitP])
  rw [plain_nil] at this;cases this
 | cons c r =>
  obtain ⟨a',b',h'⟩:=split_ne r
  by_cases hc:c=46
  ·subst hc
   have:=hall [] (by rw [split_dot];simp)
   rw [plain_nil] at this;cases this
  ·have:=hall (c :: a') (by rw [split_cons hc h'];simp)
   unfold plainP at this
   simp only [Bool.and_eq_true] at this
   exact ⟨c,r,rfl,this.2.1⟩
theorem at_cons {ws:List TokV} {i:Nat} {x:Nat×List UInt8} {E:List (Nat×List UInt8)} (h:(ws.drop i).map ktT=x :: E) :
  (ws.getD i tok0).k=x.1∧(ws.getD i tok0).t=x.2∧(ws.drop (i+1)).map ktT=E∧i<ws.length:=by
 cases hd:ws.drop i with
 | nil=>rw [hd] at h;cases h
 | cons y ys =>
  rw [hd,List.map_cons] at h
  obtain ⟨rfl,rfl⟩:=List.cons.inj h
  have hi:i<ws.length:=by
   apply Nat.lt_of_not_le
   intro hle
   rw [List.drop_eq_nil_of_le hle] at hd
   cases hd
  have e:ws.getD i tok0=y:=by
   have:=List.drop_eq_getElem_cons hi
   rw [hd] at this
   rw [List.getD_eq_getElem?_getD,List.getElem?_eq_getElem hi]
   exact (List.cons.inj this).1.symm
  have e2:ws.drop (i+1)=ys:=by
   have:=List.drop_eq_getElem_cons hi
   rw [hd] at this
   exact (List.cons.inj this).2.symm
  rw [e,e2]
  exact ⟨rfl,rfl,rfl,hi⟩
theorem isP_at {ws:List TokV} {i k:Nat} {t:List UInt8} {E:List (Nat×List UInt8)} (h:(ws.drop i).map ktT=(k,t) :: E) (u:List UInt8) :
  isP ws u ⟨i,0⟩=((decide (k=1) || decide (k=5)) && decide (t=u)):=by
 obtain ⟨h1,h2,-⟩:=at_cons h
 unfold isP wordP
 rw [if_neg (by simp),h1,h2]
theorem wordP_at {ws:List TokV} {i k:Nat} {t:List UInt8} {E:List (Nat×List UInt8)} (h:(ws.drop i).map ktT=(k,t) :: E) :
  (wordP ws ⟨i,0⟩).k=k∧(wordP ws ⟨i,0⟩).t=t:=by
 obtain ⟨h1,h2,-⟩:=at_cons h
 unfold wordP
 rw [if_neg (by simp),h1,h2]
 exact ⟨rfl,rfl⟩
theorem nextP_at (i:Nat):nextP ⟨i,0⟩=⟨i+1,0⟩:=rfl
theorem needP_at {ws:List TokV} {i:Nat} {t:List UInt8} {E:List (Nat×List UInt8)} (h:(ws.drop i).map ktT=(5,t) :: E):needP ws t ⟨i,0⟩=⟨i+1,0⟩:=by
 unfold needP
 rw [isP_at h]
 simp [nextP]
theorem leaf_at {ws:List TokV} {i:Nat} {t:List UInt8} {E:List (Nat×List UInt8)} (h:(ws.drop i).map ktT=(1,t) :: E) (hb:t≠kByte) (ht:(oftP t || qualP t)=true):leafP ws ⟨i,0⟩=(t,⟨i+1,0⟩):=by
 obtain ⟨h1,h2⟩:=wordP_at h
 unfold leafP atTypeP atNameP
 rw [isP_at h,h1,h2,ht]
 simp [hb,nextP]
theorem typeP_leaf {ws:List TokV} {i:Nat} {t:List UInt8} {E:List (Nat×List UInt8)} (h:(ws.drop i).map ktT=(1,t) :: E) (hb:t≠kByte) (h1:t≠kList) (h2:t≠kSet) (h3:t≠kMap) (ht:(oftP t || qualP t)=true) (r:Nat):typeP ws r ⟨i,0⟩=(t,⟨i+1,0⟩):=by
 cases r with
 | zero =>
  unfold typeP
  rw [isP_at h,isP_at h,isP_at h,decide_eq_false h1,decide_eq_false h2,decide_eq_false h3,leaf_at h hb ht]
  rfl
 | succ r =>
  unfold typeP
  rw [isP_at h,isP_at h,isP_at h,decide_eq_false h1,decide_eq_false h2,decide_eq_false h3,leaf_at h hb ht]
  rfl
theorem qual_res {t:List UInt8} (h:qualP t=true):t≠kByte∧t≠kList∧t≠kSet∧t≠kMap:=by
 refine ⟨?_,?_,?_,?_⟩ <;> (rintro rfl;revert h;decide)
theorem type_read (ws:List TokV):∀ (T:Ty),wfT T→(∀ n ∈ namesT T,qualP n=true)→∀ (r i:Nat) (E:List (Nat×List UInt8)),depthT T≤r→(ws.drop i).map ktT=tkT T++E →
  typeP ws r ⟨i,0⟩=(showT T,⟨i+(tkT T).length,0⟩)∧(ws.drop (i+(tkT T).length)).map ktT=E:=by
 intro T
 induction T with
 | nm s =>
  intro hw hn r i E hd h
  have hq:=hn s (by simp [namesT])
  obtain ⟨q0,q1,q2,q3⟩:=qual_res hq
  have h':(ws.drop i).map ktT=(1,s) :: E:=h
  exact ⟨typeP_leaf h' q0 q1 q2 q3 (by rw [hq,Bool.or_true]) r,(at_cons h').2.2.1⟩
 | bs k =>
  intro hw hn r i E hd h
  have h':(ws.drop i).map ktT=(1,wordK k) :: E:=h
  have hf:wordK k≠kByte∧wordK k≠kList∧wordK k≠kSet∧wordK k≠kMap∧oftP (wordK k)=true:=by
   rcases hw with rfl | rfl | rfl | rfl | rfl | rfl | rfl | rfl <;> decide
  exact ⟨typeP_leaf h' hf.1 hf.2.1 hf.2.2.1 hf.2.2.2.1 (by rw [hf.2.2.2.2,Bool.true_or]) r,(at_cons h').2.2.1⟩
 | l1 k a ih =>
  intro hw hn r i E hd h
  cases r with
  | zero=>simp [depthT] at hd
  | succ r =>
   have h0:(ws.drop i).map ktT=(1,wordK k) :: (5,[60]) :: (tkT a++((5,[62]) :: E)):=by rw [h];simp [tkT]
   have h1:=(at_cons h0).2.2.1
   have h2:=(at_cons h1).2.2.1
   obtain ⟨i1,i2⟩:=ih hw.2 (fun n h=>hn n h) r (i+1+1) _ (by simp [depthT] at hd;omega) h2
   have h3:=(at_cons i2).2.2.1
   have hlen:i+(tkT (.l1 k a)).length=i+1+1+(tkT a).length+1:=by simp [tkT];omega
   rw [hlen]
   refine ⟨?_,h3⟩
   obtain ⟨hk | hk,-⟩:=hw
   ·subst hk
    unfold typeP
    rw [isP_at h0,isP_at h0,if_neg (by decide),if_pos (by decide)]
    dsimp only
    rw [nextP_at,needP_at h1,i1]
    dsimp only
    rw [needP_at i2]
    simp [showT,wordK,kSet]
   ·subst hk
    unfold typeP
    rw [isP_at h0,if_pos (by decide)]
    dsimp only
    rw [nextP_at,needP_at h1,i1]
    dsimp only
    rw [needP_at i2]
    simp [showT,wordK,kList]
 | mp a b iha ihb =>
  intro hw hn r i E hd h
  cases r with
  | zero=>simp [depthT] at hd
  | succ r =>
   have h0:(ws.drop i).map ktT=(1,wordK 13) :: (5,[60]) :: (tkT a++((5,[44]) :: (tkT b++((5,[62]) :: E)))):=by rw [h];simp [tkT]
   have h1:=(at_cons h0).2.2.1
   have h2:=(at_cons h1).2.2.1
   obtain ⟨i1,i2⟩:=iha hw.1 (fun n h=>hn n (by simp [namesT,h])) r (i+1+1) _ (by simp [depthT] at hd;omega) h2
   have h3:=(at_cons i2).2.2.1
   obtain ⟨j1,j2⟩:=ihb hw.2 (fun n h=>hn n (by simp [namesT,h])) r _ _ (by simp [depthT] at hd;omega) h3
   have h4:=(at_cons j2).2.2.1
   have hlen:i+(tkT (.mp a b)).length=i+1+1+(tkT a).length+1+(tkT b).length+1:=by simp [tkT];omega
   rw [hlen]
   refine ⟨?_,h4⟩
   unfold typeP
   rw [isP_at h0,isP_at h0,isP_at h0,if_neg (by decide),if_neg (by decide),if_pos (by decide)]
   dsimp only
   rw [nextP_at,needP_at h1,i1]
   dsimp only
   rw [needP_at i2,j1]
   dsimp only
   rw [needP_at j2]
   simp [showT,wordK,kMap]
theorem nmTypedef:NmL [116,121,112,101,100,101,102]:=⟨⟨_,_,rfl,by decide⟩,by decide,by decide,by decide⟩
theorem nmX:NmL [120]:=⟨⟨_,_,rfl,by decide⟩,by decide,by decide,by decide⟩
theorem names_short (T:Ty):∀ n ∈ namesT T,n.length≤(showT T).length:=by
 induction T with
 | nm s=>intro n h;simp [namesT] at h;subst h;exact Nat.le_refl _
 | bs k=>intro n h;simp [namesT] at h
 | l1 k a ih=>intro n h;have:=ih n h;simp [showT];omega
 | mp a b iha ihb =>
  intro n h
  rcases List.mem_append.1 h with h | h
  ·have:=iha n h;simp [showT];omega
  ·have:=ihb n h;simp [showT];omega
theorem parse_typedef (b:Bool) (l:List UInt8) (h0:(wholeT l).1=0) (hn:∀ n ∈ namesT (wholeT l).2,qualP n=true) (hl:l.length≤100) :
  parseF ([116,121,112,101,100,101,102,32]++spL b l++[32,120])=(⟨[],[],[⟨1,[120],l,con0,[],[],[],[]⟩]⟩,0,0):=by
 obtain ⟨hw,hd,hs⟩:=wholeT_show l h0
 obtain ⟨T,hT⟩:∃ T,(wholeT l).2=T:=⟨_,rfl⟩
 rw [hT] at hw hd hs hn
 have hX:Lx [32,120] [(1,[120]),(6,[])]:=Lx.space (Lx.name (n:=[120]) nmX (.inl rfl) Lx.nil)
 have hTy:=Lx.type b T hw (fun n h=>qual_nm (hn n h) (by have:=names_short T n h;rw [← hs] at this;omega)) [32,120] _ (.inr ⟨32,_,rfl,by decide⟩) hX
 have hAll:Lx ([116,121,112,101,100,101,102]++32 :: (spL b (showT T)++[32,120])) ((1,[116,121,112,101,100,101,102]) :: (tkT T++[(1,[120]),(6,[])])) :=
  Lx.name nmTypedef (.inr ⟨32,_,rfl,by decide⟩) hTy.space
 rw [← hs] at hAll
 have e:[116,121,112,101,100,101,102,32]++spL b l++[32,120]=[116,121,112,101,100,101,102]++32 :: (spL b l++[32,120]):=by simp
 rw [e]
 have hlen:=spL_len b l
 obtain ⟨ts,h1,h2⟩:=hAll (([116,121,112,101,100,101,102]++32 :: (spL b l++[32,120])).length+1) 0 (Nat.lt_succ_self _)
 have hlex:lexS ([116,121,112,101,100,101,102]++32 :: (spL b l++[32,120]))=(ts,0,0):=by
  unfold lexS
  rw [if_neg (by simp;omega),h1]
 unfold parseF
 rw [hlex]
 dsimp only
 rw [if_neg (by simp)]
 have q0:(ts.drop 0).map ktT=(1,[116,121,112,101,100,101,102]) :: (tkT T++[(1,[120]),(6,[])]):=by rw [List.drop_zero,h2]
 have q1:=(at_cons q0).2.2.1
 obtain ⟨r1,r2⟩:=type_read ts T hw hn 12 1 _ hd q1
 have q3:=(at_cons r2).2.2.1
 have l3:=(at_cons q3).2.2.2
 obtain ⟨J,hJ⟩:∃ J,1+(tkT T).length=J:=⟨_,rfl⟩
 rw [hJ] at r1 r2 q3 l3
 rw [← hs] at r1
 obtain ⟨M,hM⟩:∃ M,ts.length=M+1:=⟨ts.length - 1,by omega⟩
 have a0:atDefP ts ⟨0,0⟩=true:=by
  unfold atDefP atNameP
  rw [(wordP_at q0).1,(wordP_at q0).2]
  decide
 have hpl:plainN ts ⟨J,0⟩=([120],⟨J+1,0⟩):=by
  unfold plainN atPlainP atNameP
  rw [(wordP_at r2).1,(wordP_at r2).2,if_pos (by decide)]
  dsimp only
  rw [(wordP_at r2).2]
  rfl
 have hdef:defP ts ⟨0,0⟩=(⟨1,[120],l,con0,[],[],[],[]⟩,⟨J+1,0⟩):=by
  unfold defP
  rw [(wordP_at q0).2,show defK [116,121,112,101,100,101,102]=1 by decide]
  dsimp only
  rw [if_pos (by simp),nextP_at,r1]
  dsimp only
  rw [hpl]
  rfl
 have hend:∀ u,isP ts u ⟨J+1,0⟩=false:=fun u=>by rw [isP_at q3];rfl
 have hsep:sepP ts ⟨J+1,0⟩=⟨J+1,0⟩:=by
  unfold sepP takeP
  rw [hend,hend]
  rfl
 have a1:atDefP ts ⟨J+1,0⟩=false:=by
  unfold atDefP atNameP
  rw [(wordP_at q3).1]
  rfl
 have hadd:addP 30 (defP ts) [] ⟨0,0⟩=([⟨1,[120],l,con0,[],[],[],[]⟩],⟨J+1,0⟩):=by
  unfold addP
  rw [if_neg (by simp),hdef]
  rfl
 have hel:elemsP ts (atDefP ts) 30 (defP ts) (ts.length+1) [] ⟨0,0⟩=([⟨1,[120],l,con0,[],[],[],[]⟩],⟨J+1,0⟩):=by
  rw [hM]
  unfold elemsP
  rw [if_pos a0,hadd]
  dsimp only
  rw [hsep]
  unfold elemsP
  rw [if_neg (by rw [a1];simp)]
 have hhd:headsP ts (ts.length+1) [] [] ⟨0,0⟩=(([],[]),⟨0,0⟩):=by
  unfold headsP
  rw [isP_at q0,isP_at q0,if_neg (by decide),if_neg (by decide)]
 have hfile:fileP ts ⟨0,0⟩=(⟨[],[],[⟨1,[120],l,con0,[],[],[],[]⟩]⟩,⟨J+1,0⟩):=by
  unfold fileP
  rw [hhd]
  dsimp only
  rw [hel]
  dsimp only
  rw [if_pos (wordP_at q3).1]
 rw [hfile]
 dsimp only
 rw [if_neg (by simp)]
end Go.Proofs.YtbblfkdmkpkmcaaGreatDoor
