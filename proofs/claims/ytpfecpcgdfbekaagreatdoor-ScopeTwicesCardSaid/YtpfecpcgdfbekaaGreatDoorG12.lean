/- A typedef of a type's text, with spaces or without: its words, and what it is as a file. Plain. A file of one definition, as it lies. The contracts of the document's Reserved, Plain, Far. -/
import Derived.Test.YtpfecpcgdfbekaaGreatDoorG11
import Derived.Test.YtpfecpcgdfbekaaGreatDoorG08
import Derived.Deep.Light
set_option linter.unusedVariables false
set_option linter.unusedSimpArgs false
set_option linter.unnecessarySimpa false
namespace Go.Proofs.YtpfecpcgdfbekaaGreatDoor
open Go.RowKit
def ktT (t:TokV):Nat×List UInt8:=(t.k,t.t)
def Lx (l:List UInt8) (E:List (Nat×List UInt8)):Prop:=∀ f o,l.length<f→∃ ts,lexF f o l=(ts,0,0)∧ts.map ktT=E
def NoNm (r:List UInt8):Prop:=r=[]∨∃ c t,r=c :: t∧isNmS c=false
theorem skip_space (l:List UInt8):skipS (32 :: l)=((skipS l).1+1,(skipS l).2):=by
 have hg:gapS (32 :: l)=(spanN isWhS l+1,true):=by
  unfold gapS
  dsimp only
  rw [if_neg (by rintro (h | ⟨h,-⟩) <;> cases h),if_neg (by rintro ⟨h,-⟩;cases h)]
  rfl
 rw [skipS_step,hg]
 rw [if_neg (by simp)]
 rw [show (32 :: l).drop ((spanN isWhS l+1,true):Nat×Bool).1=l.drop (spanN isWhS l) from rfl]
 by_cases h0:spanN isWhS l=0
 ·rw [h0,List.drop_zero]
  simp [Nat.add_comm]
 ·cases l with
  | nil=>exact absurd rfl h0
  | cons c r =>
   have hw:isWhS c=true:=by
    cases hc:isWhS c
    ·exfalso;apply h0;unfold spanN;rw [hc];rfl
    ·rfl
   have hne:c≠35∧c≠47:=by
    constructor <;> (rintro rfl;revert hw;decide)
   have hg2:gapS (c :: r)=(spanN isWhS (c :: r),true):=by
    unfold gapS
    dsimp only
    rw [if_neg (fun h=>h.elim hne.1 (fun h=>hne.2 h.1)),if_neg (fun h=>hne.2 h.1)]
   rw [skipS_step (c :: r),hg2,if_neg (by simpa using h0)]
   simp
   omega
theorem next_space (o:Nat) (l:List UInt8):(nextS o (32 :: l)).1=(nextS (o+1) l).1∧(nextS o (32 :: l)).2.1=(nextS (o+1) l).2.1∧(nextS o (32 :: l)).2.2.1=(nextS (o+1) l).2.2.1 ∧
  ((nextS (o+1) l).1=0→(nextS o (32 :: l)).2.2.2=(nextS (o+1) l).2.2.2+1):=by
 unfold nextS
 rw [skip_space l]
 dsimp only
 rw [show (32 :: l).drop ((skipS l).1+1)=l.drop (skipS l).1 from rfl]
 have e1:o+((skipS l).1+1)=o+1+(skipS l).1:=by omega
 rw [e1]
 split
 ·exact ⟨rfl,rfl,rfl,fun h=>by cases h⟩
 ·split
  ·rename_i h
   exact ⟨rfl,rfl,rfl,fun h2=>absurd h2 h⟩
  ·refine ⟨rfl,rfl,rfl,fun _=>?_⟩
   dsimp only
   omega
theorem lexF_space (f o:Nat) (l:List UInt8):lexF (f+1) o (32 :: l)=lexF (f+1) (o+1) l:=by
 obtain ⟨h1,h2,h3,h4⟩:=next_space o l
 unfold lexF
 rw [h1,h2,h3]
 split
 ·rfl
 ·rename_i h
  have h5:=h4 (by simpa using h)
  rw [h5]
  rw [show (32 :: l).drop ((nextS (o+1) l).2.2.2+1)=l.drop (nextS (o+1) l).2.2.2 from rfl]
  rw [show o+((nextS (o+1) l).2.2.2+1)=o+1+(nextS (o+1) l).2.2.2 by omega]
theorem Lx.space {l:List UInt8} {E:List (Nat×List UInt8)} (h:Lx l E):Lx (32 :: l) E:=by
 intro f o hf
 cases f with
 | zero=>simp at hf
 | succ f =>
  rw [lexF_space]
  exact h _ _ (by simp at hf;omega)
theorem Lx.nil:Lx [] [(6,[])]:=by
 intro f o hf
 cases f with
 | zero=>simp at hf
 | succ f =>
  have n3:nextS o []=(0,0,⟨6,[],0,0,o⟩,0):=by
   unfold nextS
   rw [show skipS []=(0,true) by decide +kernel]
   rfl
  exact ⟨_,lexF_endQ n3 rfl,rfl⟩
theorem Lx.name {n r:List UInt8} {E:List (Nat×List UInt8)} (hn:NmL n) (hr:NoNm r) (h:Lx r E):Lx (n++r) ((1,n) :: E):=by
 intro f o hf
 cases f with
 | zero=>simp at hf
 | succ f =>
  have hpos:0<n.length:=by
   obtain ⟨⟨c,q,hc,-⟩,-⟩:=hn
   rw [hc];simp
  obtain ⟨ts,h1,h2⟩:=h f (o+n.length) (by simp at hf;omega)
  refine ⟨_,lexF_consQ (hn.next hr o) (by simp) (ts:=ts) ?_,?_⟩
  ·rw [List.drop_left];exact h1
  ·rw [List.map_cons,h2];rfl
theorem Lx.sign {c:UInt8} {r:List UInt8} {E:List (Nat×List UInt8)} (hc:c=60∨c=62∨c=44) (h:Lx r E):Lx (c :: r) ((5,[c]) :: E):=by
 intro f o hf
 cases f with
 | zero=>simp at hf
 | succ f =>
  obtain ⟨ts,h1,h2⟩:=h f (o+1) (by simp at hf;omega)
  have hw:isWhS c=false∧c≠35∧c≠47:=by rcases hc with rfl | rfl | rfl <;> decide
  have hg:gapS (c :: r)=(0,true):=by
   unfold gapS
   dsimp only
   rw [if_neg (by rintro (h | ⟨h,-⟩) <;> simp_all),if_neg (by rintro ⟨h,-⟩;simp_all)]
   unfold spanN
   rw [hw.1]
   rfl
  have hs:skipS (c :: r)=(0,true):=by rw [skipS_step,hg];rfl
  have hf1:firstS (c :: r)=(0,⟨5,[c],0,0,0⟩,1):=by
   rcases hc with rfl | rfl | rfl <;> rfl
  have n1:nextS o (c :: r)=(0,0,⟨5,[c],0,0,o⟩,1):=by
   unfold nextS
   rw [hs]
   dsimp only
   rw [List.drop_zero]
   have hwd:wordS (c :: r)=(0,0,⟨5,[c],0,0,0⟩,1):=by
    unfold wordS
    rw [hf1]
    rfl
   rw [hwd]
   simp
  refine ⟨_,lexF_consQ n1 (by simp) (ts:=ts) h1,?_⟩
  rw [List.map_cons,h2];rfl
def tkT:Ty→List (Nat×List UInt8)
 | .nm s=>[(1,s)]
 | .bs k=>[(1,wordK k)]
 | .l1 k a=>(1,wordK k) :: (5,[60]) :: (tkT a++[(5,[62])])
 | .mp a b=>(1,wordK 13) :: (5,[60]) :: (tkT a++(5,[44]) :: (tkT b++[(5,[62])]))
def spB (b:Bool) (c:UInt8):List UInt8:=if b && (decide (c=60) || decide (c=62) || decide (c=44)) then [32,c,32] else [c]
def spL (b:Bool) (l:List UInt8):List UInt8:=l.flatMap (spB b)
theorem spL_cons (b:Bool) (c:UInt8) (l:List UInt8):spL b (c :: l)=spB b c++spL b l:=List.flatMap_cons
theorem spL_app (b:Bool) (x y:List UInt8):spL b (x++y)=spL b x++spL b y:=List.flatMap_append
theorem spL_nm (b:Bool) (l:List UInt8) (h:∀ c ∈ l,isNmS c=true):spL b l=l:=by
 induction l with
 | nil=>rfl
 | cons c l ih =>
  rw [spL_cons,ih (fun d hd=>h d (by simp [hd]))]
  have hc:=h c (by simp)
  have hne:c≠60∧c≠62∧c≠44:=by
   refine ⟨?_,?_,?_⟩ <;> (rintro rfl;revert hc;decide)
  unfold spB
  rw [if_neg (by simp [hne])]
  rfl
theorem spB_no (b:Bool) (c:UInt8) (r:List UInt8) (hc:c=60∨c=62∨c=44):NoNm (spB b c++r):=by
 right
 unfold spB
 split
 ·exact ⟨32,_,rfl,by decide⟩
 ·exact ⟨c,_,rfl,by rcases hc with rfl | rfl | rfl <;> decide⟩
theorem Lx.sp {b:Bool} {c:UInt8} {r:List UInt8} {E:List (Nat×List UInt8)} (hc:c=60∨c=62∨c=44) (h:Lx r E):Lx (spB b c++r) ((5,[c]) :: E):=by
 unfold spB
 split
 ·exact Lx.space (Lx.sign hc h.space)
 ·exact Lx.sign hc h
theorem word_NmL (k:Nat) (h:isKw k):NmL (wordK k):=by
 rcases h with rfl | rfl | rfl | rfl | rfl | rfl | rfl | rfl | rfl | rfl | rfl <;> exact ⟨⟨_,_,rfl,by decide⟩,by decide,by decide,by decide⟩
theorem Lx.type (b:Bool):∀ (T:Ty),wfT T→(∀ n ∈ namesT T,NmL n)→∀ (r:List UInt8) (E:List (Nat×List UInt8)),NoNm r→Lx r E→Lx (spL b (showT T)++r) (tkT T++E):=by
 intro T
 induction T with
 | nm s =>
  intro hw hn r E hr h
  rw [show showT (.nm s)=s from rfl,spL_nm b s hw.2]
  exact Lx.name (hn s (by simp [namesT])) hr h
 | bs k =>
  intro hw hn r E hr h
  rw [show showT (.bs k)=wordK k from rfl,spL_nm b _ (wordK_nm k (bs_kw hw))]
  exact Lx.name (word_NmL k (bs_kw hw)) hr h
 | l1 k a ih =>
  intro hw hn r E hr h
  have hk:isKw k:=by obtain ⟨h1 | h1,-⟩:=hw <;> (subst h1;simp [isKw])
  have e:spL b (showT (.l1 k a))++r=wordK k++(spB b 60++(spL b (showT a)++(spB b 62++r))):=by
   rw [show showT (.l1 k a)=wordK k++60 :: (showT a++[62]) from rfl,spL_app,spL_cons,spL_app,spL_cons,spL_nm b _ (wordK_nm k hk)]
   simp [spL]
  have e2:tkT (.l1 k a)++E=(1,wordK k) :: (5,[60]) :: (tkT a++((5,[62]) :: E)):=by simp [tkT]
  rw [e,e2]
  exact Lx.name (word_NmL k hk) (spB_no _ _ _ (by simp)) (Lx.sp (by simp) (ih hw.2 (fun n h=>hn n h) _ _ (spB_no _ _ _ (by simp)) (Lx.sp (by simp) h)))
 | mp a c iha ihc =>
  intro hw hn r E hr h
  have hk:isKw 13:=by simp [isKw]
  have e:spL b (showT (.mp a c))++r=wordK 13++(spB b 60++(spL b (showT a)++(spB b 44++(spL b (showT c)++(spB b 62++r))))):=by
   rw [show showT (.mp a c)=wordK 13++60 :: (showT a++44 :: (showT c++[62])) from rfl,spL_app,spL_cons,spL_app,spL_cons,spL_app,spL_cons,spL_nm b _ (wordK_nm 13 hk)]
   simp [spL]
  have e2:tkT (.mp a c)++E=(1,wordK 13) :: (5,[60]) :: (tkT a++((5,[44]) :: (tkT c++((5,[62]) :: E)))):=by simp [tkT]
  rw [e,e2]
  exact Lx.name (word_NmL 13 hk) (spB_no _ _ _ (by simp)) (Lx.sp (by simp) (iha hw.1 (fun n h=>hn n (by simp [namesT,h])) _ _ (spB_no _ _ _ (by simp)) (Lx.sp (by simp)
   (ihc hw.2 (fun n h=>hn n (by simp [namesT,h])) _ _ (spB_no _ _ _ (by simp)) (Lx.sp (by simp) h)))))
theorem plain_nil:plainP []=false:=by simp [plainP]
theorem split_ne (l:List UInt8):∃ a b,splitP l=a :: b:=by
 induction l with
 | nil=>exact ⟨_,_,rfl⟩
 | cons c l ih =>
  obtain ⟨a,b,h⟩:=ih
  unfold splitP
  split
  ·exact ⟨_,_,rfl⟩
  ·rw [h];exact ⟨_,_,rfl⟩
theorem split_dot (r:List UInt8):splitP (46 :: r)=[] :: splitP r:=by
 conv=>lhs;unfold splitP
 rw [if_pos rfl]
theorem split_cons {c:UInt8} {r a:List UInt8} {b:List (List UInt8)} (hc:c≠46) (h:splitP r=a :: b):splitP (c :: r)=(c :: a) :: b:=by
 conv=>lhs;unfold splitP
 rw [if_neg hc,h]
end Go.Proofs.YtpfecpcgdfbekaaGreatDoor
namespace Go.Proofs.YtpfecpcgdfbekaaGreatDoor
open Go.RowKit
theorem txApp {a b:ByteArray} {la lb:List UInt8} (h:Tx a la) (g:Tx b lb):Tx (a++b) (la++lb):=by
 unfold Tx at *
 rw [← h,← g]
 simp [ByteArray.data_append]
end Go.Proofs.YtpfecpcgdfbekaaGreatDoor
namespace Go.Proofs.YtpfecpcgdfbekaaGreatDoor
open Go.RowKit
def rsvB:List (List UInt8):=resB++[kByte]
def rsvA:Array Value:=#[.string ⟨#[105,110,99,108,117,100,101]⟩,.string ⟨#[110,97,109,101,115,112,97,99,101]⟩,.string ⟨#[116,121,112,101,100,101,102]⟩,.string ⟨#[101,110,117,109]⟩,.string ⟨#[99,111,110,115,116]⟩,.string ⟨#[115,116,114,117,99,116]⟩,.string ⟨#[117,110,105,111,110]⟩,.string ⟨#[101,120,99,101,112,116,105,111,110]⟩,.string ⟨#[115,101,114,118,105,99,101]⟩,.string ⟨#[101,120,116,101,110,100,115]⟩,.string ⟨#[116,104,114,111,119,115]⟩,.string ⟨#[111,110,101,119,97,121]⟩,.string ⟨#[118,111,105,100]⟩,.string ⟨#[114,101,113,117,105,114,101,100]⟩,.string ⟨#[111,112,116,105,111,110,97,108]⟩,.string ⟨#[116,114,117,101]⟩,.string ⟨#[102,97,108,115,101]⟩,.string ⟨#[98,121,116,101]⟩]
theorem rsv_at (i:Nat) (hi:i<18):∃ (u:ByteArray) (x:List UInt8),rsvA[i]? = some (.string u)∧Tx u x∧rsvB[i]? = some x:=by
 rcases (show i=0∨i=1∨i=2∨i=3∨i=4∨i=5∨i=6∨i=7∨i=8∨i=9∨i=10∨i=11∨i=12∨i=13∨i=14∨i=15∨i=16∨i=17 by omega) with rfl | rfl | rfl | rfl | rfl | rfl | rfl | rfl | rfl | rfl | rfl | rfl | rfl | rfl | rfl | rfl | rfl | rfl <;> exact ⟨_,_,rfl,rfl,rfl⟩
theorem kindW_oft (l:List UInt8):(kindW l != 0)=(oftB.contains l && decide (l≠kByte)):=by
 rcases kindW_is l with h0 | ⟨h1,h2⟩
 ·rw [h0]
  by_cases hb:l=kByte
  ·subst hb;decide
  ·have:oftB.contains l=false:=by
    rw [Bool.eq_false_iff]
    intro hc
    have hm:l ∈ oftB:=by simpa using hc
    simp only [oftB,List.mem_cons,List.not_mem_nil,or_false] at hm
    rcases hm with rfl | rfl | rfl | rfl | rfl | rfl | rfl | rfl | rfl | rfl | rfl | rfl <;> first | (exact hb rfl) | (revert h0;decide)
   rw [this];rfl
 ·generalize kindW l=k at *
  subst h2
  rcases h1 with rfl | rfl | rfl | rfl | rfl | rfl | rfl | rfl | rfl | rfl | rfl <;> decide
theorem res_split (l:List UInt8):resP l=(rsvB.contains l || (kindW l != 0)):=by
 rw [kindW_oft]
 unfold resP oftP rsvB
 by_cases hb:l=kByte
 ·subst hb;decide
 ·rw [decide_eq_true hb,Bool.and_true]
  have:(resB++[kByte]).contains l=resB.contains l:=by
   rw [Bool.eq_iff_iff]
   simp [hb]
  rw [this]
set_option maxRecDepth 100000 in
set_option maxHeartbeats 3200000 in
theorem rreserved_any (w:World) (s:ByteArray) (l:List UInt8) (hl:Tx s l) :
  Calls Tryz.prog 31 #[.string s] w fun e w'=>e = .returned (.bool (resP l))∧Nx w w':=by
 have HL:=Lib.hid hl
 have HRS:=Lib.hid (res_split l)
 obtain ⟨B,hB⟩:∃ B,resP l=B:=⟨_,rfl⟩
 obtain ⟨K,hK⟩:∃ K,Hid (kindW l=K):=⟨_,rfl⟩
 rw [hB,hK.out] at HRS
 rw [hB]
 have HG:=Lib.hid rsv_at
 clear hl hB
 go_enter Tryz.func31,Tryz.ntmps31
 go_wp2_with fail
 obtain ⟨g,hg⟩:∃ g,w.heap.size=g:=⟨_,rfl⟩
 rw [hg]
 generalize hW:World.alloc w _=W
 have hB0:Blk W g g rsvA 9:=by rw [← hW,← hg];exact Blk.new w rsvA _
 have hN:Nx w W:=by rw [← hW];exact nx0 _ _
 have HB0:=Lib.hid hB0
 have HN:=Lib.hid hN
 clear hB0 hN hg hW
 go_loopw [4] (fun v wr=>∃ i:Nat,v = .int .i64 i∧i≤18∧Hid (∀ x ∈ rsvB.take i,x≠l)∧wr=W) (fun v _=>(18 - intOf v).toNat)
 case atStart=>exact ⟨0,rfl,by decide,by intro x hx;simp at hx,rfl⟩
 case round =>
  obtain ⟨i,rfl,hi,HNO,rfl⟩:=hrel
  by_cases hlt:i<18
  ·obtain ⟨u,x,h1,h2,h3⟩:=HG.out i hlt
   have c1:wr.cell? ⟨g,i,none⟩=some (.string u):=by rw [HB0.out.cell i];exact h1
   have hltI:(i:Int)<18:=by omega
   by_cases hx:x=l
   ·have hq:(u.toList == s.toList)=true:=by rw [h2.toL,HL.out.toL,hx];simp
    have hBt:B=true:=by
     rw [HRS.out]
     have:l ∈ rsvB:=by rw [← hx];exact List.mem_of_getElem? h3
     simp [this]
    subst hBt
    have hu:u=s:=by rw [h2.eq,HL.out.eq,hx]
    subst hu
    clear h1 h2 h3 hx hq HRS
    go_wp2_with fail
    go_ret
    exact ⟨rfl,HN.out⟩
   ·have hq:(u.toList == s.toList)=false:=by rw [h2.toL,HL.out.toL,beq_eq_false_iff_ne];exact hx
    have hne:¬ u=s:=fun h=>hx (by rw [← h2,← HL.out,h])
    have hNO2:Hid (∀ x ∈ rsvB.take (i+1),x≠l):=by
     intro y hy
     rw [List.take_add_one,List.mem_append] at hy
     rcases hy with hy | hy
     ·exact HNO.out y hy
     ·rw [h3] at hy
      simp at hy
      subst hy;exact hx
    clear h1 h2 h3 hx HNO
    go_wp2_with fail
    go_roundw
    case rel=>exact ⟨i+1,by go_num,hlt,hNO2,trivial⟩
    case measure=>simp [intOf];omega
  ·obtain rfl:i=18:=by omega
   have hBk:Hid (decide (K≠0)=B):=by
    unfold Hid
    rw [HRS.out]
    have:rsvB.contains l=false:=by
     rw [Bool.eq_false_iff]
     intro hc
     have hm:l ∈ rsvB:=by simpa using hc
     exact HNO.out l (by rw [List.take_of_length_le (by decide)];exact hm) rfl
    rw [this]
    by_cases hk:K=0 <;> simp [hk]
   clear hlt hi HNO HRS
   go_wp2_with fail
   refine (refBase_any s l wr HL.out).mono ?_
   rw [hK.out]
   rintro e w' ⟨rfl,rfl⟩
   have hBk2:((K:Int) != 0)=B:=by
    rw [← hBk.out]
    by_cases hk:K=0
    ·subst hk;rfl
    ·rw [decide_eq_true hk,bne_iff_ne];omega
   go_wp2_with fail
   go_ret
   exact ⟨by first | rfl | exact congrArg (fun b=>Ending.returned (Value.bool b)) hBk2,HN.out⟩
theorem plain_cons (c:UInt8) (r:List UInt8):plainP (c :: r)=(decide ((c :: r).length≤40) && !resP (c :: r) && isLtS c && (c :: r).all fun d=>isLtS d || isDig d):=by
 have hall:∀ m:List UInt8,(!m.contains 46 && m.all isNmS)=m.all fun d=>isLtS d || isDig d:=by
  intro m
  induction m with
  | nil=>rfl
  | cons d m ih =>
   rw [List.all_cons,List.all_cons,List.contains_cons,← ih,isNm_iff]
   have h46:(46 == d)=decide (d.toNat=46):=by
    rw [Bool.eq_iff_iff,beq_iff_eq,decide_eq_true_eq,← UInt8.toNat_inj]
    exact ⟨fun h=>h.symm,fun h=>h.symm⟩
   rw [h46]
   by_cases hd:d.toNat=46
   ·have h1:isLtS d=false:=by simp [isLtS,isLetS];omega
    have h2:isDig d=false:=by simp [isDig];omega
    rw [decide_eq_true hd,h1,h2];rfl
   ·rw [decide_eq_false hd]
    cases m.contains 46 <;> cases m.all isNmS <;> cases isLtS d <;> cases isDig d <;> rfl
 have h:=hall (c :: r)
 unfold plainP
 show (decide ((c :: r).length≤40) && !(c :: r).contains 46 && !resP (c :: r) && (nmLet c && (c :: r).all isNmS))=_
 rw [← h,show nmLet c=isLtS c from rfl]
 cases decide ((c :: r).length≤40) <;> cases (c :: r).contains 46 <;> cases resP (c :: r) <;> cases isLtS c <;> cases (c :: r).all isNmS <;> rfl
set_option maxRecDepth 100000 in
set_option maxHeartbeats 6400000 in
theorem rplain_any (w:World) (s:ByteArray) (l:List UInt8) (hl:Tx s l) (B:Bool) (hB:plainP l=B) (hs:(l.length:Int)≤8000) :
  Calls Tryz.prog 16 #[.string s] w fun e w'=>e = .returned (.bool B)∧Nx w w':=by
 have HL:=Lib.hid hl
 have hz:(s.size:Int)=(l.length:Int):=by rw [hl.size]
 have hzn:s.size=l.length:=hl.size
 cases l with
 | nil =>
  obtain ⟨n1,n2⟩:=hl.nil
  have hB0:B=false:=by rw [← hB];exact plain_nil
  subst hB0
  clear hl hB hz hzn HL
  go_enter Tryz.func16,Tryz.ntmps16
  go_wp2_with fail
  go_ret
  exact ⟨rfl,Nx.refl _⟩
 | cons c r =>
  obtain ⟨hp0,t0,hc0,-,-,hne,hne2⟩:=hl.cons
  rw [plain_cons] at hB
  generalize hl1:c :: r=l at *
  have hlen:1≤l.length:=by rw [← hl1];simp
  clear hl
  by_cases h40:l.length≤40
  ·have g1:decide ((40:Int)<(l.length:Int))=false:=decide_eq_false (by omega)
   have g1':decide ((40:Int)<(s.size:Int))=false:=decide_eq_false (by omega)
   have g2:¬ 40<s.size:=by omega
   have g3:(0:Int)<(s.size:Int):=by omega
   obtain ⟨L,hL⟩:∃ L,Hid (isLtS c=L):=⟨_,rfl⟩
   have hlet:∀ w,Calls Tryz.prog 30 #[.int .u8 (c.toNat:Int)] w fun e w'=>e = .returned (.bool L)∧w'=w:=by
    intro w;have:=refLetter_any c w;rw [hL.out] at this;exact this
   obtain ⟨R,hR⟩:∃ R,Hid (resP l=R):=⟨_,rfl⟩
   have hres:=Lib.hid (rreserved_any w s l HL.out)
   rw [hR.out] at hres
   rw [hR.out,hL.out,decide_eq_true h40] at hB
   have HB:=Lib.hid hB
   clear hB h40 hl1
   cases L with
   | false =>
    have hB0:B=false:=by rw [← HB.out];cases R <;> rfl
    subst hB0
    go_enter Tryz.func16,Tryz.ntmps16
    go_wp2_with fail
    refine (hlet _).mono ?_;rintro e w1 ⟨rfl,rfl⟩
    go_wp2_with fail
    go_ret
    exact ⟨rfl,Nx.refl _⟩
   | true =>
    cases R with
    | true =>
     have hB0:B=false:=by rw [← HB.out];rfl
     subst hB0
     go_enter Tryz.func16,Tryz.ntmps16
     go_wp2_with fail
     refine (hlet _).mono ?_;rintro e w1 ⟨rfl,rfl⟩
     go_wp2_with fail
     refine hres.out.mono ?_;rintro e w1 ⟨rfl,hn1⟩
     go_wp2_with fail
     go_ret
     exact ⟨rfl,hn1⟩
    | false =>
     go_enter Tryz.func16,Tryz.ntmps16
     go_wp2_with fail
     refine (hlet _).mono ?_;rintro e w1 ⟨rfl,rfl⟩
     go_wp2_with fail
     refine hres.out.mono ?_;rintro e w1 ⟨rfl,hn1⟩
     have HN1:=Lib.hid hn1
     clear hlet hres hn1
     go_wp2_with fail
     go_loopw [3] (fun v wr=>∃ i:Nat,v = .int .i64 i∧i≤l.length∧Hid (∀ d ∈ l.take i,(isLtS d || isDig d)=true)∧wr=w1) (fun v _=>10000 - (intOf v).toNat)
     case atStart=>exact ⟨0,rfl,Nat.zero_le _,by intro x hx;simp at hx,rfl⟩
     case round =>
      obtain ⟨i,rfl,hi,HA,rfl⟩:=hrel
      by_cases hlt:i<l.length
      ·obtain ⟨hp,hx⟩:=HL.out.idx i hlt
       obtain ⟨d,hd⟩:∃ d,Hid (l[i]'hlt=d):=⟨_,Lib.hid rfl⟩
       have hxd:s[i]'hp=d:=by rw [hx];exact hd.out
       have q1:decide ((i:Int)<(s.size:Int))=true:=decide_eq_true (by omega)
       have q2:(i:Int)<(s.size:Int):=by omega
       have hiI:(i:Int)≤8000:=by omega
       obtain ⟨b1,hb1⟩:∃ b1,Hid (isLtS d=b1):=⟨_,rfl⟩
       obtain ⟨b2,hb2⟩:∃ b2,Hid (isDig d=b2):=⟨_,rfl⟩
       have h1:∀ w,Calls Tryz.prog 30 #[.int .u8 (d.toNat:Int)] w fun e w'=>e = .returned (.bool b1)∧w'=w:=by
        intro w;have:=refLetter_any d w;rw [hb1.out] at this;exact this
       have h2:∀ w,Calls Tryz.prog 32 #[.int .u8 (d.toNat:Int)] w fun e w'=>e = .returned (.bool b2)∧w'=w:=by
        intro w;have:=refDigit_any d w;rw [hb2.out] at this;exact this
       have hstep:(isLtS d || isDig d)=true→Hid (∀ d ∈ l.take (i+1),(isLtS d || isDig d)=true):=by
        intro hok y hy
        rw [List.take_add_one,List.mem_append] at hy
        rcases hy with hy | hy
        ·exact HA.out y hy
        ·rw [List.getElem?_eq_getElem hlt,hd.out] at hy
         simp at hy
         subst hy;exact hok
       have hbad:(isLtS d || isDig d)=false→B=false:=by
        intro hno
        rw [← HB.out]
        have:(l.all fun d=>isLtS d || isDig d)=false:=by
         rw [Bool.eq_false_iff]
         intro hc
         have:=List.all_eq_true.1 hc d (by rw [← hd.out];exact List.getElem_mem hlt)
         rw [hno] at this;cases this
        rw [this];rfl
       rw [hb1.out,hb2.out] at hstep hbad
       have HST:=Lib.hid hstep
       have HBD:=Lib.hid hbad
       clear hx hstep hbad HA
       cases b1 with
       | true =>
        go_wp2_with fail
        refine (h1 _).mono ?_;rintro e w' ⟨rfl,rfl⟩
        go_wp2_with fail
        go_roundw
        case rel=>exact ⟨i+1,by go_num,hlt,HST.out rfl,trivial⟩
        case measure=>simp [intOf];omega
       | false =>
        cases b2 with
        | true =>
         go_wp2_with fail
         refine (h1 _).mono ?_;rintro e w' ⟨rfl,rfl⟩
         go_wp2_with fail
         refine (h2 _).mono ?_;rintro e w' ⟨rfl,rfl⟩
         go_wp2_with fail
         go_roundw
         case rel=>exact ⟨i+1,by go_num,hlt,HST.out rfl,trivial⟩
         case measure=>simp [intOf];omega
        | false =>
         have hB0:B=false:=HBD.out rfl
         subst hB0
         go_wp2_with fail
         refine (h1 _).mono ?_;rintro e w' ⟨rfl,rfl⟩
         go_wp2_with fail
         refine (h2 _).mono ?_;rintro e w' ⟨rfl,rfl⟩
         go_wp2_with fail
         go_ret
         exact ⟨rfl,HN1.out⟩
      ·obtain rfl:i=l.length:=by omega
       have hB0:B=true:=by
        rw [← HB.out]
        have:(l.all fun d=>isLtS d || isDig d)=true:=by
         rw [List.all_eq_true]
         intro x hx
         exact HA.out x (by rw [List.take_length];exact hx)
        rw [this];rfl
       subst hB0
       have q1:decide ((l.length:Int)<(s.size:Int))=false:=decide_eq_false (by omega)
       have q2:¬ (l.length:Int)<(s.size:Int):=by omega
       clear HA hlt
       go_wp2_with fail
       go_ret
       exact ⟨rfl,HN1.out⟩
  ·have g1:decide ((40:Int)<(l.length:Int))=true:=decide_eq_true (by omega)
   have g1':decide ((40:Int)<(s.size:Int))=true:=decide_eq_true (by omega)
   have g2:40<s.size:=by omega
   have hB0:B=false:=by rw [← hB,decide_eq_false h40];rfl
   subst hB0
   clear hB h40 hl1
   go_enter Tryz.func16,Tryz.ntmps16
   go_wp2_with fail
   go_ret
   exact ⟨rfl,Nx.refl _⟩
def glueP (p:List UInt8):List (List UInt8)→List (List UInt8)
 | []=>[p]
 | a :: b=>(p++a) :: b
theorem glue_other {c:UInt8} {r p:List UInt8} (hc:c≠46):glueP p (splitP (c :: r))=glueP (p++[c]) (splitP r):=by
 obtain ⟨a,b,h⟩:=split_ne r
 rw [split_cons hc h,h]
 simp [glueP]
theorem glue_dot (r p:List UInt8):glueP p (splitP (46 :: r))=p :: splitP r:=by
 rw [split_dot]
 simp [glueP]
theorem glue_nil (l:List (List UInt8)) (h:l≠[]):glueP [] l=l:=by
 cases l with
 | nil=>exact absurd rfl h
 | cons a b=>rfl
set_option maxRecDepth 100000 in
set_option maxHeartbeats 6400000 in
theorem rFar_any (w:World) (s:ByteArray) (l:List UInt8) (hl:Tx s l) (B:Bool) (hB:qualP l=B) (hs:(l.length:Int)≤8000) :
  Calls Tryz.prog 98 #[.string s] w fun e w'=>e = .returned (.bool B)∧Nx w w':=by
 have HL:=Lib.hid hl
 have hz:(s.size:Int)=(l.length:Int):=by rw [hl.size]
 have HB:=Lib.hid hB
 clear hl hB
 go_enter Tryz.func98,Tryz.ntmps98
 go_wp2_with fail
 go_loopw [3,4,5] (fun nv pv iv wr=>∃ (i:Nat) (P:ByteArray) (p:List UInt8) (D:List (List UInt8)),iv = .int .i64 (i:Int)∧nv = .int .i64 ((D.length+1:Nat):Int)∧pv = .string P∧i≤l.length∧D.length≤i∧p.length≤i∧Hid (Tx P p)∧Hid (splitP l=D++glueP p (splitP (l.drop i)))∧Hid (∀ d ∈ D,plainP d=true)∧Nx w wr) (fun _ _ iv _=>10000 - (intOf iv).toNat)
 case atStart=>exact ⟨0,_,[],[],rfl,rfl,rfl,Nat.zero_le _,Nat.le_refl _,Nat.le_refl _,(rfl:Tx ⟨#[]⟩ []),by unfold Hid;rw [List.drop_zero,glue_nil _ (by obtain ⟨a,b,h⟩:=split_ne l;rw [h];simp)];rfl,(fun d hd=>by cases hd),Nx.refl _⟩
 case round =>
  obtain ⟨i,P,p,D,rfl,rfl,rfl,hi,hDi,hpi,HP,HS,HD,hn⟩:=hrel
  have HN:=Lib.hid hn
  clear hn
  have hpz:P.size=p.length:=HP.out.size
  obtain ⟨K,hK⟩:∃ K,D.length+1=K:=⟨_,rfl⟩
  rw [hK]
  have hiI:(i:Int)≤8000:=by omega
  have hKI:(K:Int)≤8001:=by omega
  by_cases hlt:i<l.length
  ·obtain ⟨hp,hx⟩:=HL.out.idx i hlt
   obtain ⟨c,hc⟩:∃ c,Hid (l[i]'hlt=c):=⟨_,Lib.hid rfl⟩
   have hxc:s[i]'hp=c:=by rw [hx];exact hc.out
   have hdr:Hid (l.drop i=c :: l.drop (i+1)):=by unfold Hid;rw [List.drop_eq_getElem_cons hlt,hc.out]
   have q1:decide ((i:Int)<(s.size:Int))=true:=decide_eq_true (by omega)
   have q2:(i:Int)<(s.size:Int):=by omega
   have q3:(i:Int)+1≤(s.size:Int):=by omega
   by_cases h46:c=46
   ·have g4:((c.toNat:Int) != 46)=false:=by subst h46;rfl
    obtain ⟨b,hb⟩:∃ b,plainP p=b:=⟨_,rfl⟩
    have HC:=Lib.hid fun w=>rplain_any w P p HP.out b hb (by omega)
    cases b with
    | false =>
     have hB0:B=false:=by
      rw [← HB.out]
      unfold qualP
      rw [HS.out,hdr.out,h46,glue_dot,List.all_append,List.all_cons,hb]
      simp
     subst hB0
     clear hx h46 hb hdr
     go_wp2_with fail
     refine (HC.out _).mono ?_;rintro e w2 ⟨rfl,hn2⟩
     go_wp2_with fail
     go_ret
     exact ⟨rfl,HN.out.trans hn2⟩
    | true =>
     have HS2:Hid (splitP l=(D++[p])++glueP [] (splitP (l.drop (i+1)))):=by
      unfold Hid
      rw [HS.out,hdr.out,h46,glue_dot,glue_nil _ (by obtain ⟨a,b,h⟩:=split_ne (l.drop (i+1));rw [h];simp)]
      simp
     have HD2:Hid (∀ d ∈ D++[p],plainP d=true):=by
      intro d hd
      rcases List.mem_append.1 hd with hd | hd
      ·exact HD.out d hd
      ·simp at hd;subst hd;exact hb
     have hDl:(D++[p]).length+1=K+1:=by simp;omega
     clear hx h46 hb hdr HS HD
     go_wp2_with fail
     refine (HC.out _).mono ?_;rintro e w2 ⟨rfl,hn2⟩
     go_wp2_with fail
     go_roundw
     case rel=>exact ⟨i+1,_,[],D++[p],by go_num,by rw [hDl];go_num,rfl,hlt,by simp;omega,Nat.zero_le _,(rfl:Tx ⟨#[]⟩ []),HS2,HD2,HN.out.trans hn2⟩
     case measure=>simp [intOf];omega
   ·have g4:((c.toNat:Int) != 46)=true:=by
     rw [bne_iff_ne];intro h;exact h46 (UInt8.toNat_inj.1 (by show _=46;omega))
    obtain ⟨u,hu,HU⟩:=HL.out.mid i (i+1)
    have hone:(l.take (i+1)).drop i=[c]:=by
     rw [List.take_add_one,List.drop_append_of_le_length (by rw [List.length_take];omega),List.getElem?_eq_getElem hlt,hc.out]
     simp
    rw [hone] at HU
    have huz:u.size=1:=HU.out.size
    have HPU:Hid (Tx (P++u) (p++[c])):=txApp HP.out HU.out
    have HS2:Hid (splitP l=D++glueP (p++[c]) (splitP (l.drop (i+1)))):=by
     unfold Hid
     rw [HS.out,hdr.out,glue_other h46]
    clear hx h46 hdr HS hone
    go_wp2_with fail
    go_roundw
    case rel=>exact ⟨i+1,_,p++[c],D,by go_num,by rw [hK],rfl,hlt,by omega,by simp;omega,HPU,HS2,HD,HN.out⟩
    case measure=>simp [intOf];omega
  ·obtain rfl:i=l.length:=by omega
   have q1:decide ((l.length:Int)<(s.size:Int))=false:=decide_eq_false (by omega)
   have q2:¬ (l.length:Int)<(s.size:Int):=by omega
   have hsp:splitP l=D++[p]:=by
    rw [HS.out,List.drop_length]
    simp [splitP,glueP]
   obtain ⟨b,hb⟩:∃ b,plainP p=b:=⟨_,rfl⟩
   have hBe:B=(decide (K≤3) && b):=by
    rw [← HB.out]
    unfold qualP
    have:(D++[p]).all plainP=b:=by
     rw [List.all_append]
     have h1:D.all plainP=true:=List.all_eq_true.2 HD.out
     rw [h1]
     simp [hb]
    rw [hsp,this]
    congr 2
    simp
    omega
   have HC:=Lib.hid fun w=>rplain_any w P p HP.out b hb (by omega)
   clear HS HD hsp hb HB
   by_cases h3:K≤3
   ·have k1:decide ((K:Int)≤3)=true:=decide_eq_true (by omega)
    have k2:(K:Int)≤3:=by omega
    have hBb:B=b:=by rw [hBe,decide_eq_true h3];rfl
    subst hBb
    clear hBe
    go_wp2_with fail
    refine (HC.out _).mono ?_;rintro e w2 ⟨rfl,hn2⟩
    go_wp2_with fail
    go_ret
    exact ⟨rfl,HN.out.trans hn2⟩
   ·have k1:decide ((K:Int)≤3)=false:=decide_eq_false (by omega)
    have k2:¬ (K:Int)≤3:=by omega
    have hBb:B=false:=by rw [hBe,decide_eq_false h3];rfl
    subst hBb
    clear hBe
    go_wp2_with fail
    go_ret
    exact ⟨rfl,HN.out⟩
end Go.Proofs.YtpfecpcgdfbekaaGreatDoor
