/- The document's printer: a definition. The document's printer: a file. -/
import Derived.Test.YteclejplbphkpaaGreatG26
set_option linter.unusedVariables false
set_option linter.unusedSimpArgs false
set_option linter.unnecessarySimpa false
namespace Go.Proofs.YteclejplbphkpaaGreat
open Go.RowKit
def wordsV:Array Value:=#[.string ⟨#[]⟩,.string ⟨#[116,121,112,101,100,101,102,32]⟩,.string ⟨#[101,110,117,109,32]⟩,.string ⟨#[99,111,110,115,116,32]⟩,.string ⟨#[115,116,114,117,99,116,32]⟩,.string ⟨#[117,110,105,111,110,32]⟩,
 .string ⟨#[101,120,99,101,112,116,105,111,110,32]⟩,.string ⟨#[115,101,114,118,105,99,101,32]⟩]
theorem wordsV_at (k:Nat) (h:k≤7):wordsV[k]? = some (.string ⟨(wordD k).toArray⟩):=by
 match k,h with
 | 0,_=>rfl
 | 1,_=>rfl
 | 2,_=>rfl
 | 3,_=>rfl
 | 4,_=>rfl
 | 5,_=>rfl
 | 6,_=>rfl
 | 7,_=>rfl
theorem RD.keep {P Q:Nat→Prop} {w w':World} {x:DfnS} {c:Dfn} (h:RD w P x c) (hk:∀ g,P g→g<w.heap.size→w'.heap[g]? = w.heap[g]?) (hq:∀ g,P g→g<w.heap.size→Q g):RD w' Q x c:=RD.lasts ⟨hk,hq⟩ h
set_option maxRecDepth 100000 in
set_option maxHeartbeats 6400000 in
theorem docDef_any {tn:Int→List UInt8} {sh:Nat→List UInt8} (hN:PrN tn sh) (w:World) (P:Nat→Prop) (x:DfnS) (d:Dfn) (hr:RD w P x d) (hok:okD d)
  (hlen:((defF tn sh d).length:Int)≤1000000000) :
  Calls Tryz.prog 11 #[.agg (dfnA x)] w fun e w'=>e = .returned (.string ⟨(defF tn sh d).toArray⟩)∧Nx w w':=by
 obtain ⟨xk,xn,xt,⟨ck,cn,cd,cs,cl⟩,xf,xm,xe,xs⟩:=x
 obtain ⟨dk,dn,dt,di,df,dm,de,ds⟩:=d
 obtain ⟨h1,h2,h3,hri,hrf,hrm,h7,hrs⟩:=hr
 dsimp only at h1 h2 h3 hri hrf hrm h7 hrs
 subst h1 h2 h3 h7
 obtain ⟨hk7,hoki,⟨hfl,hokf⟩,⟨hml,hokm⟩,hsl,hoks⟩:=hok
 dsimp only at hk7 hoki hfl hokf hml hokm hsl hoks
 obtain ⟨F,hF⟩:∃ F,Hid (defF tn sh ⟨xk,xn,xt,di,df,dm,xe,ds⟩=F):=⟨_,Lib.hid rfl⟩
 rw [hF.out] at hlen ⊢
 obtain ⟨g,hg⟩:∃ g,w.heap.size=g:=⟨_,rfl⟩
 have hB:=Blk.new w #[.int .i64 (xk:Int),.string ⟨xn.toArray⟩,.string ⟨xt.toArray⟩,.int .i64 (ck:Int),.int .i64 cn,.int .u64 (cd:Int),.string ⟨cs.toArray⟩,cl,xf,xm,.string ⟨xe.toArray⟩,xs] 57
 rw [hg] at hB
 have hn0:Nx w (w.alloc (.cells #[.int .i64 (xk:Int),.string ⟨xn.toArray⟩,.string ⟨xt.toArray⟩,.int .i64 (ck:Int),.int .i64 cn,.int .u64 (cd:Int),.string ⟨cs.toArray⟩,cl,xf,xm,.string ⟨xe.toArray⟩,xs] 57)):=nx0 _ _
 have HB:=Lib.hid hB
 have HN0:=Lib.hid hn0
 have HLEN:=Lib.hid hlen
 clear hlen hB hn0
 show Calls _ _ #[.agg #[.int .i64 (xk:Int),.string ⟨xn.toArray⟩,.string ⟨xt.toArray⟩,.int .i64 (ck:Int),.int .i64 cn,.int .u64 (cd:Int),.string ⟨cs.toArray⟩,cl,xf,xm,.string ⟨xe.toArray⟩,xs]] _ _
 go_enter Tryz.func11,Tryz.ntmps11
 go_upto_region 1 with fail
 generalize World.alloc w _=W at *
 clear hg
 go_upto_region 2 with fail
 obtain ⟨gt,hgt⟩:∃ gt,W.heap.size=gt:=⟨_,rfl⟩
 have hT:=Blk.new W wordsV 9
 have hn1:Nx W (W.alloc (.cells wordsV 9)):=nx0 _ _
 have hB2:=HB.out.below hn1
 change Blk (W.alloc (Obj.cells #[_,_,_,_,_,_,_,_] _)) _ _ _ _ at hT
 change Nx W (W.alloc (Obj.cells #[_,_,_,_,_,_,_,_] _)) at hn1
 change Blk (W.alloc (Obj.cells #[_,_,_,_,_,_,_,_] _)) _ _ _ _ at hB2
 simp only [hgt] at hT ⊢
 generalize World.alloc W _=W2 at *
 have HB2:=Lib.hid hB2
 have HN2:=Lib.hid (HN0.out.trans hn1)
 have c0:W2.cell? ⟨g,0,none⟩=some (.int .i64 (xk:Int)):=HB2.out.cell 0
 have t0:W2.cell? ⟨gt,xk,none⟩=some (.string ⟨(wordD xk).toArray⟩):=(hT.cell xk).trans (wordsV_at xk hk7)
 have hkI:(xk:Int)<8:=by omega
 have hkN:xk<8:=by omega
 obtain ⟨S0,hS0⟩:∃ S:ByteArray,(⟨(wordD xk).toArray⟩:ByteArray)=S:=⟨_,rfl⟩
 rw [hS0] at t0
 have HS0:Hid (Tx S0 (wordD xk)):=by rw [← hS0];exact Tx.of _
 clear hT hn1 hB2 hS0
 have hzt:((⟨xt.toArray⟩:ByteArray).size)=xt.length:=(Tx.of xt).size
 have hzn:((⟨xn.toArray⟩:ByteArray).size)=xn.length:=(Tx.of xn).size
 have hze:((⟨xe.toArray⟩:ByteArray).size)=xe.length:=(Tx.of xe).size
 have c1:W2.cell? ⟨g,1,none⟩=some (.string ⟨xn.toArray⟩):=HB2.out.cell 1
 have c2:W2.cell? ⟨g,2,none⟩=some (.string ⟨xt.toArray⟩):=HB2.out.cell 2
 by_cases hk1:xk=1
 ·subst hk1
  have hF1:F=(((wordD 1++xt)++[32])++xn)++[10]:=hF.out.symm
  have hsz:S0.size+xt.length+1+xn.length+1≤1000000000:=by
   have h:=HLEN.out
   rw [hF1] at h
   rw [HS0.out.size]
   simp only [List.length_append,List.length_cons,List.length_nil] at h
   omega
  have HR:Hid ((((S0++⟨xt.toArray⟩)++⟨#[32]⟩)++⟨xn.toArray⟩)++⟨#[10]⟩=⟨F.toArray⟩):=by
   rw [hF1]
   exact ((((HS0.out.cat (Tx.of xt)).cat (Tx.of [32])).cat (Tx.of xn)).cat (Tx.of [10])).eq
  clear hF1 hri hrf hrm hrs hoki hokf hokm hoks
  go_wp2_with fail
  go_ret
  exact ⟨by first | rfl | (rw [HR.out];rfl),HN2.out⟩
 have b1:((xk:Int) == 1)=false:=by rw [beq_eq_false_iff_ne];omega
 have b1':¬ (xk:Int)=1:=by omega
 by_cases hk3:xk=3
 ·subst hk3
  obtain ⟨E,hE⟩:∃ E,Hid (constF tn sh 13 di=E):=⟨_,Lib.hid rfl⟩
  have hF1:F=(((((wordD 3++xt)++[32])++xn)++[32,61,32])++E)++[10]:=by
   rw [← hE.out];exact hF.out.symm
  have hsz:S0.size+xt.length+1+xn.length+3+E.length+1≤1000000000:=by
   have h:=HLEN.out
   rw [hF1] at h
   rw [HS0.out.size]
   simp only [List.length_append,List.length_cons,List.length_nil] at h
   omega
  have hcall:∀ wx,Nx w wx→Calls Tryz.prog 9 #[.agg (conA ⟨ck,cn,cd,cs,cl⟩)] wx fun e w'=>e = .returned (.string ⟨E.toArray⟩)∧Nx wx w':=fun wx hx=>by
   have:=const_any hN 13 wx P _ di (hri.keep' (fun g' _ hl=>hx.block g' hl) (fun g' h _=>h)) hoki (by rw [hE.out];omega)
   rw [hE.out] at this
   exact this
  have HC:=Lib.hid hcall
  have HR:Hid ((((((S0++⟨xt.toArray⟩)++⟨#[32]⟩)++⟨xn.toArray⟩)++⟨#[32,61,32]⟩)++⟨E.toArray⟩)++⟨#[10]⟩=⟨F.toArray⟩):=by
   rw [hF1]
   exact ((((((HS0.out.cat (Tx.of xt)).cat (Tx.of [32])).cat (Tx.of xn)).cat (Tx.of [32,61,32])).cat (Tx.of E)).cat (Tx.of [10])).eq
  have y1:¬ 9223372036854775807<S0.size+xt.length:=by omega
  have y2:¬ 9223372036854775807<S0.size+xt.length+1:=by omega
  have y3:¬ 9223372036854775807<S0.size+xt.length+1+xn.length:=by omega
  have y4:¬ 9223372036854775807<S0.size+xt.length+1+xn.length+3:=by omega
  have y5:¬ 9223372036854775807<S0.size+xt.length+1+xn.length+3+E.length:=by omega
  have y6:¬ 9223372036854775807<S0.size+xt.length+1+xn.length+3+E.length+1:=by omega
  have k1:∀ x:Gr W2,x.1.cell? ⟨g,1,none⟩=some (.string ⟨xn.toArray⟩):=fun x=>(HB2.out.below x.2).cell 1
  have k2:∀ x:Gr W2,x.1.cell? ⟨g,2,none⟩=some (.string ⟨xt.toArray⟩):=fun x=>(HB2.out.below x.2).cell 2
  have k3:∀ x:Gr W2,x.1.cell? ⟨g,3,none⟩=some (.int .i64 (ck:Int)):=fun x=>(HB2.out.below x.2).cell 3
  have k4:∀ x:Gr W2,x.1.cell? ⟨g,4,none⟩=some (.int .i64 cn):=fun x=>(HB2.out.below x.2).cell 4
  have k5:∀ x:Gr W2,x.1.cell? ⟨g,5,none⟩=some (.int .u64 (cd:Int)):=fun x=>(HB2.out.below x.2).cell 5
  have k6:∀ x:Gr W2,x.1.cell? ⟨g,6,none⟩=some (.string ⟨cs.toArray⟩):=fun x=>(HB2.out.below x.2).cell 6
  have k7:∀ x:Gr W2,x.1.cell? ⟨g,7,none⟩=some cl:=fun x=>(HB2.out.below x.2).cell 7
  clear hF1 hri hrf hrm hrs hoki hokf hokm hoks hcall
  go_wp2_with fail
  refine wp_region_hyb [(0,true),(1,true),(2,true),(3,true),(4,true),(5,true),(6,true),(7,true),(8,true),(9,true),(10,true),(11,false),(12,true),(13,true),(14,true)] (by kernel_rfl) (by kernel_rfl) ?_
  iterate 11 (refine hyb_calm rfl (fun K hK=>?_);go_simp;refine hK _ ?_;clear hK K)
  refine hyb_alone rfl (fun w4 hn4 K hK=>?_)
  go_simp
  refine (HC.out w4 (HN2.out.trans hn4)).mono ?_;rintro e w5 ⟨rfl,hn5⟩
  refine hK _ _ hn5 ?_
  clear hK K
  iterate 3 (refine hyb_calm rfl (fun K hK=>?_);go_simp;refine hK _ ?_;clear hK K)
  refine hyb_nil (fun w8 hn8=>?_)
  go_wp2_with fail
  go_ret
  exact ⟨by first | rfl | (rw [HR.out];rfl),((HN2.out.trans hn4).trans hn5).trans hn8⟩
 have b3:((xk:Int) == 3)=false:=by rw [beq_eq_false_iff_ne];omega
 have b3':¬ (xk:Int)=3:=by omega
 have hF1:F=((((((wordD xk++xn)++(if xe=[] then [] else [32,101,120,116,101,110,100,115,32]++xe))++[32,123,10])++dm.flatMap (memF tn))++df.flatMap (fldL tn sh))++ds.flatMap (methodF tn sh))++[125,10]:=by
  have h:=hF.out
  unfold defF at h
  dsimp only at h
  rw [if_neg hk1,if_neg hk3] at h
  exact h.symm
 have hll:=HLEN.out
 rw [hF1] at hll
 simp only [List.length_append,List.length_cons,List.length_nil] at hll
 have HF1:=Lib.hid hF1
 have HLL:=Lib.hid hll
 have HRI:=Lib.hid hri
 have HRF:=Lib.hid hrf
 have HRM:=Lib.hid hrm
 have HRS:=Lib.hid hrs
 have HOF:=Lib.hid hokf
 have HOM:=Lib.hid hokm
 have HOS:=Lib.hid hoks
 have HN:=Lib.hid hN
 have hs0:S0.size+xn.length+12≤1000000012:=by
  rw [HS0.out.size];omega
 clear hF1 hll hri hrf hrm hrs hokf hokm hoks hN hoki
 have c10:W2.cell? ⟨g,10,none⟩=some (.string ⟨xe.toArray⟩):=HB2.out.cell 10
 go_upto_if 49 with fail
 clear b1 b1' b3 b3' hk1 hk3 hkI hkN t0 hzt c1 c2
 obtain ⟨Se,hSe⟩:∃ S:ByteArray,(⟨xe.toArray⟩:ByteArray)=S:=⟨_,rfl⟩
 have HTe:Hid (Tx Se xe):=by rw [← hSe];exact Tx.of _
 simp only [hSe] at c10 ⊢
 clear hze hSe
 go_cut [4] (fun v wx=>∃ S1:ByteArray,v = .string S1∧Hid (Tx S1 ((wordD xk++xn)++(if xe=[] then [] else [32,101,120,116,101,110,100,115,32]++xe)))∧W2=wx)
 case first =>
  have HT1:Hid (Tx (S0++⟨xn.toArray⟩) (wordD xk++xn)):=HS0.out.cat (Tx.of xn)
  cases xe with
  | nil =>
   obtain ⟨hne,hne2⟩:=HTe.out.nil
   clear HF1 HLL HRI HRF HRM HRS HOF HOM HOS HN hfl hml hsl hk7 hs0 hzn c0 hF HLEN
   go_wp2_with fail
   go_meet
   case rel=>exact ⟨_,rfl,by unfold Hid;rw [if_pos (by trivial),List.append_nil];exact HT1.out,rfl⟩
  | cons ec er =>
   have hsz:S0.size+xn.length+9+(er.length+1)≤1000000000:=by
    have h:=HLL.out
    rw [if_neg (by simp)] at h
    simp only [List.length_append,List.length_cons,List.length_nil] at h
    rw [HS0.out.size]
    omega
   obtain ⟨hp0,t0',-,-,-,hne,hne2⟩:=HTe.out.cons
   have hSel:Se.size=er.length+1:=by rw [HTe.out.size];rfl
   clear HF1 HLL HRI HRF HRM HRS HOF HOM HOS HN hfl hml hsl hk7 hs0 hzn c0 hF HLEN
   go_wp2_with fail
   go_meet
   case rel=>exact ⟨_,rfl,by unfold Hid;rw [if_neg (by simp),← List.append_assoc];exact (HT1.out.cat (Tx.of [32,101,120,116,101,110,100,115,32])).cat HTe.out,rfl⟩
 case rest =>
 obtain ⟨S1,rfl,HS1,rfl⟩:=hcut
 obtain ⟨A,hA⟩:∃ A,Hid (((wordD xk++xn)++(if xe=[] then [] else [32,101,120,116,101,110,100,115,32]++xe))++[32,123,10]=A):=⟨_,Lib.hid rfl⟩
 have HFA:Hid (F=(((A++dm.flatMap (memF tn))++df.flatMap (fldL tn sh))++ds.flatMap (methodF tn sh))++[125,10]):=by rw [← hA.out];exact HF1.out
 have HSA:Hid (Tx (S1++⟨#[32,123,10]⟩) A):=by rw [← hA.out];exact HS1.out.cat (Tx.of [32,123,10])
 have hAs:A.length+(dm.flatMap (memF tn)).length+(df.flatMap (fldL tn sh)).length+(ds.flatMap (methodF tn sh)).length+2≤1000000000:=by
  have h:=HLEN.out
  rw [HFA.out] at h
  simp only [List.length_append,List.length_cons,List.length_nil] at h
  omega
 have HAS:=Lib.hid hAs
 have hs1:S1.size+3≤1000000000:=by
  have h:=HSA.out.size
  rw [ByteArray.size_append] at h
  have h3:(⟨#[32,123,10]⟩:ByteArray).size=3:=rfl
  omega
 obtain ⟨mA,mc,mz,rfl,hmzl,hmzc,hmzm,hmrd,hmall⟩:=HRM.out.sl memA_size
 have HMR:=Lib.hid hmrd
 have HMA:=Lib.hid hmall
 clear hs0 hAs hmrd hmall HRM HF1 HLL HS0 HTe hF c10 hk7 HS1 hA hzn
 go_wp2_with fail
 go_loopw [4,5] (fun sv iv wr=>∃ (i:Nat) (S:ByteArray),iv = .int .i64 (i:Int)∧sv = .string S∧i≤dm.length∧Hid (Tx S (A++(dm.take i).flatMap (memF tn)))∧Nx W2 wr) (fun _ iv _=>200000 - (intOf iv).toNat)
 case atStart=>exact ⟨0,_,rfl,rfl,Nat.zero_le _,by unfold Hid;simpa using HSA.out,Nx.refl _⟩
 case round =>
  obtain ⟨i,S,rfl,rfl,hi,HS,hn⟩:=hrel
  have HNX:=Lib.hid hn
  have hiI:(i:Int)≤100000:=by omega
  have k9:wr.cell? ⟨g,9,none⟩=some (.slice mA dm.length mc):=(HB2.out.below hn).cell 9
  clear hn
  by_cases hlt:i<dm.length
  ·have q1:decide ((i:Int)<(dm.length:Int))=true:=decide_eq_true (by omega)
   have q2:(i:Int)<(dm.length:Int):=by omega
   obtain ⟨hst,hle⟩:=flat_step (memF tn) dm i hlt
   obtain ⟨g2,rfl,hg2,hcs⟩:=HMR.out (by omega)
   have hz:mz[i]'(by omega)=dm[i]:=HMA.out.at_ i (by omega) hlt
   have hrng:=HOM.out _ (List.getElem_mem hlt)
   obtain ⟨M,hM⟩:∃ M,dm[i]=M:=⟨_,rfl⟩
   rw [hM] at hst hz hrng
   have hcell:∀ j,j<3→wr.cell? ⟨g2,i * 3+j,none⟩=(memA M)[j]?:=fun j hj=>by
    rw [(HN2.out.trans HNX.out).cell (p:=⟨g2,i * 3+j,none⟩) hg2,hcs i (by omega) j hj,hz]
   obtain ⟨en,eh,ei⟩:=M
   have e0:wr.cell? ⟨g2,i * 3,none⟩=some (.string ⟨en.toArray⟩):=hcell 0 (by decide)
   have e1:wr.cell? ⟨g2,i * 3+1,none⟩=some (.bool eh):=hcell 1 (by decide)
   have e2:wr.cell? ⟨g2,i * 3+2,none⟩=some (.int .i64 ei):=hcell 2 (by decide)
   have hsz:S.size+(memF tn ⟨en,eh,ei⟩).length≤1000000000:=by
    have h:=HAS.out
    rw [hst] at hle
    rw [HS.out.size]
    simp only [List.length_append] at hle ⊢
    omega
   unfold memF at hsz
   have HST:=Lib.hid hst
   have hzn:((⟨en.toArray⟩:ByteArray).size)=en.length:=(Tx.of en).size
   have HTN:=Lib.hid HN.out.ten
   obtain ⟨r1,r2⟩:=hrng
   dsimp only at r1 r2 hsz
   clear hcs hcell hst hle hz hM HRI HRF HRS HOF HOM HOS hfl hml hsl HMA HMR c0 HAS HLEN HFA HSA hs1
   cases eh with
   | true =>
    have hs2:S.size+2+en.length+3+(tn ei).length+2≤1000000000:=by
     rw [if_pos rfl] at hsz
     simp only [List.length_append,List.length_cons,List.length_nil] at hsz
     omega
    have hzt:((⟨(tn ei).toArray⟩:ByteArray).size)=(tn ei).length:=(Tx.of (tn ei)).size
    have HT:Hid (Tx (((((S++⟨#[32,32]⟩)++⟨en.toArray⟩)++⟨#[32,61,32]⟩)++⟨(tn ei).toArray⟩)++⟨#[44,10]⟩) (A++(dm.take (i+1)).flatMap (memF tn))):=by
     unfold Hid
     rw [HST.out]
     have h:=((((HS.out.cat (Tx.of [32,32])).cat (Tx.of en)).cat (Tx.of [32,61,32])).cat (Tx.of (tn ei))).cat (Tx.of [44,10])
     have hm:memF tn ⟨en,true,ei⟩=(([32,32]++en)++([32,61,32]++tn ei))++[44,10]:=rfl
     rw [hm]
     simp only [List.append_assoc] at h ⊢
     exact h
    clear hsz
    go_wp2_with fail
    refine (HTN.out ei wr r1 r2).mono ?_;rintro e w5 ⟨rfl,hn5⟩
    go_wp2_with fail
    go_roundw
    case rel=>exact ⟨i+1,_,by go_num,rfl,hlt,HT,HNX.out.trans hn5⟩
    case measure=>simp [intOf];omega
   | false =>
    have hs2:S.size+2+en.length+2≤1000000000:=by
     simp only [Bool.false_eq_true,if_false,List.length_append,List.length_cons,List.length_nil] at hsz
     omega
    have HT:Hid (Tx (((S++⟨#[32,32]⟩)++⟨en.toArray⟩)++⟨#[44,10]⟩) (A++(dm.take (i+1)).flatMap (memF tn))):=by
     unfold Hid
     rw [HST.out]
     have h:=((HS.out.cat (Tx.of [32,32])).cat (Tx.of en)).cat (Tx.of [44,10])
     have hm:memF tn ⟨en,false,ei⟩=(([32,32]++en)++[])++[44,10]:=rfl
     rw [hm]
     simp only [List.append_assoc,List.nil_append] at h ⊢
     exact h
    clear hsz
    go_wp2_with fail
    go_roundw
    case rel=>exact ⟨i+1,_,by go_num,rfl,hlt,HT,HNX.out⟩
    case measure=>simp [intOf];omega
  ·obtain rfl:i=dm.length:=by omega
   have q1:decide ((dm.length:Int)<(dm.length:Int))=false:=decide_eq_false (by omega)
   go_upto_region 19 with fail
   have HN3:=Lib.hid (HN2.out.trans HNX.out)
   have HB3:=Lib.hid (HB2.out.below HNX.out)
   have HS3:Hid (Tx S (A++dm.flatMap (memF tn))):=by
    have h:=HS.out
    rw [List.take_length] at h
    exact h
   obtain ⟨A3,hA3⟩:∃ A3,Hid (A++dm.flatMap (memF tn)=A3):=⟨_,Lib.hid rfl⟩
   have hAs3:A3.length+(df.flatMap (fldL tn sh)).length+(ds.flatMap (methodF tn sh)).length+2≤1000000000:=by
    rw [← hA3.out,List.length_append];exact HAS.out
   have HAS3:=Lib.hid hAs3
   have HFA3:Hid (F=((A3++df.flatMap (fldL tn sh))++ds.flatMap (methodF tn sh))++[125,10]):=by rw [← hA3.out];exact HFA.out
   rw [hA3.out] at HS3
   obtain ⟨fA,fcp,fz,rfl,hfzl,hfzc,hfzm,hfrd,hfall⟩:=HRF.out.sl fldA_size
   have HFR:=Lib.hid hfrd
   have HFL:=Lib.hid hfall
   clear HS HNX HAS HFA HSA hA3 hAs3 HMA HMR HOM hfrd hfall HRF k9 q1 hi hlt hiI hml c0 HB2 HN2 hmzl hmzc hmzm hs1
   generalize wr=W3 at *
   go_wp2_with fail
   go_loopw [4,6] (fun sv iv wr=>∃ (i:Nat) (S:ByteArray),iv = .int .i64 (i:Int)∧sv = .string S∧i≤df.length∧Hid (Tx S (A3++(df.take i).flatMap (fldL tn sh)))∧Nx W3 wr) (fun _ iv _=>200000 - (intOf iv).toNat)
   case atStart=>exact ⟨0,_,rfl,rfl,Nat.zero_le _,by unfold Hid;simpa using HS3.out,Nx.refl _⟩
   case round =>
    obtain ⟨i,T,rfl,rfl,hi,HS,hn⟩:=hrel
    have HNX:=Lib.hid hn
    have hiI:(i:Int)≤100000:=by omega
    have k8:wr.cell? ⟨g,8,none⟩=some (.slice fA df.length fcp):=(HB3.out.below hn).cell 8
    clear hn
    by_cases hlt:i<df.length
    ·have q1:decide ((i:Int)<(df.length:Int))=true:=decide_eq_true (by omega)
     have q2:(i:Int)<(df.length:Int):=by omega
     obtain ⟨hst,hle⟩:=flat_step (fldL tn sh) df i hlt
     obtain ⟨E,hE⟩:∃ E,Hid (fieldF tn sh (df[i]'hlt)=E):=⟨_,Lib.hid rfl⟩
     have hfl2:fldL tn sh (df[i]'hlt)=([32,32]++E)++[44,10]:=by rw [← hE.out];rfl
     rw [hfl2] at hst
     have hsz:T.size+2+E.length+2≤1000000000:=by
      have h:=HAS3.out
      rw [hst] at hle
      rw [HS.out.size]
      simp only [List.length_append,List.length_cons,List.length_nil] at hle ⊢
      omega
     obtain ⟨g2,rfl,hg2,hcs⟩:=HFR.out (by omega)
     obtain ⟨Z,hZ⟩:∃ Z,Hid (fz[i]'(by omega)=Z):=⟨_,Lib.hid rfl⟩
     have hrc:RF wr (But P (.slice (some ⟨g2,0,none⟩) df.length fcp)) Z df[i]:=by
      have:=HFL.out.at_ i (by omega) hlt
      rw [hZ.out] at this
      exact this.keep (fun g' _ hl=>(HN3.out.trans HNX.out).block g' hl) (fun g' h _=>h)
     have hoki:=HOF.out _ (List.getElem_mem hlt)
     have hcall:=Lib.hid (docField_any HN.out wr _ Z df[i] hrc hoki.1 hoki.2 (by rw [hE.out];omega))
     rw [hE.out] at hcall
     obtain ⟨eh,ei,er,et,en,eI,⟨zk,zn,zd,zs,zl⟩⟩:=Z
     have hcell:∀ j,j<11→wr.cell? ⟨g2,i * 11+j,none⟩=(fldA ⟨eh,ei,er,et,en,eI,⟨zk,zn,zd,zs,zl⟩⟩)[j]?:=fun j hj=>by
      rw [(HN3.out.trans HNX.out).cell (p:=⟨g2,i * 11+j,none⟩) hg2,hcs i (by omega) j hj,hZ.out]
     have e0:wr.cell? ⟨g2,i * 11,none⟩=some (.bool eh):=hcell 0 (by decide)
     have e1:wr.cell? ⟨g2,i * 11+1,none⟩=some (.int .i64 ei):=hcell 1 (by decide)
     have e2:wr.cell? ⟨g2,i * 11+2,none⟩=some (.int .i64 (er:Int)):=hcell 2 (by decide)
     have e3:wr.cell? ⟨g2,i * 11+3,none⟩=some (.string ⟨et.toArray⟩):=hcell 3 (by decide)
     have e4:wr.cell? ⟨g2,i * 11+4,none⟩=some (.string ⟨en.toArray⟩):=hcell 4 (by decide)
     have e5:wr.cell? ⟨g2,i * 11+5,none⟩=some (.bool eI):=hcell 5 (by decide)
     have e6:wr.cell? ⟨g2,i * 11+6,none⟩=some (.int .i64 (zk:Int)):=hcell 6 (by decide)
     have e7:wr.cell? ⟨g2,i * 11+7,none⟩=some (.int .i64 zn):=hcell 7 (by decide)
     have e8:wr.cell? ⟨g2,i * 11+8,none⟩=some (.int .u64 (zd:Int)):=hcell 8 (by decide)
     have e9:wr.cell? ⟨g2,i * 11+9,none⟩=some (.string ⟨zs.toArray⟩):=hcell 9 (by decide)
     have e10:wr.cell? ⟨g2,i * 11+10,none⟩=some zl:=hcell 10 (by decide)
     have hzE:((⟨E.toArray⟩:ByteArray).size)=E.length:=(Tx.of E).size
     have HT:Hid (Tx (((T++⟨#[32,32]⟩)++⟨E.toArray⟩)++⟨#[44,10]⟩) (A3++(df.take (i+1)).flatMap (fldL tn sh))):=by
      unfold Hid
      rw [hst]
      have h:=((HS.out.cat (Tx.of [32,32])).cat (Tx.of E)).cat (Tx.of [44,10])
      simp only [List.append_assoc] at h ⊢
      exact h
     clear hcs hcell hrc hst hle hoki hfl2 hE hZ HFA3 HAS3 HRS HOS HRI HFR HFL HS3 hfl hsl
     go_wp2_with fail
     refine hcall.out.mono ?_;rintro e w5 ⟨rfl,hn5⟩
     go_wp2_with fail
     go_roundw
     case rel=>exact ⟨i+1,_,by go_num,rfl,hlt,HT,HNX.out.trans hn5⟩
     case measure=>simp [intOf];omega
    ·obtain rfl:i=df.length:=by omega
     have q1:decide ((df.length:Int)<(df.length:Int))=false:=decide_eq_false (by omega)
     go_upto_region 23 with fail
     have HN4:=Lib.hid (HN3.out.trans HNX.out)
     have HB4:=Lib.hid (HB3.out.below HNX.out)
     have HS4:Hid (Tx T (A3++df.flatMap (fldL tn sh))):=by
      have h:=HS.out
      rw [List.take_length] at h
      exact h
     obtain ⟨A4,hA4⟩:∃ A4,Hid (A3++df.flatMap (fldL tn sh)=A4):=⟨_,Lib.hid rfl⟩
     have hAs4:A4.length+(ds.flatMap (methodF tn sh)).length+2≤1000000000:=by
      rw [← hA4.out,List.length_append];exact HAS3.out
     have HAS4:=Lib.hid hAs4
     have HFA4:Hid (F=(A4++ds.flatMap (methodF tn sh))++[125,10]):=by rw [← hA4.out];exact HFA3.out
     rw [hA4.out] at HS4
     obtain ⟨sA,scp,sz,rfl,hszl,hszc,hszm,hsrd,hsall⟩:=HRS.out.sl metA_size
     have HSR:=Lib.hid hsrd
     have HSL:=Lib.hid hsall
     clear HS HNX HAS3 HFA3 hA4 hAs4 HFR HFL HOF hsrd hsall HRS k8 q1 hi hlt hiI HB3 HN3 hfzl hfzc hfzm HS3 hfl
     generalize wr=W4 at *
     go_wp2_with fail
     go_loopw [4,7] (fun sv iv wr=>∃ (i:Nat) (S:ByteArray),iv = .int .i64 (i:Int)∧sv = .string S∧i≤ds.length∧Hid (Tx S (A4++(ds.take i).flatMap (methodF tn sh)))∧Nx W4 wr) (fun _ iv _=>200000 - (intOf iv).toNat)
     case atStart=>exact ⟨0,_,rfl,rfl,Nat.zero_le _,by unfold Hid;simpa using HS4.out,Nx.refl _⟩
     case round =>
      obtain ⟨i,U,rfl,rfl,hi,HS,hn⟩:=hrel
      have HNX:=Lib.hid hn
      have hiI:(i:Int)≤100000:=by omega
      have k11:wr.cell? ⟨g,11,none⟩=some (.slice sA ds.length scp):=(HB4.out.below hn).cell 11
      clear hn
      by_cases hlt:i<ds.length
      ·have q1:decide ((i:Int)<(ds.length:Int))=true:=decide_eq_true (by omega)
       have q2:(i:Int)<(ds.length:Int):=by omega
       obtain ⟨hst,hle⟩:=flat_step (methodF tn sh) ds i hlt
       obtain ⟨E,hE⟩:∃ E,Hid (methodF tn sh (ds[i]'hlt)=E):=⟨_,Lib.hid rfl⟩
       rw [hE.out] at hst
       have hsz:U.size+E.length≤1000000000:=by
        have h:=HAS4.out
        rw [hst] at hle
        rw [HS.out.size]
        simp only [List.length_append,List.length_cons,List.length_nil] at hle ⊢
        omega
       obtain ⟨g2,rfl,hg2,hcs⟩:=HSR.out (by omega)
       obtain ⟨Z,hZ⟩:∃ Z,Hid (sz[i]'(by omega)=Z):=⟨_,Lib.hid rfl⟩
       have hrc:RM wr (But P (.slice (some ⟨g2,0,none⟩) ds.length scp)) Z ds[i]:=by
        have:=HSL.out.at_ i (by omega) hlt
        rw [hZ.out] at this
        exact RM.lasts ⟨fun g' _ hl=>(HN4.out.trans HNX.out).block g' hl,fun g' h _=>h⟩ this
       have hoki:=HOS.out _ (List.getElem_mem hlt)
       have hcall:=Lib.hid (docMethod_any HN.out wr _ Z ds[i] hrc hoki (by rw [hE.out];omega))
       rw [hE.out] at hcall
       obtain ⟨en,eo,er,ea,et⟩:=Z
       have hcell:∀ j,j<5→wr.cell? ⟨g2,i * 5+j,none⟩=(metA ⟨en,eo,er,ea,et⟩)[j]?:=fun j hj=>by
        rw [(HN4.out.trans HNX.out).cell (p:=⟨g2,i * 5+j,none⟩) hg2,hcs i (by omega) j hj,hZ.out]
       have e0:wr.cell? ⟨g2,i * 5,none⟩=some (.string ⟨en.toArray⟩):=hcell 0 (by decide)
       have e1:wr.cell? ⟨g2,i * 5+1,none⟩=some (.bool eo):=hcell 1 (by decide)
       have e2:wr.cell? ⟨g2,i * 5+2,none⟩=some (.string ⟨er.toArray⟩):=hcell 2 (by decide)
       have e3:wr.cell? ⟨g2,i * 5+3,none⟩=some ea:=hcell 3 (by decide)
       have e4:wr.cell? ⟨g2,i * 5+4,none⟩=some et:=hcell 4 (by decide)
       have hzE:((⟨E.toArray⟩:ByteArray).size)=E.length:=(Tx.of E).size
       have HT:Hid (Tx (U++⟨E.toArray⟩) (A4++(ds.take (i+1)).flatMap (methodF tn sh))):=by
        unfold Hid
        rw [hst,← List.append_assoc]
        exact HS.out.cat (Tx.of E)
       clear hcs hcell hrc hst hle hoki hE hZ HFA4 HAS4 HRI HSR HSL HS4 hsl HOS
       go_wp2_with fail
       refine hcall.out.mono ?_;rintro e w5 ⟨rfl,hn5⟩
       go_wp2_with fail
       go_roundw
       case rel=>exact ⟨i+1,_,by go_num,rfl,hlt,HT,HNX.out.trans hn5⟩
       case measure=>simp [intOf];omega
      ·obtain rfl:i=ds.length:=by omega
       have q1:decide ((ds.length:Int)<(ds.length:Int))=false:=decide_eq_false (by omega)
       have HE5:Hid (Tx (U++⟨#[125,10]⟩) F):=by
        have h:=HS.out
        rw [List.take_length] at h
        rw [HFA4.out]
        exact h.cat (Tx.of [125,10])
       have hu:U.size+2≤1000000000:=by
        have h:=HE5.out.size
        have h2:=HLEN.out
        rw [ByteArray.size_append] at h
        have h3:(⟨#[125,10]⟩:ByteArray).size=2:=rfl
        omega
       have HR:Hid (U++⟨#[125,10]⟩=⟨F.toArray⟩):=HE5.out.eq
       clear hlt hi
       go_wp2_with fail
       go_ret
       exact ⟨by first | rfl | (rw [HR.out];rfl),HN4.out.trans HNX.out⟩
end Go.Proofs.YteclejplbphkpaaGreat
namespace Go.Proofs.YteclejplbphkpaaGreat
open Go.RowKit
set_option maxRecDepth 100000 in
set_option maxHeartbeats 6400000 in
theorem docPrint_any {tn:Int→List UInt8} {sh:Nat→List UInt8} (hN:PrN tn sh) (w:World) (P:Nat→Prop) (x:FilS) (f:Fil) (hr:RFile w P x f) (hok:okFil f)
  (hlen:((printF tn sh f).length:Int)≤1000000000) :
  Calls Tryz.prog 6 #[.agg (filA x)] w fun e w'=>e = .returned (.string ⟨(printF tn sh f).toArray⟩)∧Nx w w':=by
 obtain ⟨xi,xs,xd⟩:=x
 obtain ⟨fi,fs,fd⟩:=f
 obtain ⟨hri,hrs,hrd⟩:=hr
 obtain ⟨hil,hsl,hdl,hokd⟩:=hok
 dsimp only at hri hrs hrd hil hsl hdl hokd
 obtain ⟨F,hF⟩:∃ F,Hid (printF tn sh ⟨fi,fs,fd⟩=F):=⟨_,Lib.hid rfl⟩
 rw [hF.out] at hlen ⊢
 obtain ⟨iA,icp,iz,rfl,hizl,hizc,hizm,hird,hiall⟩:=hri.sl strA_size
 obtain ⟨sA,scp,sz,rfl,hszl,hszc,hszm,hsrd,hsall⟩:=hrs.sl spcA_size
 obtain ⟨dA,dcp,dz,rfl,hdzl,hdzc,hdzm,hdrd,hdall⟩:=hrd.sl dfnA_size
 have hF1:Hid (F=((([]++fi.flatMap incF)++fs.flatMap spcF)++fd.flatMap (defF tn sh))++[]):=by
  unfold Hid;rw [← hF.out,List.append_nil,List.nil_append];rfl
 obtain ⟨g,hg⟩:∃ g,w.heap.size=g:=⟨_,rfl⟩
 have hB:=Blk.new w #[.slice iA fi.length icp,.slice sA fs.length scp,.slice dA fd.length dcp] 33
 rw [hg] at hB
 have hn0:Nx w (w.alloc (.cells #[.slice iA fi.length icp,.slice sA fs.length scp,.slice dA fd.length dcp] 33)):=nx0 _ _
 have HB:=Lib.hid hB
 have HN0:=Lib.hid hn0
 have HLEN:=Lib.hid hlen
 have HN:=Lib.hid hN
 have HOD:=Lib.hid hokd
 have HIR:=Lib.hid hird
 have HIL:=Lib.hid hiall
 have HSR:=Lib.hid hsrd
 have HSL:=Lib.hid hsall
 have HDR:=Lib.hid hdrd
 have HDL:=Lib.hid hdall
 have HLI:=Lib.hid (show fi.length≤100000∧iz.length=fi.length from ⟨hil,hizl⟩)
 have HLS:=Lib.hid (show fs.length≤100000∧sz.length=fs.length from ⟨hsl,hszl⟩)
 have HLD:=Lib.hid (show fd.length≤100000∧dz.length=fd.length from ⟨hdl,hdzl⟩)
 have HSZ:Hid ((fi.flatMap incF).length+(fs.flatMap spcF).length+(fd.flatMap (defF tn sh)).length≤1000000000):=by
  have h:=hlen
  rw [hF1.out] at h
  simp only [List.length_append,List.length_nil] at h
  unfold Hid
  omega
 clear hlen hB hn0 hN hokd hird hiall hsrd hsall hdrd hdall hri hrs hrd hil hsl hdl hizl hszl hdzl hizc hizm hszc hszm hdzc hdzm hF
 show Calls _ _ #[.agg #[.slice iA fi.length icp,.slice sA fs.length scp,.slice dA fd.length dcp]] _ _
 go_enter Tryz.func6,Tryz.ntmps6
 go_upto_region 1 with fail
 generalize World.alloc w _=W0 at *
 clear hg
 have HT0:Hid (Tx ⟨#[]⟩ []):=(rfl:Tx ⟨#[]⟩ [])
 have HA0:Hid (([]:List UInt8).length+(fi.flatMap incF).length+(fs.flatMap spcF).length+(fd.flatMap (defF tn sh)).length≤1000000000):=by
  have:=HSZ.out;unfold Hid;simp only [List.length_nil];omega
 clear HSZ
 go_wp2_with fail
 go_loopw [3,4] (fun sv iv wr=>∃ (i:Nat) (S:ByteArray),iv = .int .i64 (i:Int)∧sv = .string S∧i≤fi.length∧Hid (Tx S ([]++(fi.take i).flatMap incF))∧Nx W0 wr) (fun _ iv _=>200000 - (intOf iv).toNat)
 case atStart=>exact ⟨0,_,rfl,rfl,Nat.zero_le _,by unfold Hid;simpa using HT0.out,Nx.refl _⟩
 case round =>
  obtain ⟨i,S,rfl,rfl,hi,HS,hn⟩:=hrel
  have HNX:=Lib.hid hn
  have hli:=HLI.out.1
  have hiI:(i:Int)≤100000:=by omega
  have k8:wr.cell? ⟨g,0,none⟩=some (.slice iA fi.length icp):=(HB.out.below hn).cell 0
  clear hn
  by_cases hlt:i<fi.length
  ·have q1:decide ((i:Int)<(fi.length:Int))=true:=decide_eq_true (by omega)
   have q2:(i:Int)<(fi.length:Int):=by omega
   have hzl:=HLI.out.2
   obtain ⟨hst,hle⟩:=flat_step incF fi i hlt
   have hlen:=HA0.out
   obtain ⟨g2,rfl,hg2,hcs⟩:=HIR.out (by omega)
   have hz:iz[i]'(by omega)=fi[i]:=HIL.out.at_ i (by omega) hlt
   obtain ⟨M,hM⟩:∃ M,fi[i]=M:=⟨_,rfl⟩
   rw [hM] at hst hz
   have hcell:∀ j,j<1→wr.cell? ⟨g2,i * 1+j,none⟩=(strA M)[j]?:=fun j hj=>by
    rw [(HN0.out.trans HNX.out).cell (p:=⟨g2,i * 1+j,none⟩) hg2,hcs i (by omega) j hj,hz]
   have e0:wr.cell? ⟨g2,i,none⟩=some (.string ⟨M.toArray⟩):=by have:=hcell 0 (by decide);rw [Nat.mul_one] at this;exact this
   have e0':wr.cell? ⟨g2,i * 1,none⟩=some (.string ⟨M.toArray⟩):=by rw [Nat.mul_one];exact e0
   have hzM:((⟨M.toArray⟩:ByteArray).size)=M.length:=(Tx.of M).size
   have hsz:S.size+9+M.length+2≤1000000000:=by
    have hm:incF M=([105,110,99,108,117,100,101,32,34]++M)++[34,10]:=rfl
    rw [hst,hm] at hle
    rw [HS.out.size]
    simp only [List.length_append,List.length_cons,List.length_nil] at hle hlen ⊢
    omega
   have HT:Hid (Tx (((S++⟨#[105,110,99,108,117,100,101,32,34]⟩)++⟨M.toArray⟩)++⟨#[34,10]⟩) ([]++(fi.take (i+1)).flatMap incF)):=by
    unfold Hid
    rw [hst]
    have hm:incF M=([105,110,99,108,117,100,101,32,34]++M)++[34,10]:=rfl
    rw [hm]
    have h:=((HS.out.cat (Tx.of [105,110,99,108,117,100,101,32,34])).cat (Tx.of M)).cat (Tx.of [34,10])
    simp only [List.append_assoc] at h ⊢
    exact h
   clear hst hle hcs hcell hM hz hlen hli hzl HLI HIR HIL HLS HLD HSR HSL HDR HDL HN HOD hF1 HA0 HT0 HLEN
   go_wp2_with fail
   go_roundw
   case rel=>exact ⟨i+1,_,by go_num,rfl,hlt,HT,HNX.out⟩
   case measure=>simp [intOf];omega
  ·obtain rfl:i=fi.length:=by omega
   have q1:decide ((fi.length:Int)<(fi.length:Int))=false:=decide_eq_false (by omega)
   have HT1:Hid (Tx S ([]++fi.flatMap incF)):=by
    have h:=HS.out
    rw [List.take_length] at h
    exact h
   obtain ⟨A1,hA⟩:∃ X,Hid ([]++fi.flatMap incF=X):=⟨_,Lib.hid rfl⟩
   rw [hA.out] at HT1 hF1
   have HA1:Hid (A1.length+(fs.flatMap spcF).length+(fd.flatMap (defF tn sh)).length≤1000000000):=by
    have h:=HA0.out
    unfold Hid
    rw [← hA.out,List.length_append]
    omega
   have HNY:=Lib.hid (HN0.out.trans HNX.out)
   have HBY:=Lib.hid (HB.out.below HNX.out)
   go_upto_region 6 with fail
   clear HN0 HB HS hA HA0 HT0 k8 q1 hi hlt hiI hli HLI HIR HIL HNX
   have HN0:=HNY
   have HB:=HBY
   clear HNY HBY
   generalize wr=W1 at *
   go_wp2_with fail
   go_loopw [3,5] (fun sv iv wr=>∃ (i:Nat) (S:ByteArray),iv = .int .i64 (i:Int)∧sv = .string S∧i≤fs.length∧Hid (Tx S (A1++(fs.take i).flatMap spcF))∧Nx W1 wr) (fun _ iv _=>200000 - (intOf iv).toNat)
   case atStart=>exact ⟨0,_,rfl,rfl,Nat.zero_le _,by unfold Hid;simpa using HT1.out,Nx.refl _⟩
   case round =>
    obtain ⟨i,S,rfl,rfl,hi,HS,hn⟩:=hrel
    have HNX:=Lib.hid hn
    have hli:=HLS.out.1
    have hiI:(i:Int)≤100000:=by omega
    have k8:wr.cell? ⟨g,1,none⟩=some (.slice sA fs.length scp):=(HB.out.below hn).cell 1
    clear hn
    by_cases hlt:i<fs.length
    ·have q1:decide ((i:Int)<(fs.length:Int))=true:=decide_eq_true (by omega)
     have q2:(i:Int)<(fs.length:Int):=by omega
     have hzl:=HLS.out.2
     obtain ⟨hst,hle⟩:=flat_step spcF fs i hlt
     have hlen:=HA1.out
     obtain ⟨g2,rfl,hg2,hcs⟩:=HSR.out (by omega)
     have hz:sz[i]'(by omega)=fs[i]:=HSL.out.at_ i (by omega) hlt
     obtain ⟨M,hM⟩:∃ M,fs[i]=M:=⟨_,rfl⟩
     rw [hM] at hst hz
     have hcell:∀ j,j<2→wr.cell? ⟨g2,i * 2+j,none⟩=(spcA M)[j]?:=fun j hj=>by
      rw [(HN0.out.trans HNX.out).cell (p:=⟨g2,i * 2+j,none⟩) hg2,hcs i (by omega) j hj,hz]
     have HCE:Hid (∀ wx,Nx wr wx→∀ j,j<2→wx.cell? ⟨g2,i * 2+j,none⟩=(spcA M)[j]?):=fun wx hx j hj=>by
      rw [((HN0.out.trans HNX.out).trans hx).cell (p:=⟨g2,i * 2+j,none⟩) hg2,hcs i (by omega) j hj,hz]
     obtain ⟨ea,eb⟩:=M
     have e0:wr.cell? ⟨g2,i * 2,none⟩=some (.string ⟨ea.toArray⟩):=hcell 0 (by decide)
     have e1:wr.cell? ⟨g2,i * 2+1,none⟩=some (.string ⟨eb.toArray⟩):=hcell 1 (by decide)
     have hza:((⟨ea.toArray⟩:ByteArray).size)=ea.length:=(Tx.of ea).size
     have hzb:((⟨eb.toArray⟩:ByteArray).size)=eb.length:=(Tx.of eb).size
     have hsz:S.size+10+ea.length+1+eb.length+1≤1000000000:=by
      have hm:spcF ⟨ea,eb⟩=((([110,97,109,101,115,112,97,99,101,32]++ea)++[32])++eb)++[10]:=rfl
      rw [hst,hm] at hle
      rw [HS.out.size]
      simp only [List.length_append,List.length_cons,List.length_nil] at hle hlen ⊢
      omega
     have HT:Hid (Tx (((((S++⟨#[110,97,109,101,115,112,97,99,101,32]⟩)++⟨ea.toArray⟩)++⟨#[32]⟩)++⟨eb.toArray⟩)++⟨#[10]⟩) (A1++(fs.take (i+1)).flatMap spcF)):=by
      unfold Hid
      rw [hst]
      have hm:spcF ⟨ea,eb⟩=((([110,97,109,101,115,112,97,99,101,32]++ea)++[32])++eb)++[10]:=rfl
      rw [hm]
      have h:=((((HS.out.cat (Tx.of [110,97,109,101,115,112,97,99,101,32])).cat (Tx.of ea)).cat (Tx.of [32])).cat (Tx.of eb)).cat (Tx.of [10])
      simp only [List.append_assoc] at h ⊢
      exact h
     clear hst hle hcs hcell hM hz hlen hli hzl HLS HLD HSR HSL HDR HDL HN HOD hF1 HA1 HT1 HLEN
     go_wp2_with fail
     have y1:¬ 9223372036854775807<S.size+10:=by omega
     have y2:¬ 9223372036854775807<S.size+10+ea.length:=by omega
     have y3:¬ 9223372036854775807<S.size+10+ea.length+1:=by omega
     have y4:¬ 9223372036854775807<S.size+10+ea.length+1+eb.length:=by omega
     have y5:¬ 9223372036854775807<S.size+10+ea.length+1+eb.length+1:=by omega
     have kg:∀ x:Gr wr,x.1.cell? ⟨g,1,none⟩=some (.slice (some ⟨g2,0,none⟩) fs.length scp):=fun x=>(HB.out.below (HNX.out.trans x.2)).cell 1
     have eg0:∀ x:Gr wr,x.1.cell? ⟨g2,i * 2,none⟩=some (.string ⟨ea.toArray⟩):=fun x=>HCE.out x.1 x.2 0 (by decide)
     have eg1:∀ x:Gr wr,x.1.cell? ⟨g2,i * 2+1,none⟩=some (.string ⟨eb.toArray⟩):=fun x=>HCE.out x.1 x.2 1 (by decide)
     refine wp_region_hyb [(0,true),(1,true),(2,true),(3,true),(4,true),(5,true),(6,true),(7,true),(8,true),(9,true),(10,true),(11,true),(12,true),(13,true),(14,true),(15,true),(16,true),(17,true),(18,true)] (by kernel_rfl) (by kernel_rfl) ?_
     iterate 19 (refine hyb_calm rfl (fun K hK=>?_);go_simp;refine hK _ ?_;clear hK K)
     refine hyb_nil (fun w8 hn8=>?_)
     go_wp2_with fail
     go_roundw
     case rel=>exact ⟨i+1,_,by go_num,rfl,hlt,HT,HNX.out.trans hn8⟩
     case measure=>simp [intOf];omega
    ·obtain rfl:i=fs.length:=by omega
     have q1:decide ((fs.length:Int)<(fs.length:Int))=false:=decide_eq_false (by omega)
     have HT2:Hid (Tx S (A1++fs.flatMap spcF)):=by
      have h:=HS.out
      rw [List.take_length] at h
      exact h
     obtain ⟨A2,hA⟩:∃ X,Hid (A1++fs.flatMap spcF=X):=⟨_,Lib.hid rfl⟩
     rw [hA.out] at HT2 hF1
     have HA2:Hid (A2.length+(fd.flatMap (defF tn sh)).length≤1000000000):=by
      have h:=HA1.out
      unfold Hid
      rw [← hA.out,List.length_append]
      omega
     have HNY:=Lib.hid (HN0.out.trans HNX.out)
     have HBY:=Lib.hid (HB.out.below HNX.out)
     go_upto_region 10 with fail
     clear HN0 HB HS hA HA1 HT1 k8 q1 hi hlt hiI hli HLS HSR HSL HNX
     have HN0:=HNY
     have HB:=HBY
     clear HNY HBY
     generalize wr=W2 at *
     go_wp2_with fail
     go_loopw [3,6] (fun sv iv wr=>∃ (i:Nat) (S:ByteArray),iv = .int .i64 (i:Int)∧sv = .string S∧i≤fd.length∧Hid (Tx S (A2++(fd.take i).flatMap (defF tn sh)))∧Nx W2 wr) (fun _ iv _=>200000 - (intOf iv).toNat)
     case atStart=>exact ⟨0,_,rfl,rfl,Nat.zero_le _,by unfold Hid;simpa using HT2.out,Nx.refl _⟩
     case round =>
      obtain ⟨i,S,rfl,rfl,hi,HS,hn⟩:=hrel
      have HNX:=Lib.hid hn
      have hli:=HLD.out.1
      have hiI:(i:Int)≤100000:=by omega
      have k8:wr.cell? ⟨g,2,none⟩=some (.slice dA fd.length dcp):=(HB.out.below hn).cell 2
      clear hn
      by_cases hlt:i<fd.length
      ·have q1:decide ((i:Int)<(fd.length:Int))=true:=decide_eq_true (by omega)
       have q2:(i:Int)<(fd.length:Int):=by omega
       have hzl:=HLD.out.2
       obtain ⟨hst,hle⟩:=flat_step (defF tn sh) fd i hlt
       have hlen:=HA2.out
       obtain ⟨g2,rfl,hg2,hcs⟩:=HDR.out (by omega)
       obtain ⟨Z,hZ⟩:∃ Z,Hid (dz[i]'(by omega)=Z):=⟨_,Lib.hid rfl⟩
       have hrc:RD wr (But P (.slice (some ⟨g2,0,none⟩) fd.length dcp)) Z fd[i]:=by
        have:=HDL.out.at_ i (by omega) hlt
        rw [hZ.out] at this
        exact this.keep (fun g' _ hl=>(HN0.out.trans HNX.out).block g' hl) (fun g' h _=>h)
       have hoki:=HOD.out _ (List.getElem_mem hlt)
       obtain ⟨E,hE⟩:∃ E,Hid (defF tn sh (fd[i]'hlt)=E):=⟨_,Lib.hid rfl⟩
       rw [hE.out] at hst
       have hsz:S.size+E.length≤1000000000:=by
        rw [hst] at hle
        rw [HS.out.size]
        simp only [List.length_append,List.length_cons,List.length_nil] at hle hlen ⊢
        omega
       have hcall:=Lib.hid (docDef_any HN.out wr _ Z fd[i] hrc hoki (by rw [hE.out];omega))
       rw [hE.out] at hcall
       obtain ⟨ek,en,et,⟨ck,cn,cd,cs,cl⟩,ef,em,ee,es⟩:=Z
       have hcell:∀ j,j<12→wr.cell? ⟨g2,i * 12+j,none⟩=(dfnA ⟨ek,en,et,⟨ck,cn,cd,cs,cl⟩,ef,em,ee,es⟩)[j]?:=fun j hj=>by
        rw [(HN0.out.trans HNX.out).cell (p:=⟨g2,i * 12+j,none⟩) hg2,hcs i (by omega) j hj,hZ.out]
       have e0:wr.cell? ⟨g2,i * 12,none⟩=some (.int .i64 (ek:Int)):=hcell 0 (by decide)
       have e1:wr.cell? ⟨g2,i * 12+1,none⟩=some (.string ⟨en.toArray⟩):=hcell 1 (by decide)
       have e2:wr.cell? ⟨g2,i * 12+2,none⟩=some (.string ⟨et.toArray⟩):=hcell 2 (by decide)
       have e3:wr.cell? ⟨g2,i * 12+3,none⟩=some (.int .i64 (ck:Int)):=hcell 3 (by decide)
       have e4:wr.cell? ⟨g2,i * 12+4,none⟩=some (.int .i64 cn):=hcell 4 (by decide)
       have e5:wr.cell? ⟨g2,i * 12+5,none⟩=some (.int .u64 (cd:Int)):=hcell 5 (by decide)
       have e6:wr.cell? ⟨g2,i * 12+6,none⟩=some (.string ⟨cs.toArray⟩):=hcell 6 (by decide)
       have e7:wr.cell? ⟨g2,i * 12+7,none⟩=some cl:=hcell 7 (by decide)
       have e8:wr.cell? ⟨g2,i * 12+8,none⟩=some ef:=hcell 8 (by decide)
       have e9:wr.cell? ⟨g2,i * 12+9,none⟩=some em:=hcell 9 (by decide)
       have e10:wr.cell? ⟨g2,i * 12+10,none⟩=some (.string ⟨ee.toArray⟩):=hcell 10 (by decide)
       have e11:wr.cell? ⟨g2,i * 12+11,none⟩=some es:=hcell 11 (by decide)
       have hzE:((⟨E.toArray⟩:ByteArray).size)=E.length:=(Tx.of E).size
       have HT:Hid (Tx (S++⟨E.toArray⟩) (A2++(fd.take (i+1)).flatMap (defF tn sh))):=by
        unfold Hid
        rw [hst,← List.append_assoc]
        exact HS.out.cat (Tx.of E)
       clear hcs hcell hrc hst hle hoki hE hZ hlen hli hzl HLD HDR HDL HOD hF1 HA2 HT2 HLEN
       go_wp2_with fail
       refine hcall.out.mono ?_;rintro e w5 ⟨rfl,hn5⟩
       go_wp2_with fail
       go_roundw
       case rel=>exact ⟨i+1,_,by go_num,rfl,hlt,HT,HNX.out.trans hn5⟩
       case measure=>simp [intOf];omega
      ·obtain rfl:i=fd.length:=by omega
       have q1:decide ((fd.length:Int)<(fd.length:Int))=false:=decide_eq_false (by omega)
       have HT3:Hid (Tx S (A2++fd.flatMap (defF tn sh))):=by
        have h:=HS.out
        rw [List.take_length] at h
        exact h
       have HR:Hid (S=⟨F.toArray⟩):=by
        have h:=HT3.out.eq
        unfold Hid
        rw [hF1.out,List.append_nil]
        exact h
       clear hlt hi
       go_wp2_with fail
       go_ret
       exact ⟨by first | rfl | (rw [HR.out];rfl),HN0.out.trans HNX.out⟩
end Go.Proofs.YteclejplbphkpaaGreat
