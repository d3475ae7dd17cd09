/- The contract of scope.Twice. -/
import Derived.Test.YtpfecpcgdfbekaaGreatDoorG31
import Derived.Test.YtpfecpcgdfbekaaGreatDoorG32
import Derived.Test.YtpfecpcgdfbekaaGreatDoorG27
import Derived.Test.YtpfecpcgdfbekaaGreatDoorG20
set_option linter.unusedVariables false
set_option linter.unusedSimpArgs false
set_option linter.unnecessarySimpa false
namespace Go.Proofs.YtpfecpcgdfbekaaGreatDoor
open Go.RowKit
def twD (m:MS) (i:Nat):Nat→List Dfn→Option (List UInt8)
 | _,[]=>none
 | j,d :: r=>if (getG m ((i:Int),d.nm)).getD 0<j then some d.nm else twD m i (j+1) r
def twF (m:MS) (names:List (List UInt8)):Nat→List Fil→Option (List UInt8×List UInt8)
 | _,[]=>none
 | i,f :: r=>match twD m i 0 f.defs with
  | some nm=>some (names.getD i [],nm)
  | none=>twF m names (i+1) r
def twP (names:List (List UInt8)) (files:List Fil):Option (List UInt8×List UInt8):=twF (fstM files) names 0 files
def twV (o:Option (List UInt8×List UInt8)):Value:=.tuple #[bt (o.getD ([],[])).1,bt (o.getD ([],[])).2,.bool o.isSome]
theorem twF_step {m:MS} {names:List (List UInt8)} {files:List Fil} {i:Nat} (hi:i<files.length) (F:Fil) (hF:files[i]=F):twF m names i (files.drop i)=match twD m i 0 F.defs with
  | some nm=>some (names.getD i [],nm)
  | none=>twF m names (i+1) (files.drop (i+1)):=by
 subst hF
 rw [List.drop_eq_getElem_cons hi];rfl
theorem twD_step {m:MS} {ds:List Dfn} {i j:Nat} (hj:j<ds.length) (d:Dfn) (hd:ds[j]=d):twD m i j (ds.drop j)=if (getG m ((i:Int),d.nm)).getD 0<j then some d.nm else twD m i (j+1) (ds.drop (j+1)):=by
 subst hd
 rw [List.drop_eq_getElem_cons hj];rfl
set_option maxRecDepth 100000 in
set_option maxHeartbeats 6400000 in
theorem Twice_any (w:World) (nA fA:Option Addr) (n nc fc:Nat) (names:List (List UInt8)) (files:List Fil) (hld:Ldn w nA fA n nc fc names files) :
  Calls Tryz.prog 9 #[.agg #[.slice nA n nc,.slice fA n fc]] w fun e w'=>e = .returned (twV (twP names files))∧Nx w w':=by
 have HLD:=Lib.hid hld
 obtain ⟨hn100,hnl,hfl⟩:=hld.parts
 have HFL:=Lib.hid hfl
 have HNL:=Lib.hid hnl
 have HF:=Lib.hid hld.lf
 have HLN:=Lib.hid hld.ln
 have HC:Hid (n≤nc∧n≤fc∧nc≤maxLen∧fc≤maxLen):=hld.caps
 have hn9:(n:Int)≤100:=by omega
 obtain ⟨R,hR⟩:∃ R,Hid (twF (fstM files) names 0 files=R):=⟨_,rfl⟩
 have HTW:Hid (twP names files=R):=hR
 rw [HTW.out]
 obtain ⟨gb,hgb⟩:∃ g,w.heap.size=g:=⟨_,rfl⟩
 clear hld hnl hfl hn100
 go_enter Tryz.func9,Tryz.ntmps9
 go_upto_region 1 with (fail)
 obtain ⟨w1,hw1⟩:∃ w1,w.alloc (.cells #[.slice nA n nc,.slice fA n fc] 39)=w1:=⟨_,rfl⟩
 have HB:Hid (Blk w1 gb gb #[.slice nA n nc,.slice fA n fc] 39):=by
  unfold Hid;rw [← hw1,← hgb];exact Blk.new w _ _
 have HN:Hid (Nx w w1):=by unfold Hid;rw [← hw1];exact nx0 w _
 have hgw:Hid (w.heap.size≤gb):=by unfold Hid;omega
 try rw [hw1]
 clear hw1 hgb
 have b0:w1.cell? ⟨gb,0,none⟩=some (.slice nA n nc):=HB.out.cell 0
 have b1:w1.cell? ⟨gb,1,none⟩=some (.slice fA n fc):=HB.out.cell 1
 go_wp2_with fail
 refine (even_any w1 nA fA n nc fc HC.out.1 HC.out.2.1 HC.out.2.2.1 HC.out.2.2.2).mono ?_;rintro e w2 ⟨rfl,hn2⟩
 have hb2:=HB.out.below hn2
 clear b0 b1
 have b0:w2.cell? ⟨gb,0,none⟩=some (.slice nA n nc):=hb2.cell 0
 have b1:w2.cell? ⟨gb,1,none⟩=some (.slice fA n fc):=hb2.cell 1
 have f0:=hb2.free 0
 have f1:=hb2.free 1
 have HB3:Hid (Blk ((w2.setCell ⟨gb,0,none⟩ (.slice nA n nc)).setCell ⟨gb,1,none⟩ (.slice fA n fc)) gb gb #[.slice nA n nc,.slice fA n fc] 39):=(hb2.put 0 _).put 1 _
 have HN3:Hid (Nx w ((w2.setCell ⟨gb,0,none⟩ (.slice nA n nc)).setCell ⟨gb,1,none⟩ (.slice fA n fc))):=((HN.out.trans hn2).put' hgw.out 0 _).put' hgw.out 1 _
 clear hn2 hb2
 go_upto_region 2 with (fail)
 generalize World.setCell (World.setCell _ _ _) _ _=w3 at *
 clear b0 b1 f0 f1
 have b0:w3.cell? ⟨gb,0,none⟩=some (.slice nA n nc):=HB3.out.cell 0
 have b1:w3.cell? ⟨gb,1,none⟩=some (.slice fA n fc):=HB3.out.cell 1
 go_wp2_with fail
 refine (first_any w3 nA fA n nc fc names files (HLD.out.nx HN3.out)).mono ?_;rintro e w4 ⟨gm,rfl,hgm,hmp,hn4⟩
 have HN4:=Lib.hid (HN3.out.trans hn4)
 have HMP:=Lib.hid hmp
 have HB4:=Lib.hid (HB3.out.below hn4)
 clear b0 b1 hmp hn4 hgm
 have b1:w4.cell? ⟨gb,1,none⟩=some (.slice fA n fc):=HB4.out.cell 1
 go_wp2_with fail
 clear b1
 go_loopw [17] (fun v wr=>∃ (i:Nat),v = .int .i64 (i:Int)∧i≤n∧Hid (twF (fstM files) names i (files.drop i)=R)∧Nx w4 wr) (fun v _=>(n - intOf v).toNat)
 case atStart=>exact ⟨0,rfl,Nat.zero_le _,hR,Nx.refl _⟩
 case round =>
  obtain ⟨i,rfl,hi,HR,hn⟩:=hrel
  have HNX:=Lib.hid hn
  clear hn
  by_cases hlt:i<n
  ·have q1:decide ((i:Int)<(n:Int))=true:=decide_eq_true (by omega)
   have q2:(i:Int)<(n:Int):=by omega
   have hif:i<files.length:=by rw [HF.out];exact hlt
   obtain ⟨F,hF⟩:∃ F,files[i]=F:=⟨_,rfl⟩
   obtain ⟨g,iA,ic,sA,sn,sc,dA,dc,hfA,hg,e0',e1',e2',-,hdf⟩:=HLD.out.file i hif F hF
   subst hfA
   have hnW:Nx w wr:=HN4.out.trans HNX.out
   have e0:=(hnW.cell (p:=⟨g,i * 3,none⟩) hg).trans e0'
   have e1:=(hnW.cell (p:=⟨g,i * 3+1,none⟩) hg).trans e1'
   have e2:=(hnW.cell (p:=⟨g,i * 3+2,none⟩) hg).trans e2'
   have HFB:=Lib.hid (HFL.out F (hF ▸ List.getElem_mem hif))
   have hstep:=twF_step (m:=fstM files) (names:=names) hif F hF
   rw [HR.out] at hstep
   have HST:=Lib.hid hstep
   have HDF:=Lib.hid hdf
   obtain ⟨K,hK⟩:∃ K,F.defs.length=K:=⟨_,rfl⟩
   have hK9:(K:Int)≤1000:=by have:=HFB.out.1;omega
   rw [hK] at e2
   have HK:=Lib.hid hK
   have HLT:=Lib.hid hlt
   obtain ⟨J,hJ⟩:∃ J,F.incs.length=J:=⟨_,rfl⟩
   rw [hJ] at e0
   have hin:i<names.length:=by rw [HLN.out];exact hlt
   obtain ⟨NM,hNM⟩:∃ m,names[i]=m:=⟨_,rfl⟩
   obtain ⟨gn,hnA,hgn,hcn⟩:=HLD.out.name i hin
   rw [hNM] at hcn
   have HNMD:Hid (names.getD i []=NM):=by unfold Hid;rw [← hNM];simp [List.getD,hin]
   have HNML:Hid (NM.length≤140737488355328):=by unfold Hid;have:=HNL.out _ (hNM ▸ List.getElem_mem hin);omega
   have HCN:=Lib.hid hcn
   have HGN:=Lib.hid hgn
   subst hnA
   clear hif hdf hstep hF hK hJ hlt HR hg e0' e1' e2' hnW hcn hgn hNM hin
   go_upto_region 6 with (fail)
   obtain ⟨g5,hg5⟩:∃ g,wr.heap.size=g:=⟨_,rfl⟩
   have hb5:=Blk.new wr #[.slice iA J ic,.slice sA sn sc,.slice dA K dc] 74
   have hn5:=nx0 wr (.cells #[.slice iA J ic,.slice sA sn sc,.slice dA K dc] 74)
   rw [hg5] at hb5
   generalize World.alloc wr _=w5 at *
   have HN5:=Lib.hid (HNX.out.trans hn5)
   try rw [hg5]
   have t2:w5.cell? ⟨g5,2,none⟩=some (.slice dA K dc):=hb5.cell 2
   clear hg5 hb5 hn5 e0 e1 e2
   go_wp2_with fail
   clear t2
   go_loopw [25] (fun v ws=>∃ (j:Nat),v = .int .i64 (j:Int)∧j≤K∧Hid (twD (fstM files) i j (F.defs.drop j)=twD (fstM files) i 0 F.defs)∧Nx w4 ws) (fun v _=>(K - intOf v).toNat)
   case atStart=>exact ⟨0,rfl,Nat.zero_le _,rfl,HN5.out⟩
   case round =>
    obtain ⟨j,rfl,hj,HR2,hn2⟩:=hrel
    have HNX2:=Lib.hid hn2
    have HNW2:=Lib.hid (HN4.out.trans hn2)
    clear hn2
    by_cases hlt2:j<K
    ·have q3:decide ((j:Int)<(K:Int))=true:=decide_eq_true (by omega)
     have q4:(j:Int)<(K:Int):=by omega
     have hjd:j<F.defs.length:=by rw [HK.out];exact hlt2
     obtain ⟨d,hd⟩:∃ d,F.defs[j]=d:=⟨_,rfl⟩
     obtain ⟨gd,x,hdA,hgd,hcd,hrd⟩:=def_at (RepL.nx RD.lasts HDF.out HNW2.out) j hjd d hd
     subst hdA
     obtain ⟨dk,dn,dt,⟨xk,xn,xd,s,xl⟩,xf,xm,de,xt⟩:=x
     obtain ⟨⟨zA,zu,zc,hxl⟩,⟨fA2,fu,fc2,hxf⟩,⟨mA,mu,mc,hxm⟩,⟨tA,tu,tc,hxt⟩⟩:=rd_sl hrd
     dsimp only at hxl hxf hxm hxt
     subst hxl hxf hxm hxt
     have hdn:dn=d.nm:=hrd.2.1
     have hdl:d.nm.length≤8000:=by
      have:=HFB.out.2.2 d (hd ▸ List.getElem_mem hjd)
      unfold dfnB at this
      simp only [Bool.and_eq_true,decide_eq_true_eq] at this
      exact this.1.1.1.1.1.1.1.1
     have hok:okS ((i:Int),dn):=⟨by show (-1:Int)≤(i:Int);omega,by show (i:Int)≤1000;have:=HLT.out;omega,by rw [hdn];exact hdl⟩
     have hst:=twD_step (m:=fstM files) hjd d hd (i:=i)
     rw [← hdn,HR2.out] at hst
     have d0:wr.cell? ⟨gd,j * 12,none⟩=some (.int .i64 (dk:Int)):=hcd 0 (by decide)
     have d1:wr.cell? ⟨gd,j * 12+1,none⟩=some (.string ⟨dn.toArray⟩):=hcd 1 (by decide)
     have d2:wr.cell? ⟨gd,j * 12+2,none⟩=some (.string ⟨dt.toArray⟩):=hcd 2 (by decide)
     have d3:wr.cell? ⟨gd,j * 12+3,none⟩=some (.int .i64 (xk:Int)):=hcd 3 (by decide)
     have d4:wr.cell? ⟨gd,j * 12+4,none⟩=some (.int .i64 xn):=hcd 4 (by decide)
     have d5:wr.cell? ⟨gd,j * 12+5,none⟩=some (.int .u64 (xd:Int)):=hcd 5 (by decide)
     have d6:wr.cell? ⟨gd,j * 12+6,none⟩=some (.string ⟨s.toArray⟩):=hcd 6 (by decide)
     have d7:wr.cell? ⟨gd,j * 12+7,none⟩=some (.slice zA zu zc):=hcd 7 (by decide)
     have d8:wr.cell? ⟨gd,j * 12+8,none⟩=some (.slice fA2 fu fc2):=hcd 8 (by decide)
     have d9:wr.cell? ⟨gd,j * 12+9,none⟩=some (.slice mA mu mc):=hcd 9 (by decide)
     have d10:wr.cell? ⟨gd,j * 12+10,none⟩=some (.string ⟨de.toArray⟩):=hcd 10 (by decide)
     have d11:wr.cell? ⟨gd,j * 12+11,none⟩=some (.slice tA tu tc):=hcd 11 (by decide)
     obtain ⟨g7,hg7⟩:∃ g,wr.heap.size=g:=⟨_,rfl⟩
     obtain ⟨w7,hw7⟩:∃ w7,wr.alloc (.cells #[.int .i64 (dk:Int),.string ⟨dn.toArray⟩,.string ⟨dt.toArray⟩,.int .i64 (xk:Int),.int .i64 xn,.int .u64 (xd:Int),.string ⟨s.toArray⟩,.slice zA zu zc,.slice fA2 fu fc2,.slice mA mu mc,.string ⟨de.toArray⟩,.slice tA tu tc] 56)=w7:=⟨_,rfl⟩
     have hn7:Nx wr w7:=by rw [← hw7];exact nx0 _ _
     have hb7:Blk w7 g7 g7 #[.int .i64 (dk:Int),.string ⟨dn.toArray⟩,.string ⟨dt.toArray⟩,.int .i64 (xk:Int),.int .i64 xn,.int .u64 (xd:Int),.string ⟨s.toArray⟩,.slice zA zu zc,.slice fA2 fu fc2,.slice mA mu mc,.string ⟨de.toArray⟩,.slice tA tu tc] 56:=by rw [← hw7,← hg7];exact Blk.new wr _ _
     have HB7:=Lib.hid hb7
     have t1:w7.cell? ⟨g7,1,none⟩=some (.string ⟨dn.toArray⟩):=hb7.cell 1
     have hm7:=HMP.out.nx (HNX2.out.trans hn7)
     have hlk:=(mapS.look hm7 ((i:Int),dn) hok).1
     obtain ⟨V,hV⟩:∃ V,(getG (fstM files) ((i:Int),dn)).getD 0=V:=⟨_,rfl⟩
     rw [hV] at hlk hst
     unfold kvS vvS bt at hlk
     dsimp only at hlk
     have HN7:=Lib.hid (HNX2.out.trans hn7)
     have HDL:Hid (dn.length≤140737488355328):=by unfold Hid;rw [hdn];omega
     have HST2:=Lib.hid hst
     have HLT2:=Lib.hid hlt2
     clear hcd hrd hdn hdl hok hm7 hn7 hb7 hV hst hlt2 hjd hd hgd HR2
     by_cases hv:V<j
     ·have b1:decide ((V:Int)<(j:Int))=true:=decide_eq_true (by omega)
      have b2:(V:Int)<(j:Int):=by omega
      have HX:Hid (R=some (NM,dn)):=by
       have h1:=HST2.out
       rw [if_pos hv] at h1
       have h2:=HST.out
       rw [h1] at h2
       unfold Hid
       rw [h2,← HNMD.out]
      clear hv
      go_upto_region 10 with (fail)
      clear hw7 hg7 d0 d1 d2 d3 d4 d5 d6 d7 d8 d9 d10 d11
      have hb4:=HB4.out.below HN7.out
      have q5:(0:Int)≤(i:Int):=by omega
      have L0:∀ x:Gr w7,x.1.cell? ⟨gb,0,none⟩=some (.slice (some ⟨gn,0,none⟩) n nc):=fun x=>(hb4.below x.2).cell 0
      have L1:∀ x:Gr w7,x.1.cell? ⟨gn,i,none⟩=some (.string ⟨NM.toArray⟩):=fun x=>(((HN4.out.trans HN7.out).trans x.2).cell (p:=⟨gn,i,none⟩) HGN.out).trans HCN.out
      have L2:∀ x:Gr w7,x.1.cell? ⟨g7,1,none⟩=some (.string ⟨dn.toArray⟩):=fun x=>(HB7.out.below x.2).cell 1
      refine EH.wp_region_hyb [] [(0,1),(1,1),(2,2),(3,1),(4,1),(6,1),(7,1),(5,0),(8,0),(9,2),(10,2),(11,2)] rfl (by kernel_rfl) ?_
      iterate 2 (refine EH.hyb_calm rfl (fun K hK=>?_);go_simp;refine hK _ ?_;clear hK K)
      refine EH.hyb_pure rfl (fun K hK=>?_);go_simp;refine hK _ ?_;clear hK K
      iterate 4 (refine EH.hyb_calm rfl (fun K hK=>?_);go_simp;refine hK _ ?_;clear hK K)
      clear L0 L1 L2
      refine EH.hyb_alone rfl (fun w8 hn8 K hK=>?_)
      go_simp
      refine (clone_any w8 _ NM (Tx.of _) HNML.out).mono ?_;rintro e w9 ⟨rfl,hn9⟩
      refine hK _ _ (.inr hn9) ?_
      clear hK K
      refine EH.hyb_alone rfl (fun wa hna K hK=>?_)
      go_simp
      refine (clone_any wa _ dn (Tx.of _) HDL.out).mono ?_;rintro e wb ⟨rfl,hnb⟩
      refine hK _ _ (.inr hnb) ?_
      clear hK K
      iterate 3 (refine EH.hyb_pure rfl (fun K hK=>?_);go_simp;refine hK _ ?_;clear hK K)
      refine EH.hyb_nil (fun wd hnd=>?_)
      have HNZ:=Lib.hid ((HN4.out.trans HN7.out).trans (hn8.trans (hn9.trans (hna.trans (hnb.trans hnd)))))
      clear hn8 hn9 hna hnb hnd hb4
      go_wp2_with fail
      go_ret3
      rw [HX.out]
      exact ⟨rfl,HNZ.out⟩
     ·have b1:decide ((V:Int)<(j:Int))=false:=decide_eq_false (by omega)
      have b2:¬ (V:Int)<(j:Int):=by omega
      have HST3:Hid (twD (fstM files) i (j+1) (F.defs.drop (j+1))=twD (fstM files) i 0 F.defs):=by
       have h1:=HST2.out
       rw [if_neg hv] at h1
       exact h1.symm
      clear hv
      go_wp2_with fail
      go_roundw
      case rel=>exact ⟨j+1,by go_num,HLT2.out,HST3.out,HN7.out⟩
      case measure=>have:=HLT2.out;simp [intOf];omega
    ·have q3:decide ((j:Int)<(K:Int))=false:=decide_eq_false (by omega)
     have q4:¬ (j:Int)<(K:Int):=by omega
     have HX:Hid (twD (fstM files) i 0 F.defs=none):=by
      unfold Hid;rw [← HR2.out,List.drop_of_length_le (by rw [HK.out];omega)];rfl
     clear hlt2
     go_wp2_with fail
     go_roundw
     case rel=>exact ⟨i+1,by go_num,HLT.out,by have:=HST.out;rw [HX.out] at this;exact this.symm,HNX2.out⟩
     case measure=>have:=HLT.out;simp [intOf];omega
  ·have q1:decide ((i:Int)<(n:Int))=false:=decide_eq_false (by omega)
   have q2:¬ (i:Int)<(n:Int):=by omega
   have HX:Hid (R=none):=by
    unfold Hid;rw [← HR.out,List.drop_of_length_le (by rw [HF.out];omega)];rfl
   clear hlt
   go_wp2_with fail
   go_ret3
   rw [HX.out]
   exact ⟨rfl,HN4.out.trans HNX.out⟩
end Go.Proofs.YtpfecpcgdfbekaaGreatDoor
