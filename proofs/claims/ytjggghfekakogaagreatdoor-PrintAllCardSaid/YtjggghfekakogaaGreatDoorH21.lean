/- The code's test of methods, definitions, files. -/
import Derived.Test.YtjggghfekakogaaGreatDoorH20
set_option linter.unusedVariables false
set_option linter.unusedSimpArgs false
set_option linter.unnecessarySimpa false
namespace Go.Proofs.YtjggghfekakogaaGreatDoor
open Go.RowKit
set_option maxRecDepth 100000 in
set_option maxHeartbeats 3200000 in
theorem sameFields_any (w:World) (v1 v2:Value) (la lb:List Fld) (h1:LF w An v1 la) (h2:LF w An v2 lb) (hla:la.length≤100000) (hco:∀ f ∈ la,ndF f) :
  Calls Tryz.prog 98 #[v1,v2] w fun e w'=>e = .returned (.bool (allEq eqF la lb))∧Nx w w':=by
 have HC:=Lib.hid (eqFunc_fld w v1 v2 la lb h1 h2 hla hco)
 obtain ⟨A1,a1,zs,hv1,-⟩:=h1.sl fldA_size
 obtain ⟨A2,a2,ys,hv2,-⟩:=h2.sl fldA_size
 subst hv1 hv2
 clear h1 h2 hco hla
 go_enter Tryz.func98,Tryz.ntmps98
 go_wp2_with fail
 refine HC.out.mono ?_;rintro e w1 ⟨rfl,hn⟩
 have HN:=Lib.hid hn
 clear hn
 go_wp2_with fail
 go_ret
 exact ⟨rfl,HN.out⟩
def ndL (l:List Fld):Prop:=l.length≤100000∧∀ f ∈ l,ndF f
def ndM (m:Met):Prop:=ndL m.args∧ndL m.thr
def ndD (d:Dfn):Prop:=nodC 13 d.ini≤64000∧ndL d.fields∧d.mems.length≤100000∧d.mets.length≤100000∧∀ m ∈ d.mets,ndM m
def ndFil (f:Fil):Prop:=f.incs.length≤100000∧f.spaces.length≤100000∧f.defs.length≤100000∧∀ d ∈ f.defs,ndD d
set_option maxRecDepth 100000 in
set_option maxHeartbeats 12800000 in
theorem sameMethod_any (w:World) (x y:MetS) (f g:Met) (hx:RM w An x f) (hy:RM w An y g) (hco:ndM f) :
  Calls Tryz.prog 101 #[.agg (metA x),.agg (metA y)] w fun e w'=>e = .returned (.bool (eqM f g))∧Nx w w':=by
 obtain ⟨zn,zo,zr,zx,zy⟩:=x
 obtain ⟨yn,yo,yr,yx,yy⟩:=y
 obtain ⟨zA,zu,zc,rfl⟩:∃ A k cap,zx = .slice A k cap:=by
  obtain ⟨A,c,-,e,-⟩:=hx.2.2.2.1.sl fldA_size
  exact ⟨A,_,c,e⟩
 obtain ⟨zB,zv,zd,rfl⟩:∃ A k cap,zy = .slice A k cap:=by
  obtain ⟨A,c,-,e,-⟩:=hx.2.2.2.2.sl fldA_size
  exact ⟨A,_,c,e⟩
 obtain ⟨yA,yu,yc,rfl⟩:∃ A k cap,yx = .slice A k cap:=by
  obtain ⟨A,c,-,e,-⟩:=hy.2.2.2.1.sl fldA_size
  exact ⟨A,_,c,e⟩
 obtain ⟨yB,yv,yd,rfl⟩:∃ A k cap,yy = .slice A k cap:=by
  obtain ⟨A,c,-,e,-⟩:=hy.2.2.2.2.sl fldA_size
  exact ⟨A,_,c,e⟩
 obtain ⟨fn,fo,fr,fa,ft⟩:=f
 obtain ⟨gn,go,gr,ga,gt⟩:=g
 obtain ⟨rfl,rfl,rfl,hxa,hxt⟩:zn=fn∧zo=fo∧zr=fr∧LF w An (.slice zA zu zc) fa∧LF w An (.slice zB zv zd) ft:=hx
 obtain ⟨rfl,rfl,rfl,hya,hyt⟩:yn=gn∧yo=go∧yr=gr∧LF w An (.slice yA yu yc) ga∧LF w An (.slice yB yv yd) gt:=hy
 have HXA:=Lib.hid hxa
 have HXT:=Lib.hid hxt
 have HYA:=Lib.hid hya
 have HYT:=Lib.hid hyt
 clear hxa hxt hya hyt
 obtain ⟨R,hR⟩:∃ R,Hid (eqM ⟨zn,zo,zr,fa,ft⟩ ⟨yn,yo,yr,ga,gt⟩=R):=⟨_,Lib.hid rfl⟩
 rw [hR.out]
 have hRe:R=((zn == yn) && (zo == yo) && (zr == yr) && allEq eqF fa ga && allEq eqF ft gt):=hR.out.symm
 have HRE:=Lib.hid hRe
 have HCO:=Lib.hid hco
 obtain ⟨gx,hgx⟩:∃ g,w.heap.size=g:=⟨_,rfl⟩
 have hBx:=Blk.new w #[.string ⟨zn.toArray⟩,.bool zo,.string ⟨zr.toArray⟩,.slice zA zu zc,.slice zB zv zd] 61
 rw [hgx] at hBx
 have hn1:Nx w (w.alloc (.cells #[.string ⟨zn.toArray⟩,.bool zo,.string ⟨zr.toArray⟩,.slice zA zu zc,.slice zB zv zd] 61)):=nx0 _ _
 have hs1:(w.alloc (.cells #[.string ⟨zn.toArray⟩,.bool zo,.string ⟨zr.toArray⟩,.slice zA zu zc,.slice zB zv zd] 61)).heap.size=w.heap.size+1:=by simp
 rw [hgx] at hs1
 obtain ⟨gy,hgy⟩:∃ g,gx+1=g:=⟨_,rfl⟩
 rw [hgy] at hs1
 have HBX:=Lib.hid hBx
 have HN1:=Lib.hid hn1
 clear hR hRe hco hBx hn1
 show Calls _ _ #[.agg #[.string ⟨zn.toArray⟩,.bool zo,.string ⟨zr.toArray⟩,.slice zA zu zc,.slice zB zv zd],.agg #[.string ⟨yn.toArray⟩,.bool yo,.string ⟨yr.toArray⟩,.slice yA yu yc,.slice yB yv yd]] _ _
 go_enter Tryz.func101,Tryz.ntmps101
 go_upto_region 1 with fail
 generalize hW1:World.alloc w _=W1 at *
 have hBy:=Blk.new W1 #[.string ⟨yn.toArray⟩,.bool yo,.string ⟨yr.toArray⟩,.slice yA yu yc,.slice yB yv yd] 61
 have hn2:Nx W1 (W1.alloc (.cells #[.string ⟨yn.toArray⟩,.bool yo,.string ⟨yr.toArray⟩,.slice yA yu yc,.slice yB yv yd] 61)):=nx0 _ _
 rw [hs1] at hBy
 have hBx:=HBX.out.below hn2
 generalize World.alloc W1 _=W at *
 have HBX:=Lib.hid hBx
 have HBY:=Lib.hid hBy
 have HWX:=Lib.hid (HN1.out.trans hn2)
 have HWC:Hid (Nx W W):=Nx.refl _
 clear hW1 hBx hBy hn2 hs1 hgx hgy HN1
 have gx0:W.cell? ⟨gx,0,none⟩=some (.string ⟨zn.toArray⟩):=HBX.out.cell 0
 have gx1:W.cell? ⟨gx,1,none⟩=some (.bool zo):=HBX.out.cell 1
 have gx2:W.cell? ⟨gx,2,none⟩=some (.string ⟨zr.toArray⟩):=HBX.out.cell 2
 have gx3:W.cell? ⟨gx,3,none⟩=some (.slice zA zu zc):=HBX.out.cell 3
 have gx4:W.cell? ⟨gx,4,none⟩=some (.slice zB zv zd):=HBX.out.cell 4
 have gy0:W.cell? ⟨gy,0,none⟩=some (.string ⟨yn.toArray⟩):=HBY.out.cell 0
 have gy1:W.cell? ⟨gy,1,none⟩=some (.bool yo):=HBY.out.cell 1
 have gy2:W.cell? ⟨gy,2,none⟩=some (.string ⟨yr.toArray⟩):=HBY.out.cell 2
 have gy3:W.cell? ⟨gy,3,none⟩=some (.slice yA yu yc):=HBY.out.cell 3
 have gy4:W.cell? ⟨gy,4,none⟩=some (.slice yB yv yd):=HBY.out.cell 4
 by_cases h0:zn=yn
 ·subst h0
  by_cases h1:zo=yo
  ·subst h1
   by_cases h2:zr=yr
   ·subst h2
    obtain ⟨R3,hR3⟩:∃ R,Hid (allEq eqF fa ga=R):=⟨_,Lib.hid rfl⟩
    have hcall3:=sameFields_any W (.slice zA zu zc) (.slice yA yu yc) fa ga (LF.lasts (mvAn HWX.out) HXA.out) (LF.lasts (mvAn HWX.out) HYA.out) HCO.out.1.1 HCO.out.1.2
    rw [hR3.out] at hcall3
    have HCA3:=Lib.hid hcall3
    clear hcall3
    go_wp2_with fail
    refine HCA3.out.mono ?_;rintro e wk3 ⟨rfl,hnx3⟩
    have HWX:=Lib.hid (HWX.out.trans hnx3)
    have HWC:=Lib.hid (HWC.out.trans hnx3)
    clear hnx3 gx0 gy0 gx1 gy1 gx2 gy2 gx3 gy3 gx4 gy4 HCA3
    have gx0:wk3.cell? ⟨gx,0,none⟩=some (.string ⟨zn.toArray⟩):=(HBX.out.below HWC.out).cell 0
    have gx1:wk3.cell? ⟨gx,1,none⟩=some (.bool zo):=(HBX.out.below HWC.out).cell 1
    have gx2:wk3.cell? ⟨gx,2,none⟩=some (.string ⟨zr.toArray⟩):=(HBX.out.below HWC.out).cell 2
    have gx3:wk3.cell? ⟨gx,3,none⟩=some (.slice zA zu zc):=(HBX.out.below HWC.out).cell 3
    have gx4:wk3.cell? ⟨gx,4,none⟩=some (.slice zB zv zd):=(HBX.out.below HWC.out).cell 4
    have gy0:wk3.cell? ⟨gy,0,none⟩=some (.string ⟨zn.toArray⟩):=(HBY.out.below HWC.out).cell 0
    have gy1:wk3.cell? ⟨gy,1,none⟩=some (.bool zo):=(HBY.out.below HWC.out).cell 1
    have gy2:wk3.cell? ⟨gy,2,none⟩=some (.string ⟨zr.toArray⟩):=(HBY.out.below HWC.out).cell 2
    have gy3:wk3.cell? ⟨gy,3,none⟩=some (.slice yA yu yc):=(HBY.out.below HWC.out).cell 3
    have gy4:wk3.cell? ⟨gy,4,none⟩=some (.slice yB yv yd):=(HBY.out.below HWC.out).cell 4
    cases R3 with
    | false =>
     have HRF:Hid (R=false):=by unfold Hid;rw [HRE.out];simp [hR3.out]
     go_wp2_with fail
     go_ret
     rw [HRF.out]
     exact ⟨rfl,HWX.out⟩
    | true =>
     obtain ⟨R4,hR4⟩:∃ R,Hid (allEq eqF ft gt=R):=⟨_,Lib.hid rfl⟩
     have hcall4:=sameFields_any wk3 (.slice zB zv zd) (.slice yB yv yd) ft gt (LF.lasts (mvAn HWX.out) HXT.out) (LF.lasts (mvAn HWX.out) HYT.out) HCO.out.2.1 HCO.out.2.2
     rw [hR4.out] at hcall4
     have HCA4:=Lib.hid hcall4
     clear hcall4
     go_wp2_with fail
     refine HCA4.out.mono ?_;rintro e wk4 ⟨rfl,hnx4⟩
     have HWX:=Lib.hid (HWX.out.trans hnx4)
     have HWC:=Lib.hid (HWC.out.trans hnx4)
     clear hnx4 gx0 gy0 gx1 gy1 gx2 gy2 gx3 gy3 gx4 gy4 HCA4
     have gx0:wk4.cell? ⟨gx,0,none⟩=some (.string ⟨zn.toArray⟩):=(HBX.out.below HWC.out).cell 0
     have gx1:wk4.cell? ⟨gx,1,none⟩=some (.bool zo):=(HBX.out.below HWC.out).cell 1
     have gx2:wk4.cell? ⟨gx,2,none⟩=some (.string ⟨zr.toArray⟩):=(HBX.out.below HWC.out).cell 2
     have gx3:wk4.cell? ⟨gx,3,none⟩=some (.slice zA zu zc):=(HBX.out.below HWC.out).cell 3
     have gx4:wk4.cell? ⟨gx,4,none⟩=some (.slice zB zv zd):=(HBX.out.below HWC.out).cell 4
     have gy0:wk4.cell? ⟨gy,0,none⟩=some (.string ⟨zn.toArray⟩):=(HBY.out.below HWC.out).cell 0
     have gy1:wk4.cell? ⟨gy,1,none⟩=some (.bool zo):=(HBY.out.below HWC.out).cell 1
     have gy2:wk4.cell? ⟨gy,2,none⟩=some (.string ⟨zr.toArray⟩):=(HBY.out.below HWC.out).cell 2
     have gy3:wk4.cell? ⟨gy,3,none⟩=some (.slice yA yu yc):=(HBY.out.below HWC.out).cell 3
     have gy4:wk4.cell? ⟨gy,4,none⟩=some (.slice yB yv yd):=(HBY.out.below HWC.out).cell 4
     cases R4 with
     | false =>
      have HRF:Hid (R=false):=by unfold Hid;rw [HRE.out];simp [hR4.out]
      go_wp2_with fail
      go_ret
      rw [HRF.out]
      exact ⟨rfl,HWX.out⟩
     | true =>
      have HRF:Hid (R=true):=by unfold Hid;rw [HRE.out];simp [hR3.out,hR4.out]
      go_wp2_with fail
      go_ret
      rw [HRF.out]
      exact ⟨rfl,HWX.out⟩
   ·have HRF:Hid (R=false):=by unfold Hid;rw [HRE.out];simp [h2]
    obtain ⟨S,hS⟩:∃ S:ByteArray,(⟨zr.toArray⟩:ByteArray)=S:=⟨_,rfl⟩
    obtain ⟨T,hT⟩:∃ T:ByteArray,(⟨yr.toArray⟩:ByteArray)=T:=⟨_,rfl⟩
    have hst:S.toList≠T.toList:=by rw [← hS,← hT,(Tx.of zr).toL,(Tx.of yr).toL];exact h2
    have hst1:¬ S.toList=T.toList:=hst
    have hst2:(S.toList == T.toList)=false:=by rw [beq_eq_false_iff_ne];exact hst
    have hst3:¬ S=T:=fun e=>hst (by rw [e])
    rw [hS] at gx2
    rw [hT] at gy2
    clear h2 hst hS hT
    go_wp2_with fail
    go_ret
    rw [HRF.out]
    exact ⟨rfl,HWX.out⟩
  ·have HRF:Hid (R=false):=by unfold Hid;rw [HRE.out];simp [h1]
   have t1:(zo == yo)=false:=by rw [beq_eq_false_iff_ne];exact h1
   have t1':¬ zo=yo:=h1
   clear h1
   go_wp2_with fail
   go_ret
   rw [HRF.out]
   exact ⟨rfl,HWX.out⟩
 ·have HRF:Hid (R=false):=by unfold Hid;rw [HRE.out];simp [h0]
  obtain ⟨S,hS⟩:∃ S:ByteArray,(⟨zn.toArray⟩:ByteArray)=S:=⟨_,rfl⟩
  obtain ⟨T,hT⟩:∃ T:ByteArray,(⟨yn.toArray⟩:ByteArray)=T:=⟨_,rfl⟩
  have hst:S.toList≠T.toList:=by rw [← hS,← hT,(Tx.of zn).toL,(Tx.of yn).toL];exact h0
  have hst1:¬ S.toList=T.toList:=hst
  have hst2:(S.toList == T.toList)=false:=by rw [beq_eq_false_iff_ne];exact hst
  have hst3:¬ S=T:=fun e=>hst (by rw [e])
  rw [hS] at gx0
  rw [hT] at gy0
  clear h0 hst hS hT
  go_wp2_with fail
  go_ret
  rw [HRF.out]
  exact ⟨rfl,HWX.out⟩
set_option maxRecDepth 100000 in
set_option maxHeartbeats 6400000 in
theorem eqFunc_met (w:World) (v1 v2:Value) (la lb:List Met) (h1:LM w An v1 la) (h2:LM w An v2 lb) (hla:la.length≤100000) (hco:∀ f ∈ la,ndM f) :
  Calls Tryz.prog 100 #[v1,v2,.func (.func 101) #[] #[]] w fun e w'=>e = .returned (.bool (allEq eqM la lb))∧Nx w w':=by
 obtain ⟨A1,a1,zs,hv1,hzl,-,-,hrd1,hall1⟩:=h1.sl metA_size
 obtain ⟨A2,a2,ys,hv2,hyl,-,-,hrd2,hall2⟩:=h2.sl metA_size
 subst hv1 hv2
 have H1:=Lib.hid h1
 have H2:=Lib.hid h2
 have HCO:=Lib.hid hco
 have hlaI:(la.length:Int)≤100000:=by omega
 clear h1 h2 hco hrd1 hrd2 hall1 hall2 hzl hyl
 by_cases hlen:la.length=lb.length
 ·rw [← hlen]
  have HLE:=Lib.hid hlen
  clear hlen
  go_enter Tryz.func100,Tryz.ntmps100
  go_wp2_with fail
  go_loopw [17] (fun iv wr=>∃ (i:Nat),iv = .int .i64 (i:Int)∧i≤la.length∧Hid (∀ j (h1:j<la.length) (h2:j<lb.length),j<i→eqM la[j] lb[j]=true)∧Hid (Nx w wr)) (fun iv _=>(200000 - intOf iv).toNat)
  case atStart=>exact ⟨0,rfl,Nat.zero_le _,Lib.hid (fun j _ _ h=>absurd h (Nat.not_lt_zero _)),Lib.hid (Nx.refl _)⟩
  case round =>
   obtain ⟨i,rfl,hi,HEQ,HO⟩:=hrel
   have hiI:(i:Int)≤100000:=by omega
   by_cases hlt:i<la.length
   ·have q1:decide ((i:Int)<(la.length:Int))=true:=decide_eq_true (by omega)
    have q2:(i:Int)<(la.length:Int):=by omega
    have hltb:i<lb.length:=by have:=HLE.out;omega
    have HLTB:=Lib.hid hltb
    have hr1:LM wr An (.slice A1 la.length a1) la:=LM.lasts (mvAn HO.out) H1.out
    have hr2:LM wr An (.slice A2 lb.length a2) lb:=LM.lasts (mvAn HO.out) H2.out
    obtain ⟨A',ac',zs,hlv,hzl,hzc,hzm,hrd,hall⟩:=hr1.sl metA_size
    injection hlv with h1 h2 h3
    subst h1 h3
    clear h2
    obtain ⟨g1,rfl,hg1,hcs⟩:=hrd (by omega)
    obtain ⟨Z,hZ⟩:∃ Z,zs[i]'(by omega)=Z:=⟨_,rfl⟩
    have hrc:RM wr An Z la[i]:=by
     have:=hall.at_ i (by omega) hlt
     rw [hZ] at this
     exact RM.lasts ⟨fun _ _ _=>rfl,fun _ _ _=>trivial⟩ this
    obtain ⟨A'',ac'',ys,hlv,hyl,hyc,hym,hrd',hall'⟩:=hr2.sl metA_size
    injection hlv with h1 h2 h3
    subst h1 h3
    clear h2
    obtain ⟨g2,rfl,hg2,hcs'⟩:=hrd' (by omega)
    obtain ⟨Y,hY⟩:∃ Y,ys[i]'(by omega)=Y:=⟨_,rfl⟩
    have hrdd:RM wr An Y lb[i]:=by
     have:=hall'.at_ i (by omega) hltb
     rw [hY] at this
     exact RM.lasts ⟨fun _ _ _=>rfl,fun _ _ _=>trivial⟩ this
    obtain ⟨zn,zo,zr,zx,zy⟩:=Z
    obtain ⟨zA,zu,zc,rfl⟩:∃ A k cap,zx = .slice A k cap:=by
     obtain ⟨A,c,-,e,-⟩:=hrc.2.2.2.1.sl fldA_size
     exact ⟨A,_,c,e⟩
    obtain ⟨zB,zv,zd,rfl⟩:∃ A k cap,zy = .slice A k cap:=by
     obtain ⟨A,c,-,e,-⟩:=hrc.2.2.2.2.sl fldA_size
     exact ⟨A,_,c,e⟩
    obtain ⟨yn,yo,yr,yx,yy⟩:=Y
    obtain ⟨yA,yu,yc,rfl⟩:∃ A k cap,yx = .slice A k cap:=by
     obtain ⟨A,c,-,e,-⟩:=hrdd.2.2.2.1.sl fldA_size
     exact ⟨A,_,c,e⟩
    obtain ⟨yB,yv,yd,rfl⟩:∃ A k cap,yy = .slice A k cap:=by
     obtain ⟨A,c,-,e,-⟩:=hrdd.2.2.2.2.sl fldA_size
     exact ⟨A,_,c,e⟩
    have hcell:∀ j,j<5→wr.cell? ⟨g1,i * 5+j,none⟩=(metA ⟨zn,zo,zr,.slice zA zu zc,.slice zB zv zd⟩)[j]?:=fun j hj=>by rw [hcs i (by omega) j hj,hZ]
    have hcell2:∀ j,j<5→wr.cell? ⟨g2,i * 5+j,none⟩=(metA ⟨yn,yo,yr,.slice yA yu yc,.slice yB yv yd⟩)[j]?:=fun j hj=>by rw [hcs' i (by omega) j hj,hY]
    have e0:wr.cell? ⟨g1,i * 5,none⟩=some (.string ⟨zn.toArray⟩):=hcell 0 (by decide)
    have e1:wr.cell? ⟨g1,i * 5+1,none⟩=some (.bool zo):=hcell 1 (by decide)
    have e2:wr.cell? ⟨g1,i * 5+2,none⟩=some (.string ⟨zr.toArray⟩):=hcell 2 (by decide)
    have e3:wr.cell? ⟨g1,i * 5+3,none⟩=some (.slice zA zu zc):=hcell 3 (by decide)
    have e4:wr.cell? ⟨g1,i * 5+4,none⟩=some (.slice zB zv zd):=hcell 4 (by decide)
    have HCE2:=Lib.hid hcell2
    have HR1:=Lib.hid hrc
    have HR2:=Lib.hid hrdd
    have HG2:=Lib.hid hg2
    clear hltb hcs hcs' hcell hcell2 hall hall' hr1 hr2 hZ hY hrc hrdd hzl hyl hzc hzm hyc hym hrd' hrd hg1 hg2
    obtain ⟨ga,hga⟩:∃ g,wr.heap.size=g:=⟨_,rfl⟩
    go_upto_region 6 with fail
    have hB1:=Blk.new wr #[.string ⟨zn.toArray⟩,.bool zo,.string ⟨zr.toArray⟩,.slice zA zu zc,.slice zB zv zd] 61
    rw [hga] at hB1
    have hn1:Nx wr (wr.alloc (.cells #[.string ⟨zn.toArray⟩,.bool zo,.string ⟨zr.toArray⟩,.slice zA zu zc,.slice zB zv zd] 61)):=nx0 _ _
    generalize World.alloc wr _=W1 at *
    have hcell2:∀ j,j<5→W1.cell? ⟨g2,i * 5+j,none⟩=(metA ⟨yn,yo,yr,.slice yA yu yc,.slice yB yv yd⟩)[j]?:=fun j hj=>(hn1.cell (p:=⟨g2,i * 5+j,none⟩) HG2.out).trans (HCE2.out j hj)
    have f0:W1.cell? ⟨g2,i * 5,none⟩=some (.string ⟨yn.toArray⟩):=hcell2 0 (by decide)
    have f1:W1.cell? ⟨g2,i * 5+1,none⟩=some (.bool yo):=hcell2 1 (by decide)
    have f2:W1.cell? ⟨g2,i * 5+2,none⟩=some (.string ⟨yr.toArray⟩):=hcell2 2 (by decide)
    have f3:W1.cell? ⟨g2,i * 5+3,none⟩=some (.slice yA yu yc):=hcell2 3 (by decide)
    have f4:W1.cell? ⟨g2,i * 5+4,none⟩=some (.slice yB yv yd):=hcell2 4 (by decide)
    obtain ⟨gb,hgb⟩:∃ g,W1.heap.size=g:=⟨_,rfl⟩
    have HB1:=Lib.hid hB1
    have HN1:=Lib.hid hn1
    clear e0 e1 e2 e3 e4 hcell2 HCE2 hga hB1 hn1
    go_upto_region 7 with fail
    have hB2:=Blk.new W1 #[.string ⟨yn.toArray⟩,.bool yo,.string ⟨yr.toArray⟩,.slice yA yu yc,.slice yB yv yd] 61
    rw [hgb] at hB2
    have hn2:Nx W1 (W1.alloc (.cells #[.string ⟨yn.toArray⟩,.bool yo,.string ⟨yr.toArray⟩,.slice yA yu yc,.slice yB yv yd] 61)):=nx0 _ _
    generalize World.alloc W1 _=W2 at *
    have hB1':=HB1.out.below hn2
    have c0:W2.cell? ⟨ga,0,none⟩=some (.string ⟨zn.toArray⟩):=hB1'.cell 0
    have c1:W2.cell? ⟨ga,1,none⟩=some (.bool zo):=hB1'.cell 1
    have c2:W2.cell? ⟨ga,2,none⟩=some (.string ⟨zr.toArray⟩):=hB1'.cell 2
    have c3:W2.cell? ⟨ga,3,none⟩=some (.slice zA zu zc):=hB1'.cell 3
    have c4:W2.cell? ⟨ga,4,none⟩=some (.slice zB zv zd):=hB1'.cell 4
    have d0:W2.cell? ⟨gb,0,none⟩=some (.string ⟨yn.toArray⟩):=hB2.cell 0
    have d1:W2.cell? ⟨gb,1,none⟩=some (.bool yo):=hB2.cell 1
    have d2:W2.cell? ⟨gb,2,none⟩=some (.string ⟨yr.toArray⟩):=hB2.cell 2
    have d3:W2.cell? ⟨gb,3,none⟩=some (.slice yA yu yc):=hB2.cell 3
    have d4:W2.cell? ⟨gb,4,none⟩=some (.slice yB yv yd):=hB2.cell 4
    have hnx:Nx wr W2:=HN1.out.trans hn2
    have hcall:=sameMethod_any W2 ⟨zn,zo,zr,.slice zA zu zc,.slice zB zv zd⟩ ⟨yn,yo,yr,.slice yA yu yc,.slice yB yv yd⟩ (la[i]'hlt) (lb[i]'HLTB.out) (RM.lasts (mvAn hnx) HR1.out) (RM.lasts (mvAn hnx) HR2.out) (HCO.out _ (List.getElem_mem hlt))
    obtain ⟨R,hR⟩:∃ R,Hid (eqM la[i] (lb[i]'HLTB.out)=R):=⟨_,Lib.hid rfl⟩
    rw [hR.out] at hcall
    have HC2:=Lib.hid hcall
    have HO2:=Lib.hid (HO.out.trans hnx)
    clear f0 f1 f2 f3 f4 hB2 hn2 hgb hB1' hnx hcall HB1 HN1 HO HR1 HR2
    go_wp2_with fail
    refine HC2.out.mono ?_;rintro e w3 ⟨rfl,ho3⟩
    have HO3:=Lib.hid (HO2.out.trans ho3)
    clear ho3 c0 c1 c2 c3 c4 d0 d1 d2 d3 d4
    cases R with
    | true =>
     go_wp2_with fail
     go_roundw
     case rel=>exact ⟨i+1,by go_num,hlt,Lib.hid (fun j a b h=>by
      rcases Nat.lt_or_ge j i with h' | h'
      ·exact HEQ.out j a b h'
      ·obtain rfl:j=i:=by omega
       exact hR.out),HO3⟩
     case measure=>simp [intOf];omega
    | false =>
     have HF:Hid (allEq eqM la lb=false):=allEq_false i hlt HLTB.out hR.out
     go_wp2_with fail
     go_ret
     rw [HF.out]
     exact ⟨rfl,HO3.out⟩
   ·obtain rfl:i=la.length:=by omega
    have q1:decide ((la.length:Int)<(la.length:Int))=false:=decide_eq_false (by omega)
    have HF:Hid (allEq eqM la lb=true):=allEq_true HLE.out fun j a b=>HEQ.out j a b a
    clear hlt hi
    go_wp2_with fail
    go_ret
    rw [HF.out]
    exact ⟨rfl,HO.out⟩
 ·have b1:((la.length:Int) != (lb.length:Int))=true:=by rw [bne_iff_ne];omega
  have b1':¬ (la.length:Int)=(lb.length:Int):=by omega
  have hf:allEq eqM la lb=false:=allEq_len hlen
  rw [hf]
  clear hlen
  go_enter Tryz.func100,Tryz.ntmps100
  go_wp2_with fail
  go_ret
  exact ⟨rfl,Nx.refl _⟩
set_option maxRecDepth 100000 in
set_option maxHeartbeats 12800000 in
theorem sameDef_any (w:World) (x y:DfnS) (f g:Dfn) (hx:RD w An x f) (hy:RD w An y g) (hco:ndD f) :
  Calls Tryz.prog 51 #[.agg (dfnA x),.agg (dfnA y)] w fun e w'=>e = .returned (.bool (eqD f g))∧Nx w w':=by
 obtain ⟨zk,zn,zt,⟨zi,zm,zd,zs,zl⟩,zp,zq,ze,zr⟩:=x
 obtain ⟨yk,yn,yt,⟨yi,ym,yd,ys,yl⟩,yp,yq,ye,yr⟩:=y
 obtain ⟨zA,zu,zc,rfl⟩:∃ A k cap,zl = .slice A k cap:=hx.2.2.2.1.slv
 obtain ⟨zB,zv,zg,rfl⟩:∃ A k cap,zp = .slice A k cap:=by
  obtain ⟨A,c,-,e,-⟩:=hx.2.2.2.2.1.sl fldA_size
  exact ⟨A,_,c,e⟩
 obtain ⟨zC,zw,zh,rfl⟩:∃ A k cap,zq = .slice A k cap:=by
  obtain ⟨A,c,-,e,-⟩:=hx.2.2.2.2.2.1.sl memA_size
  exact ⟨A,_,c,e⟩
 obtain ⟨zD,zx,zj,rfl⟩:∃ A k cap,zr = .slice A k cap:=by
  obtain ⟨A,c,-,e,-⟩:=hx.2.2.2.2.2.2.2.sl metA_size
  exact ⟨A,_,c,e⟩
 obtain ⟨yA,yu,yc,rfl⟩:∃ A k cap,yl = .slice A k cap:=hy.2.2.2.1.slv
 obtain ⟨yB,yv,yg,rfl⟩:∃ A k cap,yp = .slice A k cap:=by
  obtain ⟨A,c,-,e,-⟩:=hy.2.2.2.2.1.sl fldA_size
  exact ⟨A,_,c,e⟩
 obtain ⟨yC,yw,yh,rfl⟩:∃ A k cap,yq = .slice A k cap:=by
  obtain ⟨A,c,-,e,-⟩:=hy.2.2.2.2.2.1.sl memA_size
  exact ⟨A,_,c,e⟩
 obtain ⟨yD,yx,yj,rfl⟩:∃ A k cap,yr = .slice A k cap:=by
  obtain ⟨A,c,-,e,-⟩:=hy.2.2.2.2.2.2.2.sl metA_size
  exact ⟨A,_,c,e⟩
 obtain ⟨fk,fn,ft,fc,ff,fm,fe,fb⟩:=f
 obtain ⟨gk,gn,gt,gc,gf,gm,ge,gb⟩:=g
 obtain ⟨rfl,rfl,rfl,hxc,hxf,hxm,rfl,hxt⟩:zk=fk∧zn=fn∧zt=ft∧RC 13 w An ⟨zi,zm,zd,zs,.slice zA zu zc⟩ fc∧LF w An (.slice zB zv zg) ff∧LMm w An (.slice zC zw zh) fm∧ze=fe∧LM w An (.slice zD zx zj) fb:=hx
 obtain ⟨rfl,rfl,rfl,hyc,hyf,hym,rfl,hyt⟩:yk=gk∧yn=gn∧yt=gt∧RC 13 w An ⟨yi,ym,yd,ys,.slice yA yu yc⟩ gc∧LF w An (.slice yB yv yg) gf∧LMm w An (.slice yC yw yh) gm∧ye=ge∧LM w An (.slice yD yx yj) gb:=hy
 have HXC:=Lib.hid hxc
 have HXF:=Lib.hid hxf
 have HXM:=Lib.hid hxm
 have HXT:=Lib.hid hxt
 have HYC:=Lib.hid hyc
 have HYF:=Lib.hid hyf
 have HYM:=Lib.hid hym
 have HYT:=Lib.hid hyt
 clear hxc hxf hxm hxt hyc hyf hym hyt
 obtain ⟨R,hR⟩:∃ R,Hid (eqD ⟨zk,zn,zt,fc,ff,fm,ze,fb⟩ ⟨yk,yn,yt,gc,gf,gm,ye,gb⟩=R):=⟨_,Lib.hid rfl⟩
 rw [hR.out]
 have hRe:R=((zk == yk) && (zn == yn) && (zt == yt) && eqC 13 fc gc && allEq eqF ff gf && allEq eqMm fm gm && (ze == ye) && allEq eqM fb gb):=hR.out.symm
 have HRE:=Lib.hid hRe
 have HCO:=Lib.hid hco
 obtain ⟨gx,hgx⟩:∃ g,w.heap.size=g:=⟨_,rfl⟩
 have hBx:=Blk.new w #[.int .i64 (zk:Int),.string ⟨zn.toArray⟩,.string ⟨zt.toArray⟩,.int .i64 (zi:Int),.int .i64 zm,.int .u64 (zd:Int),.string ⟨zs.toArray⟩,.slice zA zu zc,.slice zB zv zg,.slice zC zw zh,.string ⟨ze.toArray⟩,.slice zD zx zj] 55
 rw [hgx] at hBx
 have hn1:Nx w (w.alloc (.cells #[.int .i64 (zk:Int),.string ⟨zn.toArray⟩,.string ⟨zt.toArray⟩,.int .i64 (zi:Int),.int .i64 zm,.int .u64 (zd:Int),.string ⟨zs.toArray⟩,.slice zA zu zc,.slice zB zv zg,.slice zC zw zh,.string ⟨ze.toArray⟩,.slice zD zx zj] 55)):=nx0 _ _
 have hs1:(w.alloc (.cells #[.int .i64 (zk:Int),.string ⟨zn.toArray⟩,.string ⟨zt.toArray⟩,.int .i64 (zi:Int),.int .i64 zm,.int .u64 (zd:Int),.string ⟨zs.toArray⟩,.slice zA zu zc,.slice zB zv zg,.slice zC zw zh,.string ⟨ze.toArray⟩,.slice zD zx zj] 55)).heap.size=w.heap.size+1:=by simp
 rw [hgx] at hs1
 obtain ⟨gy,hgy⟩:∃ g,gx+1=g:=⟨_,rfl⟩
 rw [hgy] at hs1
 have HBX:=Lib.hid hBx
 have HN1:=Lib.hid hn1
 clear hR hRe hco hBx hn1
 show Calls _ _ #[.agg #[.int .i64 (zk:Int),.string ⟨zn.toArray⟩,.string ⟨zt.toArray⟩,.int .i64 (zi:Int),.int .i64 zm,.int .u64 (zd:Int),.string ⟨zs.toArray⟩,.slice zA zu zc,.slice zB zv zg,.slice zC zw zh,.string ⟨ze.toArray⟩,.slice zD zx zj],.agg #[.int .i64 (yk:Int),.string ⟨yn.toArray⟩,.string ⟨yt.toArray⟩,.int .i64 (yi:Int),.int .i64 ym,.int .u64 (yd:Int),.string ⟨ys.toArray⟩,.slice yA yu yc,.slice yB yv yg,.slice yC yw yh,.string ⟨ye.toArray⟩,.slice yD yx yj]] _ _
 go_enter Tryz.func51,Tryz.ntmps51
 go_upto_region 1 with fail
 generalize hW1:World.alloc w _=W1 at *
 have hBy:=Blk.new W1 #[.int .i64 (yk:Int),.string ⟨yn.toArray⟩,.string ⟨yt.toArray⟩,.int .i64 (yi:Int),.int .i64 ym,.int .u64 (yd:Int),.string ⟨ys.toArray⟩,.slice yA yu yc,.slice yB yv yg,.slice yC yw yh,.string ⟨ye.toArray⟩,.slice yD yx yj] 55
 have hn2:Nx W1 (W1.alloc (.cells #[.int .i64 (yk:Int),.string ⟨yn.toArray⟩,.string ⟨yt.toArray⟩,.int .i64 (yi:Int),.int .i64 ym,.int .u64 (yd:Int),.string ⟨ys.toArray⟩,.slice yA yu yc,.slice yB yv yg,.slice yC yw yh,.string ⟨ye.toArray⟩,.slice yD yx yj] 55)):=nx0 _ _
 rw [hs1] at hBy
 have hBx:=HBX.out.below hn2
 generalize World.alloc W1 _=W at *
 have HBX:=Lib.hid hBx
 have HBY:=Lib.hid hBy
 have HWX:=Lib.hid (HN1.out.trans hn2)
 have HWC:Hid (Nx W W):=Nx.refl _
 clear hW1 hBx hBy hn2 hs1 hgx hgy HN1
 have gx0:W.cell? ⟨gx,0,none⟩=some (.int .i64 (zk:Int)):=HBX.out.cell 0
 have gx1:W.cell? ⟨gx,1,none⟩=some (.string ⟨zn.toArray⟩):=HBX.out.cell 1
 have gx2:W.cell? ⟨gx,2,none⟩=some (.string ⟨zt.toArray⟩):=HBX.out.cell 2
 have gx3:W.cell? ⟨gx,3,none⟩=some (.int .i64 (zi:Int)):=HBX.out.cell 3
 have gx4:W.cell? ⟨gx,4,none⟩=some (.int .i64 zm):=HBX.out.cell 4
 have gx5:W.cell? ⟨gx,5,none⟩=some (.int .u64 (zd:Int)):=HBX.out.cell 5
 have gx6:W.cell? ⟨gx,6,none⟩=some (.string ⟨zs.toArray⟩):=HBX.out.cell 6
 have gx7:W.cell? ⟨gx,7,none⟩=some (.slice zA zu zc):=HBX.out.cell 7
 have gx8:W.cell? ⟨gx,8,none⟩=some (.slice zB zv zg):=HBX.out.cell 8
 have gx9:W.cell? ⟨gx,9,none⟩=some (.slice zC zw zh):=HBX.out.cell 9
 have gx10:W.cell? ⟨gx,10,none⟩=some (.string ⟨ze.toArray⟩):=HBX.out.cell 10
 have gx11:W.cell? ⟨gx,11,none⟩=some (.slice zD zx zj):=HBX.out.cell 11
 have gy0:W.cell? ⟨gy,0,none⟩=some (.int .i64 (yk:Int)):=HBY.out.cell 0
 have gy1:W.cell? ⟨gy,1,none⟩=some (.string ⟨yn.toArray⟩):=HBY.out.cell 1
 have gy2:W.cell? ⟨gy,2,none⟩=some (.string ⟨yt.toArray⟩):=HBY.out.cell 2
 have gy3:W.cell? ⟨gy,3,none⟩=some (.int .i64 (yi:Int)):=HBY.out.cell 3
 have gy4:W.cell? ⟨gy,4,none⟩=some (.int .i64 ym):=HBY.out.cell 4
 have gy5:W.cell? ⟨gy,5,none⟩=some (.int .u64 (yd:Int)):=HBY.out.cell 5
 have gy6:W.cell? ⟨gy,6,none⟩=some (.string ⟨ys.toArray⟩):=HBY.out.cell 6
 have gy7:W.cell? ⟨gy,7,none⟩=some (.slice yA yu yc):=HBY.out.cell 7
 have gy8:W.cell? ⟨gy,8,none⟩=some (.slice yB yv yg):=HBY.out.cell 8
 have gy9:W.cell? ⟨gy,9,none⟩=some (.slice yC yw yh):=HBY.out.cell 9
 have gy10:W.cell? ⟨gy,10,none⟩=some (.string ⟨ye.toArray⟩):=HBY.out.cell 10
 have gy11:W.cell? ⟨gy,11,none⟩=some (.slice yD yx yj):=HBY.out.cell 11
 by_cases h0:zk=yk
 ·subst h0
  by_cases h1:zn=yn
  ·subst h1
   by_cases h2:zt=yt
   ·subst h2
    obtain ⟨R3,hR3⟩:∃ R,Hid (eqC 13 fc gc=R):=⟨_,Lib.hid rfl⟩
    have hcall3:=sameConst_any W An An ⟨zi,zm,zd,zs,.slice zA zu zc⟩ ⟨yi,ym,yd,ys,.slice yA yu yc⟩ fc gc (RC.lasts 13 (mvAn HWX.out) HXC.out) (RC.lasts 13 (mvAn HWX.out) HYC.out) HCO.out.1
    rw [hR3.out] at hcall3
    have HCA3:=Lib.hid hcall3
    clear hcall3
    go_wp2_with fail
    refine HCA3.out.mono ?_;rintro e wk3 ⟨rfl,hnx3⟩
    have HWX:=Lib.hid (HWX.out.trans hnx3)
    have HWC:=Lib.hid (HWC.out.trans hnx3)
    clear hnx3 gx0 gy0 gx1 gy1 gx2 gy2 gx3 gy3 gx4 gy4 gx5 gy5 gx6 gy6 gx7 gy7 gx8 gy8 gx9 gy9 gx10 gy10 gx11 gy11 HCA3
    have gx0:wk3.cell? ⟨gx,0,none⟩=some (.int .i64 (zk:Int)):=(HBX.out.below HWC.out).cell 0
    have gx1:wk3.cell? ⟨gx,1,none⟩=some (.string ⟨zn.toArray⟩):=(HBX.out.below HWC.out).cell 1
    have gx2:wk3.cell? ⟨gx,2,none⟩=some (.string ⟨zt.toArray⟩):=(HBX.out.below HWC.out).cell 2
    have gx3:wk3.cell? ⟨gx,3,none⟩=some (.int .i64 (zi:Int)):=(HBX.out.below HWC.out).cell 3
    have gx4:wk3.cell? ⟨gx,4,none⟩=some (.int .i64 zm):=(HBX.out.below HWC.out).cell 4
    have gx5:wk3.cell? ⟨gx,5,none⟩=some (.int .u64 (zd:Int)):=(HBX.out.below HWC.out).cell 5
    have gx6:wk3.cell? ⟨gx,6,none⟩=some (.string ⟨zs.toArray⟩):=(HBX.out.below HWC.out).cell 6
    have gx7:wk3.cell? ⟨gx,7,none⟩=some (.slice zA zu zc):=(HBX.out.below HWC.out).cell 7
    have gx8:wk3.cell? ⟨gx,8,none⟩=some (.slice zB zv zg):=(HBX.out.below HWC.out).cell 8
    have gx9:wk3.cell? ⟨gx,9,none⟩=some (.slice zC zw zh):=(HBX.out.below HWC.out).cell 9
    have gx10:wk3.cell? ⟨gx,10,none⟩=some (.string ⟨ze.toArray⟩):=(HBX.out.below HWC.out).cell 10
    have gx11:wk3.cell? ⟨gx,11,none⟩=some (.slice zD zx zj):=(HBX.out.below HWC.out).cell 11
    have gy0:wk3.cell? ⟨gy,0,none⟩=some (.int .i64 (zk:Int)):=(HBY.out.below HWC.out).cell 0
    have gy1:wk3.cell? ⟨gy,1,none⟩=some (.string ⟨zn.toArray⟩):=(HBY.out.below HWC.out).cell 1
    have gy2:wk3.cell? ⟨gy,2,none⟩=some (.string ⟨zt.toArray⟩):=(HBY.out.below HWC.out).cell 2
    have gy3:wk3.cell? ⟨gy,3,none⟩=some (.int .i64 (yi:Int)):=(HBY.out.below HWC.out).cell 3
    have gy4:wk3.cell? ⟨gy,4,none⟩=some (.int .i64 ym):=(HBY.out.below HWC.out).cell 4
    have gy5:wk3.cell? ⟨gy,5,none⟩=some (.int .u64 (yd:Int)):=(HBY.out.below HWC.out).cell 5
    have gy6:wk3.cell? ⟨gy,6,none⟩=some (.string ⟨ys.toArray⟩):=(HBY.out.below HWC.out).cell 6
    have gy7:wk3.cell? ⟨gy,7,none⟩=some (.slice yA yu yc):=(HBY.out.below HWC.out).cell 7
    have gy8:wk3.cell? ⟨gy,8,none⟩=some (.slice yB yv yg):=(HBY.out.below HWC.out).cell 8
    have gy9:wk3.cell? ⟨gy,9,none⟩=some (.slice yC yw yh):=(HBY.out.below HWC.out).cell 9
    have gy10:wk3.cell? ⟨gy,10,none⟩=some (.string ⟨ye.toArray⟩):=(HBY.out.below HWC.out).cell 10
    have gy11:wk3.cell? ⟨gy,11,none⟩=some (.slice yD yx yj):=(HBY.out.below HWC.out).cell 11
    cases R3 with
    | false =>
     have HRF:Hid (R=false):=by unfold Hid;rw [HRE.out];simp [hR3.out]
     go_wp2_with fail
     go_ret
     rw [HRF.out]
     exact ⟨rfl,HWX.out⟩
    | true =>
     obtain ⟨R4,hR4⟩:∃ R,Hid (allEq eqF ff gf=R):=⟨_,Lib.hid rfl⟩
     have hcall4:=sameFields_any wk3 (.slice zB zv zg) (.slice yB yv yg) ff gf (LF.lasts (mvAn HWX.out) HXF.out) (LF.lasts (mvAn HWX.out) HYF.out) HCO.out.2.1.1 HCO.out.2.1.2
     rw [hR4.out] at hcall4
     have HCA4:=Lib.hid hcall4
     clear hcall4
     go_wp2_with fail
     refine HCA4.out.mono ?_;rintro e wk4 ⟨rfl,hnx4⟩
     have HWX:=Lib.hid (HWX.out.trans hnx4)
     have HWC:=Lib.hid (HWC.out.trans hnx4)
     clear hnx4 gx0 gy0 gx1 gy1 gx2 gy2 gx3 gy3 gx4 gy4 gx5 gy5 gx6 gy6 gx7 gy7 gx8 gy8 gx9 gy9 gx10 gy10 gx11 gy11 HCA4
     have gx0:wk4.cell? ⟨gx,0,none⟩=some (.int .i64 (zk:Int)):=(HBX.out.below HWC.out).cell 0
     have gx1:wk4.cell? ⟨gx,1,none⟩=some (.string ⟨zn.toArray⟩):=(HBX.out.below HWC.out).cell 1
     have gx2:wk4.cell? ⟨gx,2,none⟩=some (.string ⟨zt.toArray⟩):=(HBX.out.below HWC.out).cell 2
     have gx3:wk4.cell? ⟨gx,3,none⟩=some (.int .i64 (zi:Int)):=(HBX.out.below HWC.out).cell 3
     have gx4:wk4.cell? ⟨gx,4,none⟩=some (.int .i64 zm):=(HBX.out.below HWC.out).cell 4
     have gx5:wk4.cell? ⟨gx,5,none⟩=some (.int .u64 (zd:Int)):=(HBX.out.below HWC.out).cell 5
     have gx6:wk4.cell? ⟨gx,6,none⟩=some (.string ⟨zs.toArray⟩):=(HBX.out.below HWC.out).cell 6
     have gx7:wk4.cell? ⟨gx,7,none⟩=some (.slice zA zu zc):=(HBX.out.below HWC.out).cell 7
     have gx8:wk4.cell? ⟨gx,8,none⟩=some (.slice zB zv zg):=(HBX.out.below HWC.out).cell 8
     have gx9:wk4.cell? ⟨gx,9,none⟩=some (.slice zC zw zh):=(HBX.out.below HWC.out).cell 9
     have gx10:wk4.cell? ⟨gx,10,none⟩=some (.string ⟨ze.toArray⟩):=(HBX.out.below HWC.out).cell 10
     have gx11:wk4.cell? ⟨gx,11,none⟩=some (.slice zD zx zj):=(HBX.out.below HWC.out).cell 11
     have gy0:wk4.cell? ⟨gy,0,none⟩=some (.int .i64 (zk:Int)):=(HBY.out.below HWC.out).cell 0
     have gy1:wk4.cell? ⟨gy,1,none⟩=some (.string ⟨zn.toArray⟩):=(HBY.out.below HWC.out).cell 1
     have gy2:wk4.cell? ⟨gy,2,none⟩=some (.string ⟨zt.toArray⟩):=(HBY.out.below HWC.out).cell 2
     have gy3:wk4.cell? ⟨gy,3,none⟩=some (.int .i64 (yi:Int)):=(HBY.out.below HWC.out).cell 3
     have gy4:wk4.cell? ⟨gy,4,none⟩=some (.int .i64 ym):=(HBY.out.below HWC.out).cell 4
     have gy5:wk4.cell? ⟨gy,5,none⟩=some (.int .u64 (yd:Int)):=(HBY.out.below HWC.out).cell 5
     have gy6:wk4.cell? ⟨gy,6,none⟩=some (.string ⟨ys.toArray⟩):=(HBY.out.below HWC.out).cell 6
     have gy7:wk4.cell? ⟨gy,7,none⟩=some (.slice yA yu yc):=(HBY.out.below HWC.out).cell 7
     have gy8:wk4.cell? ⟨gy,8,none⟩=some (.slice yB yv yg):=(HBY.out.below HWC.out).cell 8
     have gy9:wk4.cell? ⟨gy,9,none⟩=some (.slice yC yw yh):=(HBY.out.below HWC.out).cell 9
     have gy10:wk4.cell? ⟨gy,10,none⟩=some (.string ⟨ye.toArray⟩):=(HBY.out.below HWC.out).cell 10
     have gy11:wk4.cell? ⟨gy,11,none⟩=some (.slice yD yx yj):=(HBY.out.below HWC.out).cell 11
     cases R4 with
     | false =>
      have HRF:Hid (R=false):=by unfold Hid;rw [HRE.out];simp [hR4.out]
      go_wp2_with fail
      go_ret
      rw [HRF.out]
      exact ⟨rfl,HWX.out⟩
     | true =>
      obtain ⟨R5,hR5⟩:∃ R,Hid (allEq eqMm fm gm=R):=⟨_,Lib.hid rfl⟩
      have hcall5:=equal_mem wk4 (.slice zC zw zh) (.slice yC yw yh) fm gm (LMm.lasts (mvAn HWX.out) HXM.out) (LMm.lasts (mvAn HWX.out) HYM.out) HCO.out.2.2.1
      rw [hR5.out] at hcall5
      have HCA5:=Lib.hid hcall5
      clear hcall5
      go_wp2_with fail
      refine HCA5.out.mono ?_;rintro e wk5 ⟨rfl,hnx5⟩
      have HWX:=Lib.hid (HWX.out.trans hnx5)
      have HWC:=Lib.hid (HWC.out.trans hnx5)
      clear hnx5 gx0 gy0 gx1 gy1 gx2 gy2 gx3 gy3 gx4 gy4 gx5 gy5 gx6 gy6 gx7 gy7 gx8 gy8 gx9 gy9 gx10 gy10 gx11 gy11 HCA5
      have gx0:wk5.cell? ⟨gx,0,none⟩=some (.int .i64 (zk:Int)):=(HBX.out.below HWC.out).cell 0
      have gx1:wk5.cell? ⟨gx,1,none⟩=some (.string ⟨zn.toArray⟩):=(HBX.out.below HWC.out).cell 1
      have gx2:wk5.cell? ⟨gx,2,none⟩=some (.string ⟨zt.toArray⟩):=(HBX.out.below HWC.out).cell 2
      have gx3:wk5.cell? ⟨gx,3,none⟩=some (.int .i64 (zi:Int)):=(HBX.out.below HWC.out).cell 3
      have gx4:wk5.cell? ⟨gx,4,none⟩=some (.int .i64 zm):=(HBX.out.below HWC.out).cell 4
      have gx5:wk5.cell? ⟨gx,5,none⟩=some (.int .u64 (zd:Int)):=(HBX.out.below HWC.out).cell 5
      have gx6:wk5.cell? ⟨gx,6,none⟩=some (.string ⟨zs.toArray⟩):=(HBX.out.below HWC.out).cell 6
      have gx7:wk5.cell? ⟨gx,7,none⟩=some (.slice zA zu zc):=(HBX.out.below HWC.out).cell 7
      have gx8:wk5.cell? ⟨gx,8,none⟩=some (.slice zB zv zg):=(HBX.out.below HWC.out).cell 8
      have gx9:wk5.cell? ⟨gx,9,none⟩=some (.slice zC zw zh):=(HBX.out.below HWC.out).cell 9
      have gx10:wk5.cell? ⟨gx,10,none⟩=some (.string ⟨ze.toArray⟩):=(HBX.out.below HWC.out).cell 10
      have gx11:wk5.cell? ⟨gx,11,none⟩=some (.slice zD zx zj):=(HBX.out.below HWC.out).cell 11
      have gy0:wk5.cell? ⟨gy,0,none⟩=some (.int .i64 (zk:Int)):=(HBY.out.below HWC.out).cell 0
      have gy1:wk5.cell? ⟨gy,1,none⟩=some (.string ⟨zn.toArray⟩):=(HBY.out.below HWC.out).cell 1
      have gy2:wk5.cell? ⟨gy,2,none⟩=some (.string ⟨zt.toArray⟩):=(HBY.out.below HWC.out).cell 2
      have gy3:wk5.cell? ⟨gy,3,none⟩=some (.int .i64 (yi:Int)):=(HBY.out.below HWC.out).cell 3
      have gy4:wk5.cell? ⟨gy,4,none⟩=some (.int .i64 ym):=(HBY.out.below HWC.out).cell 4
      have gy5:wk5.cell? ⟨gy,5,none⟩=some (.int .u64 (yd:Int)):=(HBY.out.below HWC.out).cell 5
      have gy6:wk5.cell? ⟨gy,6,none⟩=some (.string ⟨ys.toArray⟩):=(HBY.out.below HWC.out).cell 6
      have gy7:wk5.cell? ⟨gy,7,none⟩=some (.slice yA yu yc):=(HBY.out.below HWC.out).cell 7
      have gy8:wk5.cell? ⟨gy,8,none⟩=some (.slice yB yv yg):=(HBY.out.below HWC.out).cell 8
      have gy9:wk5.cell? ⟨gy,9,none⟩=some (.slice yC yw yh):=(HBY.out.below HWC.out).cell 9
      have gy10:wk5.cell? ⟨gy,10,none⟩=some (.string ⟨ye.toArray⟩):=(HBY.out.below HWC.out).cell 10
      have gy11:wk5.cell? ⟨gy,11,none⟩=some (.slice yD yx yj):=(HBY.out.below HWC.out).cell 11
      cases R5 with
      | false =>
       have HRF:Hid (R=false):=by unfold Hid;rw [HRE.out];simp [hR5.out]
       go_wp2_with fail
       go_ret
       rw [HRF.out]
       exact ⟨rfl,HWX.out⟩
      | true =>
       by_cases h6:ze=ye
       ·subst h6
        obtain ⟨R7,hR7⟩:∃ R,Hid (allEq eqM fb gb=R):=⟨_,Lib.hid rfl⟩
        have hcall7:=eqFunc_met wk5 (.slice zD zx zj) (.slice yD yx yj) fb gb (LM.lasts (mvAn HWX.out) HXT.out) (LM.lasts (mvAn HWX.out) HYT.out) HCO.out.2.2.2.1 HCO.out.2.2.2.2
        rw [hR7.out] at hcall7
        have HCA7:=Lib.hid hcall7
        clear hcall7
        go_wp2_with fail
        refine HCA7.out.mono ?_;rintro e wk7 ⟨rfl,hnx7⟩
        have HWX:=Lib.hid (HWX.out.trans hnx7)
        have HWC:=Lib.hid (HWC.out.trans hnx7)
        clear hnx7 gx0 gy0 gx1 gy1 gx2 gy2 gx3 gy3 gx4 gy4 gx5 gy5 gx6 gy6 gx7 gy7 gx8 gy8 gx9 gy9 gx10 gy10 gx11 gy11 HCA7
        have gx0:wk7.cell? ⟨gx,0,none⟩=some (.int .i64 (zk:Int)):=(HBX.out.below HWC.out).cell 0
        have gx1:wk7.cell? ⟨gx,1,none⟩=some (.string ⟨zn.toArray⟩):=(HBX.out.below HWC.out).cell 1
        have gx2:wk7.cell? ⟨gx,2,none⟩=some (.string ⟨zt.toArray⟩):=(HBX.out.below HWC.out).cell 2
        have gx3:wk7.cell? ⟨gx,3,none⟩=some (.int .i64 (zi:Int)):=(HBX.out.below HWC.out).cell 3
        have gx4:wk7.cell? ⟨gx,4,none⟩=some (.int .i64 zm):=(HBX.out.below HWC.out).cell 4
        have gx5:wk7.cell? ⟨gx,5,none⟩=some (.int .u64 (zd:Int)):=(HBX.out.below HWC.out).cell 5
        have gx6:wk7.cell? ⟨gx,6,none⟩=some (.string ⟨zs.toArray⟩):=(HBX.out.below HWC.out).cell 6
        have gx7:wk7.cell? ⟨gx,7,none⟩=some (.slice zA zu zc):=(HBX.out.below HWC.out).cell 7
        have gx8:wk7.cell? ⟨gx,8,none⟩=some (.slice zB zv zg):=(HBX.out.below HWC.out).cell 8
        have gx9:wk7.cell? ⟨gx,9,none⟩=some (.slice zC zw zh):=(HBX.out.below HWC.out).cell 9
        have gx10:wk7.cell? ⟨gx,10,none⟩=some (.string ⟨ze.toArray⟩):=(HBX.out.below HWC.out).cell 10
        have gx11:wk7.cell? ⟨gx,11,none⟩=some (.slice zD zx zj):=(HBX.out.below HWC.out).cell 11
        have gy0:wk7.cell? ⟨gy,0,none⟩=some (.int .i64 (zk:Int)):=(HBY.out.below HWC.out).cell 0
        have gy1:wk7.cell? ⟨gy,1,none⟩=some (.string ⟨zn.toArray⟩):=(HBY.out.below HWC.out).cell 1
        have gy2:wk7.cell? ⟨gy,2,none⟩=some (.string ⟨zt.toArray⟩):=(HBY.out.below HWC.out).cell 2
        have gy3:wk7.cell? ⟨gy,3,none⟩=some (.int .i64 (yi:Int)):=(HBY.out.below HWC.out).cell 3
        have gy4:wk7.cell? ⟨gy,4,none⟩=some (.int .i64 ym):=(HBY.out.below HWC.out).cell 4
        have gy5:wk7.cell? ⟨gy,5,none⟩=some (.int .u64 (yd:Int)):=(HBY.out.below HWC.out).cell 5
        have gy6:wk7.cell? ⟨gy,6,none⟩=some (.string ⟨ys.toArray⟩):=(HBY.out.below HWC.out).cell 6
        have gy7:wk7.cell? ⟨gy,7,none⟩=some (.slice yA yu yc):=(HBY.out.below HWC.out).cell 7
        have gy8:wk7.cell? ⟨gy,8,none⟩=some (.slice yB yv yg):=(HBY.out.below HWC.out).cell 8
        have gy9:wk7.cell? ⟨gy,9,none⟩=some (.slice yC yw yh):=(HBY.out.below HWC.out).cell 9
        have gy10:wk7.cell? ⟨gy,10,none⟩=some (.string ⟨ze.toArray⟩):=(HBY.out.below HWC.out).cell 10
        have gy11:wk7.cell? ⟨gy,11,none⟩=some (.slice yD yx yj):=(HBY.out.below HWC.out).cell 11
        cases R7 with
        | false =>
         have HRF:Hid (R=false):=by unfold Hid;rw [HRE.out];simp [hR7.out]
         go_wp2_with fail
         go_ret
         rw [HRF.out]
         exact ⟨rfl,HWX.out⟩
        | true =>
         have HRF:Hid (R=true):=by unfold Hid;rw [HRE.out];simp [hR3.out,hR4.out,hR5.out,hR7.out]
         go_wp2_with fail
         go_ret
         rw [HRF.out]
         exact ⟨rfl,HWX.out⟩
       ·have HRF:Hid (R=false):=by unfold Hid;rw [HRE.out];simp [h6]
        obtain ⟨S,hS⟩:∃ S:ByteArray,(⟨ze.toArray⟩:ByteArray)=S:=⟨_,rfl⟩
        obtain ⟨T,hT⟩:∃ T:ByteArray,(⟨ye.toArray⟩:ByteArray)=T:=⟨_,rfl⟩
        have hst:S.toList≠T.toList:=by rw [← hS,← hT,(Tx.of ze).toL,(Tx.of ye).toL];exact h6
        have hst1:¬ S.toList=T.toList:=hst
        have hst2:(S.toList == T.toList)=false:=by rw [beq_eq_false_iff_ne];exact hst
        have hst3:¬ S=T:=fun e=>hst (by rw [e])
        rw [hS] at gx10
        rw [hT] at gy10
        clear h6 hst hS hT
        go_wp2_with fail
        go_ret
        rw [HRF.out]
        exact ⟨rfl,HWX.out⟩
   ·have HRF:Hid (R=false):=by unfold Hid;rw [HRE.out];simp [h2]
    obtain ⟨S,hS⟩:∃ S:ByteArray,(⟨zt.toArray⟩:ByteArray)=S:=⟨_,rfl⟩
    obtain ⟨T,hT⟩:∃ T:ByteArray,(⟨yt.toArray⟩:ByteArray)=T:=⟨_,rfl⟩
    have hst:S.toList≠T.toList:=by rw [← hS,← hT,(Tx.of zt).toL,(Tx.of yt).toL];exact h2
    have hst1:¬ S.toList=T.toList:=hst
    have hst2:(S.toList == T.toList)=false:=by rw [beq_eq_false_iff_ne];exact hst
    have hst3:¬ S=T:=fun e=>hst (by rw [e])
    rw [hS] at gx2
    rw [hT] at gy2
    clear h2 hst hS hT
    go_wp2_with fail
    go_ret
    rw [HRF.out]
    exact ⟨rfl,HWX.out⟩
  ·have HRF:Hid (R=false):=by unfold Hid;rw [HRE.out];simp [h1]
   obtain ⟨S,hS⟩:∃ S:ByteArray,(⟨zn.toArray⟩:ByteArray)=S:=⟨_,rfl⟩
   obtain ⟨T,hT⟩:∃ T:ByteArray,(⟨yn.toArray⟩:ByteArray)=T:=⟨_,rfl⟩
   have hst:S.toList≠T.toList:=by rw [← hS,← hT,(Tx.of zn).toL,(Tx.of yn).toL];exact h1
   have hst1:¬ S.toList=T.toList:=hst
   have hst2:(S.toList == T.toList)=false:=by rw [beq_eq_false_iff_ne];exact hst
   have hst3:¬ S=T:=fun e=>hst (by rw [e])
   rw [hS] at gx1
   rw [hT] at gy1
   clear h1 hst hS hT
   go_wp2_with fail
   go_ret
   rw [HRF.out]
   exact ⟨rfl,HWX.out⟩
 ·have HRF:Hid (R=false):=by unfold Hid;rw [HRE.out];simp [h0]
  have t0:((zk:Int) == (yk:Int))=false:=by rw [beq_eq_false_iff_ne];omega
  have t0':¬ (zk:Int)=(yk:Int):=by omega
  clear h0
  go_wp2_with fail
  go_ret
  rw [HRF.out]
  exact ⟨rfl,HWX.out⟩
set_option maxRecDepth 100000 in
set_option maxHeartbeats 6400000 in
theorem eqFunc_dfn (w:World) (v1 v2:Value) (la lb:List Dfn) (h1:LD w An v1 la) (h2:LD w An v2 lb) (hla:la.length≤100000) (hco:∀ f ∈ la,ndD f) :
  Calls Tryz.prog 50 #[v1,v2,.func (.func 51) #[] #[]] w fun e w'=>e = .returned (.bool (allEq eqD la lb))∧Nx w w':=by
 obtain ⟨A1,a1,zs,hv1,hzl,-,-,hrd1,hall1⟩:=h1.sl dfnA_size
 obtain ⟨A2,a2,ys,hv2,hyl,-,-,hrd2,hall2⟩:=h2.sl dfnA_size
 subst hv1 hv2
 have H1:=Lib.hid h1
 have H2:=Lib.hid h2
 have HCO:=Lib.hid hco
 have hlaI:(la.length:Int)≤100000:=by omega
 clear h1 h2 hco hrd1 hrd2 hall1 hall2 hzl hyl
 by_cases hlen:la.length=lb.length
 ·rw [← hlen]
  have HLE:=Lib.hid hlen
  clear hlen
  go_enter Tryz.func50,Tryz.ntmps50
  go_wp2_with fail
  go_loopw [17] (fun iv wr=>∃ (i:Nat),iv = .int .i64 (i:Int)∧i≤la.length∧Hid (∀ j (h1:j<la.length) (h2:j<lb.length),j<i→eqD la[j] lb[j]=true)∧Hid (Nx w wr)) (fun iv _=>(200000 - intOf iv).toNat)
  case atStart=>exact ⟨0,rfl,Nat.zero_le _,Lib.hid (fun j _ _ h=>absurd h (Nat.not_lt_zero _)),Lib.hid (Nx.refl _)⟩
  case round =>
   obtain ⟨i,rfl,hi,HEQ,HO⟩:=hrel
   have hiI:(i:Int)≤100000:=by omega
   by_cases hlt:i<la.length
   ·have q1:decide ((i:Int)<(la.length:Int))=true:=decide_eq_true (by omega)
    have q2:(i:Int)<(la.length:Int):=by omega
    have hltb:i<lb.length:=by have:=HLE.out;omega
    have HLTB:=Lib.hid hltb
    have hr1:LD wr An (.slice A1 la.length a1) la:=LD.lasts (mvAn HO.out) H1.out
    have hr2:LD wr An (.slice A2 lb.length a2) lb:=LD.lasts (mvAn HO.out) H2.out
    obtain ⟨A',ac',zs,hlv,hzl,hzc,hzm,hrd,hall⟩:=hr1.sl dfnA_size
    injection hlv with h1 h2 h3
    subst h1 h3
    clear h2
    obtain ⟨g1,rfl,hg1,hcs⟩:=hrd (by omega)
    obtain ⟨Z,hZ⟩:∃ Z,zs[i]'(by omega)=Z:=⟨_,rfl⟩
    have hrc:RD wr An Z la[i]:=by
     have:=hall.at_ i (by omega) hlt
     rw [hZ] at this
     exact RD.lasts ⟨fun _ _ _=>rfl,fun _ _ _=>trivial⟩ this
    obtain ⟨A'',ac'',ys,hlv,hyl,hyc,hym,hrd',hall'⟩:=hr2.sl dfnA_size
    injection hlv with h1 h2 h3
    subst h1 h3
    clear h2
    obtain ⟨g2,rfl,hg2,hcs'⟩:=hrd' (by omega)
    obtain ⟨Y,hY⟩:∃ Y,ys[i]'(by omega)=Y:=⟨_,rfl⟩
    have hrdd:RD wr An Y lb[i]:=by
     have:=hall'.at_ i (by omega) hltb
     rw [hY] at this
     exact RD.lasts ⟨fun _ _ _=>rfl,fun _ _ _=>trivial⟩ this
    obtain ⟨zk,zn,zt,⟨zi,zm,zd,zs,zl⟩,zp,zq,ze,zr⟩:=Z
    obtain ⟨zA,zu,zc,rfl⟩:∃ A k cap,zl = .slice A k cap:=hrc.2.2.2.1.slv
    obtain ⟨zB,zv,zg,rfl⟩:∃ A k cap,zp = .slice A k cap:=by
     obtain ⟨A,c,-,e,-⟩:=hrc.2.2.2.2.1.sl fldA_size
     exact ⟨A,_,c,e⟩
    obtain ⟨zC,zw,zh,rfl⟩:∃ A k cap,zq = .slice A k cap:=by
     obtain ⟨A,c,-,e,-⟩:=hrc.2.2.2.2.2.1.sl memA_size
     exact ⟨A,_,c,e⟩
    obtain ⟨zD,zx,zj,rfl⟩:∃ A k cap,zr = .slice A k cap:=by
     obtain ⟨A,c,-,e,-⟩:=hrc.2.2.2.2.2.2.2.sl metA_size
     exact ⟨A,_,c,e⟩
    obtain ⟨yk,yn,yt,⟨yi,ym,yd,ys,yl⟩,yp,yq,ye,yr⟩:=Y
    obtain ⟨yA,yu,yc,rfl⟩:∃ A k cap,yl = .slice A k cap:=hrdd.2.2.2.1.slv
    obtain ⟨yB,yv,yg,rfl⟩:∃ A k cap,yp = .slice A k cap:=by
     obtain ⟨A,c,-,e,-⟩:=hrdd.2.2.2.2.1.sl fldA_size
     exact ⟨A,_,c,e⟩
    obtain ⟨yC,yw,yh,rfl⟩:∃ A k cap,yq = .slice A k cap:=by
     obtain ⟨A,c,-,e,-⟩:=hrdd.2.2.2.2.2.1.sl memA_size
     exact ⟨A,_,c,e⟩
    obtain ⟨yD,yx,yj,rfl⟩:∃ A k cap,yr = .slice A k cap:=by
     obtain ⟨A,c,-,e,-⟩:=hrdd.2.2.2.2.2.2.2.sl metA_size
     exact ⟨A,_,c,e⟩
    have hcell:∀ j,j<12→wr.cell? ⟨g1,i * 12+j,none⟩=(dfnA ⟨zk,zn,zt,⟨zi,zm,zd,zs,.slice zA zu zc⟩,.slice zB zv zg,.slice zC zw zh,ze,.slice zD zx zj⟩)[j]?:=fun j hj=>by rw [hcs i (by omega) j hj,hZ]
    have hcell2:∀ j,j<12→wr.cell? ⟨g2,i * 12+j,none⟩=(dfnA ⟨yk,yn,yt,⟨yi,ym,yd,ys,.slice yA yu yc⟩,.slice yB yv yg,.slice yC yw yh,ye,.slice yD yx yj⟩)[j]?:=fun j hj=>by rw [hcs' i (by omega) j hj,hY]
    have e0:wr.cell? ⟨g1,i * 12,none⟩=some (.int .i64 (zk:Int)):=hcell 0 (by decide)
    have e1:wr.cell? ⟨g1,i * 12+1,none⟩=some (.string ⟨zn.toArray⟩):=hcell 1 (by decide)
    have e2:wr.cell? ⟨g1,i * 12+2,none⟩=some (.string ⟨zt.toArray⟩):=hcell 2 (by decide)
    have e3:wr.cell? ⟨g1,i * 12+3,none⟩=some (.int .i64 (zi:Int)):=hcell 3 (by decide)
    have e4:wr.cell? ⟨g1,i * 12+4,none⟩=some (.int .i64 zm):=hcell 4 (by decide)
    have e5:wr.cell? ⟨g1,i * 12+5,none⟩=some (.int .u64 (zd:Int)):=hcell 5 (by decide)
    have e6:wr.cell? ⟨g1,i * 12+6,none⟩=some (.string ⟨zs.toArray⟩):=hcell 6 (by decide)
    have e7:wr.cell? ⟨g1,i * 12+7,none⟩=some (.slice zA zu zc):=hcell 7 (by decide)
    have e8:wr.cell? ⟨g1,i * 12+8,none⟩=some (.slice zB zv zg):=hcell 8 (by decide)
    have e9:wr.cell? ⟨g1,i * 12+9,none⟩=some (.slice zC zw zh):=hcell 9 (by decide)
    have e10:wr.cell? ⟨g1,i * 12+10,none⟩=some (.string ⟨ze.toArray⟩):=hcell 10 (by decide)
    have e11:wr.cell? ⟨g1,i * 12+11,none⟩=some (.slice zD zx zj):=hcell 11 (by decide)
    have HCE2:=Lib.hid hcell2
    have HR1:=Lib.hid hrc
    have HR2:=Lib.hid hrdd
    have HG2:=Lib.hid hg2
    clear hltb hcs hcs' hcell hcell2 hall hall' hr1 hr2 hZ hY hrc hrdd hzl hyl hzc hzm hyc hym hrd' hrd hg1 hg2
    obtain ⟨ga,hga⟩:∃ g,wr.heap.size=g:=⟨_,rfl⟩
    go_upto_region 6 with fail
    have hB1:=Blk.new wr #[.int .i64 (zk:Int),.string ⟨zn.toArray⟩,.string ⟨zt.toArray⟩,.int .i64 (zi:Int),.int .i64 zm,.int .u64 (zd:Int),.string ⟨zs.toArray⟩,.slice zA zu zc,.slice zB zv zg,.slice zC zw zh,.string ⟨ze.toArray⟩,.slice zD zx zj] 55
    rw [hga] at hB1
    have hn1:Nx wr (wr.alloc (.cells #[.int .i64 (zk:Int),.string ⟨zn.toArray⟩,.string ⟨zt.toArray⟩,.int .i64 (zi:Int),.int .i64 zm,.int .u64 (zd:Int),.string ⟨zs.toArray⟩,.slice zA zu zc,.slice zB zv zg,.slice zC zw zh,.string ⟨ze.toArray⟩,.slice zD zx zj] 55)):=nx0 _ _
    generalize World.alloc wr _=W1 at *
    have hcell2:∀ j,j<12→W1.cell? ⟨g2,i * 12+j,none⟩=(dfnA ⟨yk,yn,yt,⟨yi,ym,yd,ys,.slice yA yu yc⟩,.slice yB yv yg,.slice yC yw yh,ye,.slice yD yx yj⟩)[j]?:=fun j hj=>(hn1.cell (p:=⟨g2,i * 12+j,none⟩) HG2.out).trans (HCE2.out j hj)
    have f0:W1.cell? ⟨g2,i * 12,none⟩=some (.int .i64 (yk:Int)):=hcell2 0 (by decide)
    have f1:W1.cell? ⟨g2,i * 12+1,none⟩=some (.string ⟨yn.toArray⟩):=hcell2 1 (by decide)
    have f2:W1.cell? ⟨g2,i * 12+2,none⟩=some (.string ⟨yt.toArray⟩):=hcell2 2 (by decide)
    have f3:W1.cell? ⟨g2,i * 12+3,none⟩=some (.int .i64 (yi:Int)):=hcell2 3 (by decide)
    have f4:W1.cell? ⟨g2,i * 12+4,none⟩=some (.int .i64 ym):=hcell2 4 (by decide)
    have f5:W1.cell? ⟨g2,i * 12+5,none⟩=some (.int .u64 (yd:Int)):=hcell2 5 (by decide)
    have f6:W1.cell? ⟨g2,i * 12+6,none⟩=some (.string ⟨ys.toArray⟩):=hcell2 6 (by decide)
    have f7:W1.cell? ⟨g2,i * 12+7,none⟩=some (.slice yA yu yc):=hcell2 7 (by decide)
    have f8:W1.cell? ⟨g2,i * 12+8,none⟩=some (.slice yB yv yg):=hcell2 8 (by decide)
    have f9:W1.cell? ⟨g2,i * 12+9,none⟩=some (.slice yC yw yh):=hcell2 9 (by decide)
    have f10:W1.cell? ⟨g2,i * 12+10,none⟩=some (.string ⟨ye.toArray⟩):=hcell2 10 (by decide)
    have f11:W1.cell? ⟨g2,i * 12+11,none⟩=some (.slice yD yx yj):=hcell2 11 (by decide)
    obtain ⟨gb,hgb⟩:∃ g,W1.heap.size=g:=⟨_,rfl⟩
    have HB1:=Lib.hid hB1
    have HN1:=Lib.hid hn1
    clear e0 e1 e2 e3 e4 e5 e6 e7 e8 e9 e10 e11 hcell2 HCE2 hga hB1 hn1
    go_upto_region 7 with fail
    have hB2:=Blk.new W1 #[.int .i64 (yk:Int),.string ⟨yn.toArray⟩,.string ⟨yt.toArray⟩,.int .i64 (yi:Int),.int .i64 ym,.int .u64 (yd:Int),.string ⟨ys.toArray⟩,.slice yA yu yc,.slice yB yv yg,.slice yC yw yh,.string ⟨ye.toArray⟩,.slice yD yx yj] 55
    rw [hgb] at hB2
    have hn2:Nx W1 (W1.alloc (.cells #[.int .i64 (yk:Int),.string ⟨yn.toArray⟩,.string ⟨yt.toArray⟩,.int .i64 (yi:Int),.int .i64 ym,.int .u64 (yd:Int),.string ⟨ys.toArray⟩,.slice yA yu yc,.slice yB yv yg,.slice yC yw yh,.string ⟨ye.toArray⟩,.slice yD yx yj] 55)):=nx0 _ _
    generalize World.alloc W1 _=W2 at *
    have hB1':=HB1.out.below hn2
    have c0:W2.cell? ⟨ga,0,none⟩=some (.int .i64 (zk:Int)):=hB1'.cell 0
    have c1:W2.cell? ⟨ga,1,none⟩=some (.string ⟨zn.toArray⟩):=hB1'.cell 1
    have c2:W2.cell? ⟨ga,2,none⟩=some (.string ⟨zt.toArray⟩):=hB1'.cell 2
    have c3:W2.cell? ⟨ga,3,none⟩=some (.int .i64 (zi:Int)):=hB1'.cell 3
    have c4:W2.cell? ⟨ga,4,none⟩=some (.int .i64 zm):=hB1'.cell 4
    have c5:W2.cell? ⟨ga,5,none⟩=some (.int .u64 (zd:Int)):=hB1'.cell 5
    have c6:W2.cell? ⟨ga,6,none⟩=some (.string ⟨zs.toArray⟩):=hB1'.cell 6
    have c7:W2.cell? ⟨ga,7,none⟩=some (.slice zA zu zc):=hB1'.cell 7
    have c8:W2.cell? ⟨ga,8,none⟩=some (.slice zB zv zg):=hB1'.cell 8
    have c9:W2.cell? ⟨ga,9,none⟩=some (.slice zC zw zh):=hB1'.cell 9
    have c10:W2.cell? ⟨ga,10,none⟩=some (.string ⟨ze.toArray⟩):=hB1'.cell 10
    have c11:W2.cell? ⟨ga,11,none⟩=some (.slice zD zx zj):=hB1'.cell 11
    have d0:W2.cell? ⟨gb,0,none⟩=some (.int .i64 (yk:Int)):=hB2.cell 0
    have d1:W2.cell? ⟨gb,1,none⟩=some (.string ⟨yn.toArray⟩):=hB2.cell 1
    have d2:W2.cell? ⟨gb,2,none⟩=some (.string ⟨yt.toArray⟩):=hB2.cell 2
    have d3:W2.cell? ⟨gb,3,none⟩=some (.int .i64 (yi:Int)):=hB2.cell 3
    have d4:W2.cell? ⟨gb,4,none⟩=some (.int .i64 ym):=hB2.cell 4
    have d5:W2.cell? ⟨gb,5,none⟩=some (.int .u64 (yd:Int)):=hB2.cell 5
    have d6:W2.cell? ⟨gb,6,none⟩=some (.string ⟨ys.toArray⟩):=hB2.cell 6
    have d7:W2.cell? ⟨gb,7,none⟩=some (.slice yA yu yc):=hB2.cell 7
    have d8:W2.cell? ⟨gb,8,none⟩=some (.slice yB yv yg):=hB2.cell 8
    have d9:W2.cell? ⟨gb,9,none⟩=some (.slice yC yw yh):=hB2.cell 9
    have d10:W2.cell? ⟨gb,10,none⟩=some (.string ⟨ye.toArray⟩):=hB2.cell 10
    have d11:W2.cell? ⟨gb,11,none⟩=some (.slice yD yx yj):=hB2.cell 11
    have hnx:Nx wr W2:=HN1.out.trans hn2
    have hcall:=sameDef_any W2 ⟨zk,zn,zt,⟨zi,zm,zd,zs,.slice zA zu zc⟩,.slice zB zv zg,.slice zC zw zh,ze,.slice zD zx zj⟩ ⟨yk,yn,yt,⟨yi,ym,yd,ys,.slice yA yu yc⟩,.slice yB yv yg,.slice yC yw yh,ye,.slice yD yx yj⟩ (la[i]'hlt) (lb[i]'HLTB.out) (RD.lasts (mvAn hnx) HR1.out) (RD.lasts (mvAn hnx) HR2.out) (HCO.out _ (List.getElem_mem hlt))
    obtain ⟨R,hR⟩:∃ R,Hid (eqD la[i] (lb[i]'HLTB.out)=R):=⟨_,Lib.hid rfl⟩
    rw [hR.out] at hcall
    have HC2:=Lib.hid hcall
    have HO2:=Lib.hid (HO.out.trans hnx)
    clear f0 f1 f2 f3 f4 f5 f6 f7 f8 f9 f10 f11 hB2 hn2 hgb hB1' hnx hcall HB1 HN1 HO HR1 HR2
    go_wp2_with fail
    refine HC2.out.mono ?_;rintro e w3 ⟨rfl,ho3⟩
    have HO3:=Lib.hid (HO2.out.trans ho3)
    clear ho3 c0 c1 c2 c3 c4 c5 c6 c7 c8 c9 c10 c11 d0 d1 d2 d3 d4 d5 d6 d7 d8 d9 d10 d11
    cases R with
    | true =>
     go_wp2_with fail
     go_roundw
     case rel=>exact ⟨i+1,by go_num,hlt,Lib.hid (fun j a b h=>by
      rcases Nat.lt_or_ge j i with h' | h'
      ·exact HEQ.out j a b h'
      ·obtain rfl:j=i:=by omega
       exact hR.out),HO3⟩
     case measure=>simp [intOf];omega
    | false =>
     have HF:Hid (allEq eqD la lb=false):=allEq_false i hlt HLTB.out hR.out
     go_wp2_with fail
     go_ret
     rw [HF.out]
     exact ⟨rfl,HO3.out⟩
   ·obtain rfl:i=la.length:=by omega
    have q1:decide ((la.length:Int)<(la.length:Int))=false:=decide_eq_false (by omega)
    have HF:Hid (allEq eqD la lb=true):=allEq_true HLE.out fun j a b=>HEQ.out j a b a
    clear hlt hi
    go_wp2_with fail
    go_ret
    rw [HF.out]
    exact ⟨rfl,HO.out⟩
 ·have b1:((la.length:Int) != (lb.length:Int))=true:=by rw [bne_iff_ne];omega
  have b1':¬ (la.length:Int)=(lb.length:Int):=by omega
  have hf:allEq eqD la lb=false:=allEq_len hlen
  rw [hf]
  clear hlen
  go_enter Tryz.func50,Tryz.ntmps50
  go_wp2_with fail
  go_ret
  exact ⟨rfl,Nx.refl _⟩
end Go.Proofs.YtjggghfekakogaaGreatDoor
