/- The document's test of definitions. -/
import Derived.Test.YtjggghfekakogaaGreatDoorH31
import Derived.BigQuiet
import Derived.Deep.QuietTactic
set_option linter.unusedVariables false
set_option linter.unusedSimpArgs false
set_option linter.unnecessarySimpa false
namespace Go.Proofs.YtjggghfekakogaaGreatDoor
open Go.RowKit
def lnL (l:List Fld):Prop:=l.length≤100000∧∀ f ∈ l,lnC 13 f.ini
def lnD (d:Dfn):Prop:=lnC 13 d.ini∧lnL d.fields∧d.mems.length≤100000∧d.mets.length≤100000∧∀ m ∈ d.mets,lnL m.args∧lnL m.thr
set_option maxRecDepth 100000 in
set_option maxHeartbeats 25600000 in
theorem dsameDef (w:World) (x y:DfnS) (f g:Dfn) (hx:RD w An x f) (hy:RD w An y g) (hco:lnD f) :
  Calls Tryz.prog 34 #[.agg (dfnA x),.agg (dfnA y)] w fun e w'=>e = .returned (.bool (eqD f g))∧Nx w w':=by
 obtain ⟨zk,zn,zt,⟨zi,zm,zd,zs,zl⟩,zp,zq,ze,zr⟩:=x
 obtain ⟨yk,yn,yt,⟨yi,ym,yd,ys,yl⟩,yp,yq,ye,yr⟩:=y
 obtain ⟨zA,zu,zc,rfl⟩:∃ A k cap,zl = .slice A k cap:=hx.2.2.2.1.slv
 obtain ⟨zB,zv,zg,rfl⟩:∃ A k cap,zp = .slice A k cap:=by
  obtain ⟨A,c,-,e,-⟩:=hx.2.2.2.2.1.sl fldA_size
  exact ⟨A,_,c,e⟩
 obtain ⟨yA,yu,yc,rfl⟩:∃ A k cap,yl = .slice A k cap:=hy.2.2.2.1.slv
 obtain ⟨yB,yv,yg,rfl⟩:∃ A k cap,yp = .slice A k cap:=by
  obtain ⟨A,c,-,e,-⟩:=hy.2.2.2.2.1.sl fldA_size
  exact ⟨A,_,c,e⟩
 obtain ⟨fk,fn,ft,fc,ff,fm,fe,fb⟩:=f
 obtain ⟨gk,gn,gt,gc,gf,gm,ge,gb⟩:=g
 obtain ⟨rfl,rfl,rfl,hxc,hxf,hxm,rfl,hxt⟩:zk=fk∧zn=fn∧zt=ft∧RC 13 w An ⟨zi,zm,zd,zs,.slice zA zu zc⟩ fc∧LF w An (.slice zB zv zg) ff∧LMm w An zq fm∧ze=fe∧LM w An zr fb:=hx
 obtain ⟨rfl,rfl,rfl,hyc,hyf,hym,rfl,hyt⟩:yk=gk∧yn=gn∧yt=gt∧RC 13 w An ⟨yi,ym,yd,ys,.slice yA yu yc⟩ gc∧LF w An (.slice yB yv yg) gf∧LMm w An yq gm∧ye=ge∧LM w An yr gb:=hy
 obtain ⟨zC,zh,-,rfl,-⟩:=hxm.sl memA_size
 obtain ⟨zD,zj,-,rfl,-⟩:=hxt.sl metA_size
 obtain ⟨yC,yh,-,rfl,-⟩:=hym.sl memA_size
 obtain ⟨yD,yj,-,rfl,-⟩:=hyt.sl metA_size
 have HXC:=Lib.hid hxc
 have HXF:=Lib.hid hxf
 have HXM:=Lib.hid hxm
 have HXT:=Lib.hid hxt
 have HYC:=Lib.hid hyc
 have HYF:=Lib.hid hyf
 have HCO:=Lib.hid hco
 obtain ⟨R,hR⟩:∃ R,Hid (eqD ⟨zk,zn,zt,fc,ff,fm,ze,fb⟩ ⟨yk,yn,yt,gc,gf,gm,ye,gb⟩=R):=⟨_,Lib.hid rfl⟩
 rw [hR.out]
 have hRe:R=((zk == yk) && (zn == yn) && (zt == yt) && eqC 13 fc gc && allEq eqF ff gf && allEq eqMm fm gm && (ze == ye) && allEq eqM fb gb):=hR.out.symm
 have HRE:=Lib.hid hRe
 clear hxc hxf hxm hxt hyc hyf hRe hR hco
 by_cases hm:fm.length=gm.length
 ·have HLM:=Lib.hid hm
  by_cases hb:fb.length=gb.length
  ·have HLB:=Lib.hid hb
   rw [← hm] at hym ⊢
   rw [← hb] at hyt ⊢
   have HYM:Hid (LMm w An (.slice yC fm.length yh) gm):=hym
   have HYT:Hid (LM w An (.slice yD fb.length yj) gb):=hyt
   clear hm hb hym hyt
   obtain ⟨gx,hgx⟩:∃ g,w.heap.size=g:=⟨_,rfl⟩
   have hBx:=Blk.new w #[.int .i64 (zk:Int),.string ⟨zn.toArray⟩,.string ⟨zt.toArray⟩,.int .i64 (zi:Int),.int .i64 zm,.int .u64 (zd:Int),.string ⟨zs.toArray⟩,.slice zA zu zc,.slice zB zv zg,.slice zC fm.length zh,.string ⟨ze.toArray⟩,.slice zD fb.length zj] 55
   rw [hgx] at hBx
   have hn1:Nx w (w.alloc (.cells #[.int .i64 (zk:Int),.string ⟨zn.toArray⟩,.string ⟨zt.toArray⟩,.int .i64 (zi:Int),.int .i64 zm,.int .u64 (zd:Int),.string ⟨zs.toArray⟩,.slice zA zu zc,.slice zB zv zg,.slice zC fm.length zh,.string ⟨ze.toArray⟩,.slice zD fb.length zj] 55)):=nx0 _ _
   have hs1:(w.alloc (.cells #[.int .i64 (zk:Int),.string ⟨zn.toArray⟩,.string ⟨zt.toArray⟩,.int .i64 (zi:Int),.int .i64 zm,.int .u64 (zd:Int),.string ⟨zs.toArray⟩,.slice zA zu zc,.slice zB zv zg,.slice zC fm.length zh,.string ⟨ze.toArray⟩,.slice zD fb.length zj] 55)).heap.size=w.heap.size+1:=by simp
   rw [hgx] at hs1
   obtain ⟨gy,hgy⟩:∃ g,gx+1=g:=⟨_,rfl⟩
   rw [hgy] at hs1
   have HBX:=Lib.hid hBx
   have HN1:=Lib.hid hn1
   clear hBx hn1
   show Calls _ _ #[.agg #[.int .i64 (zk:Int),.string ⟨zn.toArray⟩,.string ⟨zt.toArray⟩,.int .i64 (zi:Int),.int .i64 zm,.int .u64 (zd:Int),.string ⟨zs.toArray⟩,.slice zA zu zc,.slice zB zv zg,.slice zC fm.length zh,.string ⟨ze.toArray⟩,.slice zD fb.length zj],.agg #[.int .i64 (yk:Int),.string ⟨yn.toArray⟩,.string ⟨yt.toArray⟩,.int .i64 (yi:Int),.int .i64 ym,.int .u64 (yd:Int),.string ⟨ys.toArray⟩,.slice yA yu yc,.slice yB yv yg,.slice yC fm.length yh,.string ⟨ye.toArray⟩,.slice yD fb.length yj]] _ _
   go_enter Tryz.func34,Tryz.ntmps34
   go_upto_region 1 with fail
   generalize hW1:World.alloc w _=W1 at *
   have hBy:=Blk.new W1 #[.int .i64 (yk:Int),.string ⟨yn.toArray⟩,.string ⟨yt.toArray⟩,.int .i64 (yi:Int),.int .i64 ym,.int .u64 (yd:Int),.string ⟨ys.toArray⟩,.slice yA yu yc,.slice yB yv yg,.slice yC fm.length yh,.string ⟨ye.toArray⟩,.slice yD fb.length yj] 55
   have hn2:Nx W1 (W1.alloc (.cells #[.int .i64 (yk:Int),.string ⟨yn.toArray⟩,.string ⟨yt.toArray⟩,.int .i64 (yi:Int),.int .i64 ym,.int .u64 (yd:Int),.string ⟨ys.toArray⟩,.slice yA yu yc,.slice yB yv yg,.slice yC fm.length yh,.string ⟨ye.toArray⟩,.slice yD fb.length yj] 55)):=nx0 _ _
   rw [hs1] at hBy
   have hBx:=HBX.out.below hn2
   generalize World.alloc W1 _=W at *
   have HBX:=Lib.hid hBx
   have HBY:=Lib.hid hBy
   have HWX:=Lib.hid (HN1.out.trans hn2)
   have HWC:Hid (Nx W W):=Nx.refl _
   clear hW1 hBx hBy hn2 hs1 hgx hgy HN1
   have gx0:W.cell? ⟨gx,0,none⟩=some (.int .i64 (zk:Int)):=HBX.out.cell 0
   have gx1:W.cell? ⟨gx,1,none⟩=some (.string ⟨zn.toArray⟩):=HBX.out.cell 1
   have gx2:W.cell? ⟨gx,2,none⟩=some (.string ⟨zt.toArray⟩):=HBX.out.cell 2
   have gx3:W.cell? ⟨gx,3,none⟩=some (.int .i64 (zi:Int)):=HBX.out.cell 3
   have gx4:W.cell? ⟨gx,4,none⟩=some (.int .i64 zm):=HBX.out.cell 4
   have gx5:W.cell? ⟨gx,5,none⟩=some (.int .u64 (zd:Int)):=HBX.out.cell 5
   have gx6:W.cell? ⟨gx,6,none⟩=some (.string ⟨zs.toArray⟩):=HBX.out.cell 6
   have gx7:W.cell? ⟨gx,7,none⟩=some (.slice zA zu zc):=HBX.out.cell 7
   have gx8:W.cell? ⟨gx,8,none⟩=some (.slice zB zv zg):=HBX.out.cell 8
   have gx9:W.cell? ⟨gx,9,none⟩=some (.slice zC fm.length zh):=HBX.out.cell 9
   have gx10:W.cell? ⟨gx,10,none⟩=some (.string ⟨ze.toArray⟩):=HBX.out.cell 10
   have gx11:W.cell? ⟨gx,11,none⟩=some (.slice zD fb.length zj):=HBX.out.cell 11
   have gy0:W.cell? ⟨gy,0,none⟩=some (.int .i64 (yk:Int)):=HBY.out.cell 0
   have gy1:W.cell? ⟨gy,1,none⟩=some (.string ⟨yn.toArray⟩):=HBY.out.cell 1
   have gy2:W.cell? ⟨gy,2,none⟩=some (.string ⟨yt.toArray⟩):=HBY.out.cell 2
   have gy3:W.cell? ⟨gy,3,none⟩=some (.int .i64 (yi:Int)):=HBY.out.cell 3
   have gy4:W.cell? ⟨gy,4,none⟩=some (.int .i64 ym):=HBY.out.cell 4
   have gy5:W.cell? ⟨gy,5,none⟩=some (.int .u64 (yd:Int)):=HBY.out.cell 5
   have gy6:W.cell? ⟨gy,6,none⟩=some (.string ⟨ys.toArray⟩):=HBY.out.cell 6
   have gy7:W.cell? ⟨gy,7,none⟩=some (.slice yA yu yc):=HBY.out.cell 7
   have gy8:W.cell? ⟨gy,8,none⟩=some (.slice yB yv yg):=HBY.out.cell 8
   have gy9:W.cell? ⟨gy,9,none⟩=some (.slice yC fm.length yh):=HBY.out.cell 9
   have gy10:W.cell? ⟨gy,10,none⟩=some (.string ⟨ye.toArray⟩):=HBY.out.cell 10
   have gy11:W.cell? ⟨gy,11,none⟩=some (.slice yD fb.length yj):=HBY.out.cell 11
   by_cases h0:zk=yk
   ·subst h0
    by_cases h1:zn=yn
    ·subst h1
     by_cases h2:zt=yt
     ·subst h2
      obtain ⟨Ra3,hRa3⟩:∃ R,Hid (eqC 13 fc gc=R):=⟨_,Lib.hid rfl⟩
      have hcall:=dsameConst 13 W ⟨zi,zm,zd,zs,.slice zA zu zc⟩ ⟨yi,ym,yd,ys,.slice yA yu yc⟩ fc gc (RC.lasts 13 (mvAn HWX.out) HXC.out) (RC.lasts 13 (mvAn HWX.out) HYC.out) HCO.out.1
      rw [hRa3.out] at hcall
      have HCA:=Lib.hid hcall
      clear hcall
      go_wp2_with fail
      refine HCA.out.mono ?_;rintro e wka3 ⟨rfl,hnx⟩
      have HWX:=Lib.hid (HWX.out.trans hnx)
      have HWC:=Lib.hid (HWC.out.trans hnx)
      clear hnx gx0 gy0 gx1 gy1 gx2 gy2 gx3 gy3 gx4 gy4 gx5 gy5 gx6 gy6 gx7 gy7 gx8 gy8 gx9 gy9 gx10 gy10 gx11 gy11 HCA
      have gx0:wka3.cell? ⟨gx,0,none⟩=some (.int .i64 (zk:Int)):=(HBX.out.below HWC.out).cell 0
      have gx1:wka3.cell? ⟨gx,1,none⟩=some (.string ⟨zn.toArray⟩):=(HBX.out.below HWC.out).cell 1
      have gx2:wka3.cell? ⟨gx,2,none⟩=some (.string ⟨zt.toArray⟩):=(HBX.out.below HWC.out).cell 2
      have gx3:wka3.cell? ⟨gx,3,none⟩=some (.int .i64 (zi:Int)):=(HBX.out.below HWC.out).cell 3
      have gx4:wka3.cell? ⟨gx,4,none⟩=some (.int .i64 zm):=(HBX.out.below HWC.out).cell 4
      have gx5:wka3.cell? ⟨gx,5,none⟩=some (.int .u64 (zd:Int)):=(HBX.out.below HWC.out).cell 5
      have gx6:wka3.cell? ⟨gx,6,none⟩=some (.string ⟨zs.toArray⟩):=(HBX.out.below HWC.out).cell 6
      have gx7:wka3.cell? ⟨gx,7,none⟩=some (.slice zA zu zc):=(HBX.out.below HWC.out).cell 7
      have gx8:wka3.cell? ⟨gx,8,none⟩=some (.slice zB zv zg):=(HBX.out.below HWC.out).cell 8
      have gx9:wka3.cell? ⟨gx,9,none⟩=some (.slice zC fm.length zh):=(HBX.out.below HWC.out).cell 9
      have gx10:wka3.cell? ⟨gx,10,none⟩=some (.string ⟨ze.toArray⟩):=(HBX.out.below HWC.out).cell 10
      have gx11:wka3.cell? ⟨gx,11,none⟩=some (.slice zD fb.length zj):=(HBX.out.below HWC.out).cell 11
      have gy0:wka3.cell? ⟨gy,0,none⟩=some (.int .i64 (zk:Int)):=(HBY.out.below HWC.out).cell 0
      have gy1:wka3.cell? ⟨gy,1,none⟩=some (.string ⟨zn.toArray⟩):=(HBY.out.below HWC.out).cell 1
      have gy2:wka3.cell? ⟨gy,2,none⟩=some (.string ⟨zt.toArray⟩):=(HBY.out.below HWC.out).cell 2
      have gy3:wka3.cell? ⟨gy,3,none⟩=some (.int .i64 (yi:Int)):=(HBY.out.below HWC.out).cell 3
      have gy4:wka3.cell? ⟨gy,4,none⟩=some (.int .i64 ym):=(HBY.out.below HWC.out).cell 4
      have gy5:wka3.cell? ⟨gy,5,none⟩=some (.int .u64 (yd:Int)):=(HBY.out.below HWC.out).cell 5
      have gy6:wka3.cell? ⟨gy,6,none⟩=some (.string ⟨ys.toArray⟩):=(HBY.out.below HWC.out).cell 6
      have gy7:wka3.cell? ⟨gy,7,none⟩=some (.slice yA yu yc):=(HBY.out.below HWC.out).cell 7
      have gy8:wka3.cell? ⟨gy,8,none⟩=some (.slice yB yv yg):=(HBY.out.below HWC.out).cell 8
      have gy9:wka3.cell? ⟨gy,9,none⟩=some (.slice yC fm.length yh):=(HBY.out.below HWC.out).cell 9
      have gy10:wka3.cell? ⟨gy,10,none⟩=some (.string ⟨ye.toArray⟩):=(HBY.out.below HWC.out).cell 10
      have gy11:wka3.cell? ⟨gy,11,none⟩=some (.slice yD fb.length yj):=(HBY.out.below HWC.out).cell 11
      cases Ra3 with
      | false =>
       have HRF:Hid (R=false):=by unfold Hid;rw [HRE.out];simp [hRa3.out]
       go_wp2_with fail
       go_ret
       rw [HRF.out]
       exact ⟨rfl,HWX.out⟩
      | true =>
       obtain ⟨Ra4,hRa4⟩:∃ R,Hid (allEq eqF ff gf=R):=⟨_,Lib.hid rfl⟩
       have hcall:=dsameFields wka3 (.slice zB zv zg) (.slice yB yv yg) ff gf (LF.lasts (mvAn HWX.out) HXF.out) (LF.lasts (mvAn HWX.out) HYF.out) HCO.out.2.1.1 HCO.out.2.1.2
       rw [hRa4.out] at hcall
       have HCA:=Lib.hid hcall
       clear hcall
       go_wp2_with fail
       refine HCA.out.mono ?_;rintro e wka4 ⟨rfl,hnx⟩
       have HWX:=Lib.hid (HWX.out.trans hnx)
       have HWC:=Lib.hid (HWC.out.trans hnx)
       clear hnx gx0 gy0 gx1 gy1 gx2 gy2 gx3 gy3 gx4 gy4 gx5 gy5 gx6 gy6 gx7 gy7 gx8 gy8 gx9 gy9 gx10 gy10 gx11 gy11 HCA
       have gx0:wka4.cell? ⟨gx,0,none⟩=some (.int .i64 (zk:Int)):=(HBX.out.below HWC.out).cell 0
       have gx1:wka4.cell? ⟨gx,1,none⟩=some (.string ⟨zn.toArray⟩):=(HBX.out.below HWC.out).cell 1
       have gx2:wka4.cell? ⟨gx,2,none⟩=some (.string ⟨zt.toArray⟩):=(HBX.out.below HWC.out).cell 2
       have gx3:wka4.cell? ⟨gx,3,none⟩=some (.int .i64 (zi:Int)):=(HBX.out.below HWC.out).cell 3
       have gx4:wka4.cell? ⟨gx,4,none⟩=some (.int .i64 zm):=(HBX.out.below HWC.out).cell 4
       have gx5:wka4.cell? ⟨gx,5,none⟩=some (.int .u64 (zd:Int)):=(HBX.out.below HWC.out).cell 5
       have gx6:wka4.cell? ⟨gx,6,none⟩=some (.string ⟨zs.toArray⟩):=(HBX.out.below HWC.out).cell 6
       have gx7:wka4.cell? ⟨gx,7,none⟩=some (.slice zA zu zc):=(HBX.out.below HWC.out).cell 7
       have gx8:wka4.cell? ⟨gx,8,none⟩=some (.slice zB zv zg):=(HBX.out.below HWC.out).cell 8
       have gx9:wka4.cell? ⟨gx,9,none⟩=some (.slice zC fm.length zh):=(HBX.out.below HWC.out).cell 9
       have gx10:wka4.cell? ⟨gx,10,none⟩=some (.string ⟨ze.toArray⟩):=(HBX.out.below HWC.out).cell 10
       have gx11:wka4.cell? ⟨gx,11,none⟩=some (.slice zD fb.length zj):=(HBX.out.below HWC.out).cell 11
       have gy0:wka4.cell? ⟨gy,0,none⟩=some (.int .i64 (zk:Int)):=(HBY.out.below HWC.out).cell 0
       have gy1:wka4.cell? ⟨gy,1,none⟩=some (.string ⟨zn.toArray⟩):=(HBY.out.below HWC.out).cell 1
       have gy2:wka4.cell? ⟨gy,2,none⟩=some (.string ⟨zt.toArray⟩):=(HBY.out.below HWC.out).cell 2
       have gy3:wka4.cell? ⟨gy,3,none⟩=some (.int .i64 (yi:Int)):=(HBY.out.below HWC.out).cell 3
       have gy4:wka4.cell? ⟨gy,4,none⟩=some (.int .i64 ym):=(HBY.out.below HWC.out).cell 4
       have gy5:wka4.cell? ⟨gy,5,none⟩=some (.int .u64 (yd:Int)):=(HBY.out.below HWC.out).cell 5
       have gy6:wka4.cell? ⟨gy,6,none⟩=some (.string ⟨ys.toArray⟩):=(HBY.out.below HWC.out).cell 6
       have gy7:wka4.cell? ⟨gy,7,none⟩=some (.slice yA yu yc):=(HBY.out.below HWC.out).cell 7
       have gy8:wka4.cell? ⟨gy,8,none⟩=some (.slice yB yv yg):=(HBY.out.below HWC.out).cell 8
       have gy9:wka4.cell? ⟨gy,9,none⟩=some (.slice yC fm.length yh):=(HBY.out.below HWC.out).cell 9
       have gy10:wka4.cell? ⟨gy,10,none⟩=some (.string ⟨ye.toArray⟩):=(HBY.out.below HWC.out).cell 10
       have gy11:wka4.cell? ⟨gy,11,none⟩=some (.slice yD fb.length yj):=(HBY.out.below HWC.out).cell 11
       cases Ra4 with
       | false =>
        have HRF:Hid (R=false):=by unfold Hid;rw [HRE.out];simp [hRa4.out]
        go_wp2_with fail
        go_ret
        rw [HRF.out]
        exact ⟨rfl,HWX.out⟩
       | true =>
        by_cases h5:ze=ye
        ·subst h5
         go_wp2_with fail
         clear gx0 gy0 gx1 gy1 gx2 gy2 gx3 gy3 gx4 gy4 gx5 gy5 gx6 gy6 gx7 gy7 gx8 gy8 gx9 gy9 gx10 gy10 gx11 gy11
         go_loopw [5] (fun iv wr=>∃ (i:Nat),iv = .int .i64 (i:Int)∧i≤fm.length∧Hid (∀ j (h1:j<fm.length) (h2:j<gm.length),j<i→eqMm fm[j] gm[j]=true)∧Hid (Nx wka4 wr)) (fun iv _=>(200000 - intOf iv).toNat)
         case atStart=>exact ⟨0,rfl,Nat.zero_le _,Lib.hid (fun j _ _ h=>absurd h (Nat.not_lt_zero _)),Lib.hid (Nx.refl _)⟩
         case round =>
          obtain ⟨i,rfl,hi,HEQ,HO⟩:=hrel
          have hiI:(i:Int)≤100000:=by have:fm.length≤100000:=HCO.out.2.2.1;omega
          by_cases hlt:i<fm.length
          ·have q1:decide ((i:Int)<(fm.length:Int))=true:=decide_eq_true (by omega)
           have q2:(i:Int)<(fm.length:Int):=by omega
           have hltb:i<gm.length:=by have:=HLM.out;omega
           have HLTB:=Lib.hid hltb
           have hr1:LMm wr An (.slice zC fm.length zh) fm:=LMm.lasts (mvAn (HWX.out.trans HO.out)) HXM.out
           have hr2:LMm wr An (.slice yC fm.length yh) gm:=LMm.lasts (mvAn (HWX.out.trans HO.out)) HYM.out
           obtain ⟨A',ac',zs',hlv,hzl,hzc,hzm,hrd,hall⟩:=hr1.sl memA_size
           injection hlv with h1 h2 h3
           subst h1 h3
           clear h2
           obtain ⟨g1,rfl,hg1,hcs⟩:=hrd (by omega)
           obtain ⟨Z,hZ⟩:∃ Z,zs'[i]'(by omega)=Z:=⟨_,rfl⟩
           have hrc:(REq (α:=Mem)) wr An Z fm[i]:=by
            have:=hall.at_ i (by omega) hlt
            rw [hZ] at this
            exact this
           obtain ⟨A'',ac'',ys',hlv,hyl,hyc,hym,hrd',hall'⟩:=hr2.sl memA_size
           injection hlv with h1 h2 h3
           subst h1 h3
           clear h2
           obtain ⟨g2,rfl,hg2,hcs'⟩:=hrd' (by have:=HLM.out;omega)
           obtain ⟨Y,hY⟩:∃ Y,ys'[i]'(by have:=HLM.out;omega)=Y:=⟨_,rfl⟩
           have hrdd:(REq (α:=Mem)) wr An Y gm[i]:=by
            have:=hall'.at_ i (by have:=HLM.out;omega) hltb
            rw [hY] at this
            exact this
           obtain ⟨pn,po,pr⟩:=Z
           obtain ⟨qn,qo,qr⟩:=Y
           have hcell:∀ j,j<3→wr.cell? ⟨g1,i * 3+j,none⟩=(memA ⟨pn,po,pr⟩)[j]?:=fun j hj=>by rw [hcs i (by omega) j hj,hZ]
           have hcell2:∀ j,j<3→wr.cell? ⟨g2,i * 3+j,none⟩=(memA ⟨qn,qo,qr⟩)[j]?:=fun j hj=>by rw [hcs' i (by have:=HLM.out;omega) j hj,hY]
           have k1:wr.cell? ⟨gx,9,none⟩=some (.slice (some ⟨g1,0,none⟩) fm.length zh):=(HBX.out.below (HWC.out.trans HO.out)).cell 9
           have k2:wr.cell? ⟨gy,9,none⟩=some (.slice (some ⟨g2,0,none⟩) fm.length yh):=(HBY.out.below (HWC.out.trans HO.out)).cell 9
           have e0:wr.cell? ⟨g1,i * 3,none⟩=some (.string ⟨pn.toArray⟩):=hcell 0 (by decide)
           have e1:wr.cell? ⟨g1,i * 3+1,none⟩=some (.bool po):=hcell 1 (by decide)
           have e2:wr.cell? ⟨g1,i * 3+2,none⟩=some (.int .i64 pr):=hcell 2 (by decide)
           have f0:wr.cell? ⟨g2,i * 3,none⟩=some (.string ⟨qn.toArray⟩):=hcell2 0 (by decide)
           have f1:wr.cell? ⟨g2,i * 3+1,none⟩=some (.bool qo):=hcell2 1 (by decide)
           have f2:wr.cell? ⟨g2,i * 3+2,none⟩=some (.int .i64 qr):=hcell2 2 (by decide)
           obtain ⟨RM',hRM⟩:∃ R,Hid (eqMm ⟨pn,po,pr⟩ ⟨qn,qo,qr⟩=R):=⟨_,Lib.hid rfl⟩
           have HRR:Hid (eqMm fm[i] (gm[i]'HLTB.out)=RM'):=by
            have e1:(⟨pn,po,pr⟩:Mem)=fm[i]:=hrc
            have e2:(⟨qn,qo,qr⟩:Mem)=gm[i]:=hrdd
            have a:=hRM.out
            rw [e1,e2] at a;exact a
           have hne':∀ w,Sem.run Tryz.prog (binOp .neq 57 (.agg #[.string ⟨pn.toArray⟩,.bool po,.int .i64 pr]) (.agg #[.string ⟨qn.toArray⟩,.bool qo,.int .i64 qr])) w = .ok (.bool (!RM')) w:=fun w=>by have:=neqMm.1 ⟨pn,po,pr⟩ ⟨qn,qo,qr⟩ w;rw [hRM.out] at this;exact this
           have hgd':∀ (op:BinOp) (a b:Operand) (w:World),Sem.run Tryz.prog (eqGuard op 57 a b (.agg #[.string ⟨pn.toArray⟩,.bool po,.int .i64 pr]) (.agg #[.string ⟨qn.toArray⟩,.bool qo,.int .i64 qr])) w = .ok () w:=fun op a b w=>neqMm.2 op a b ⟨pn,po,pr⟩ ⟨qn,qo,qr⟩ w
           clear hltb hcs hcs' hcell hcell2 hall hall' hr1 hr2 hZ hY hzl hyl hzc hzm hyc hym hrd' hrd hrc hrdd hg1 hg2
           go_upto_region 6 with fail
           cases RM' with
           | false =>
            go_quiet (fail)
            clear hne' hgd' k1 k2 e0 e1 e2 f0 f1 f2
            have HRF:Hid (R=false):=by unfold Hid;rw [HRE.out];simp [allEq_false i hlt HLTB.out HRR.out]
            go_wp2_with fail
            go_ret
            rw [HRF.out]
            exact ⟨rfl,(HWX.out.trans HO.out).trans (nx_drew _ _)⟩
           | true =>
            go_quiet (fail)
            clear hne' hgd' k1 k2 e0 e1 e2 f0 f1 f2
            go_wp2_with fail
            go_roundw
            case rel=>exact ⟨i+1,by go_num,hlt,Lib.hid (fun j a b h=>by
             rcases Nat.lt_or_ge j i with h' | h'
             ·exact HEQ.out j a b h'
             ·obtain rfl:j=i:=by omega
              exact HRR.out),Lib.hid (HO.out.trans (nx_drew _ _))⟩
            case measure=>simp [intOf];omega
          ·obtain rfl:i=fm.length:=by omega
           have q1:decide ((fm.length:Int)<(fm.length:Int))=false:=decide_eq_false (by omega)
           have HMM:Hid (allEq eqMm fm gm=true):=allEq_true HLM.out fun j a b=>HEQ.out j a b a
           have k1:wr.cell? ⟨gx,9,none⟩=some (.slice zC fm.length zh):=(HBX.out.below (HWC.out.trans HO.out)).cell 9
           have HWX:=Lib.hid (HWX.out.trans HO.out)
           have HWC:=Lib.hid (HWC.out.trans HO.out)
           clear hlt hi HEQ HO hiI
           go_wp2_with fail
           clear k1 q1
           generalize wr=CW2 at *
           go_loopw [6] (fun iv wr=>∃ (i:Nat),iv = .int .i64 (i:Int)∧i≤fb.length∧Hid (∀ j (h1:j<fb.length) (h2:j<gb.length),j<i→eqM fb[j] gb[j]=true)∧Hid (Nx CW2 wr)) (fun iv _=>(200000 - intOf iv).toNat)
           case atStart=>exact ⟨0,rfl,Nat.zero_le _,Lib.hid (fun j _ _ h=>absurd h (Nat.not_lt_zero _)),Lib.hid (Nx.refl _)⟩
           case round =>
            obtain ⟨i,rfl,hi,HEQ,HO⟩:=hrel
            have hiI:(i:Int)≤100000:=by have:fb.length≤100000:=HCO.out.2.2.2.1;omega
            have k1:wr.cell? ⟨gx,11,none⟩=some (.slice zD fb.length zj):=(HBX.out.below (HWC.out.trans HO.out)).cell 11
            by_cases hlt:i<fb.length
            ·have q1:decide ((i:Int)<(fb.length:Int))=true:=decide_eq_true (by omega)
             have q2:(i:Int)<(fb.length:Int):=by omega
             have hltb:i<gb.length:=by have:=HLB.out;omega
             have HLTB:=Lib.hid hltb
             have hr1:LM wr An (.slice zD fb.length zj) fb:=LM.lasts (mvAn (HWX.out.trans HO.out)) HXT.out
             have hr2:LM wr An (.slice yD fb.length yj) gb:=LM.lasts (mvAn (HWX.out.trans HO.out)) HYT.out
             obtain ⟨A',ac',zs',hlv,hzl,hzc,hzm,hrd,hall⟩:=hr1.sl metA_size
             injection hlv with h1 h2 h3
             subst h1 h3
             clear h2
             obtain ⟨g1,rfl,hg1,hcs⟩:=hrd (by omega)
             obtain ⟨Z,hZ⟩:∃ Z,zs'[i]'(by omega)=Z:=⟨_,rfl⟩
             have hrc:RM wr An Z fb[i]:=by
              have:=hall.at_ i (by omega) hlt
              rw [hZ] at this
              exact RM.lasts ⟨fun _ _ _=>rfl,fun _ _ _=>trivial⟩ this
             obtain ⟨A'',ac'',ys',hlv,hyl,hyc,hym,hrd',hall'⟩:=hr2.sl metA_size
             injection hlv with h1 h2 h3
             subst h1 h3
             clear h2
             obtain ⟨g2,rfl,hg2,hcs'⟩:=hrd' (by have:=HLB.out;omega)
             obtain ⟨Y,hY⟩:∃ Y,ys'[i]'(by have:=HLB.out;omega)=Y:=⟨_,rfl⟩
             have hrdd:RM wr An Y gb[i]:=by
              have:=hall'.at_ i (by have:=HLB.out;omega) hltb
              rw [hY] at this
              exact RM.lasts ⟨fun _ _ _=>rfl,fun _ _ _=>trivial⟩ this
             obtain ⟨pn,po,pr,px,py⟩:=Z
             obtain ⟨pA,pu,pc,rfl⟩:∃ A k cap,px = .slice A k cap:=by
              obtain ⟨A,c,-,e,-⟩:=hrc.2.2.2.1.sl fldA_size
              exact ⟨A,_,c,e⟩
             obtain ⟨pB,pv,pd,rfl⟩:∃ A k cap,py = .slice A k cap:=by
              obtain ⟨A,c,-,e,-⟩:=hrc.2.2.2.2.sl fldA_size
              exact ⟨A,_,c,e⟩
             obtain ⟨qn,qo,qr,qx,qy⟩:=Y
             obtain ⟨qA,qu,qc,rfl⟩:∃ A k cap,qx = .slice A k cap:=by
              obtain ⟨A,c,-,e,-⟩:=hrdd.2.2.2.1.sl fldA_size
              exact ⟨A,_,c,e⟩
             obtain ⟨qB,qv,qd,rfl⟩:∃ A k cap,qy = .slice A k cap:=by
              obtain ⟨A,c,-,e,-⟩:=hrdd.2.2.2.2.sl fldA_size
              exact ⟨A,_,c,e⟩
             have hcell:∀ j,j<5→wr.cell? ⟨g1,i * 5+j,none⟩=(metA ⟨pn,po,pr,.slice pA pu pc,.slice pB pv pd⟩)[j]?:=fun j hj=>by rw [hcs i (by omega) j hj,hZ]
             have hcell2:∀ j,j<5→wr.cell? ⟨g2,i * 5+j,none⟩=(metA ⟨qn,qo,qr,.slice qA qu qc,.slice qB qv qd⟩)[j]?:=fun j hj=>by rw [hcs' i (by have:=HLB.out;omega) j hj,hY]
             obtain ⟨F,hF⟩:∃ F,fb[i]=F:=⟨_,rfl⟩
             obtain ⟨G,hG⟩:∃ G,gb[i]=G:=⟨_,rfl⟩
             rw [hF] at hrc
             rw [hG] at hrdd
             obtain ⟨f1,f2,f3,f4,f5⟩:=F
             obtain ⟨g1',g2',g3',g4,g5⟩:=G
             obtain ⟨rfl,rfl,rfl,hpa,hpb⟩:pn=f1∧po=f2∧pr=f3∧LF wr An (.slice pA pu pc) f4∧LF wr An (.slice pB pv pd) f5:=hrc
             obtain ⟨rfl,rfl,rfl,hqa,hqb⟩:qn=g1'∧qo=g2'∧qr=g3'∧LF wr An (.slice qA qu qc) g4∧LF wr An (.slice qB qv qd) g5:=hrdd
             have HPA:=Lib.hid hpa
             have HPB:=Lib.hid hpb
             have HQA:=Lib.hid hqa
             have HQB:=Lib.hid hqb
             have HLN:Hid (lnL f4∧lnL f5):=by have:=HCO.out.2.2.2.2 _ (List.getElem_mem hlt);rw [hF] at this;exact this
             obtain ⟨R2,hR2⟩:∃ R2,Hid (eqM fb[i] (gb[i]'HLTB.out)=R2):=⟨_,Lib.hid rfl⟩
             have HRE2:Hid (R2=((pn == qn) && (po == qo) && (pr == qr) && allEq eqF f4 g4 && allEq eqF f5 g5)):=by unfold Hid;rw [← hR2.out,hF,show gb[i]'HLTB.out=_ from hG];rfl
             have HCE:=Lib.hid hcell
             have HCE2:=Lib.hid hcell2
             have HG1:=Lib.hid hg1
             have HG2:=Lib.hid hg2
             have HBX2:=Lib.hid (HBX.out.below (HWC.out.trans HO.out))
             have HBY2:=Lib.hid (HBY.out.below (HWC.out.trans HO.out))
             clear hltb hcs hcs' hcell hcell2 hall hall' hr1 hr2 hZ hY hzl hyl hzc hzm hyc hym hrd' hrd hpa hpb hqa hqb hF hG hg1 hg2
             go_wp2_with fail
             clear k1
             refine RI.wp_region_X (fun ls x w'=>Two wr 61 5 #[.string ⟨pn.toArray⟩,.bool po,.string ⟨pr.toArray⟩,.slice pA pu pc,.slice pB pv pd] #[.string ⟨qn.toArray⟩,.bool qo,.string ⟨qr.toArray⟩,.slice qA qu qc,.slice qB qv qd] (fun j:Nat=>match j with | 0=>some (.pointer (some ⟨gx,11,none⟩)) | 1=>some (.slice (some ⟨g1,0,none⟩) fb.length zj) | 2=>some (.int .i64 (i:Int)) | 3=>some (.pointer (some ⟨g1,i * 5,none⟩)) | 4=>some (.agg #[.string ⟨pn.toArray⟩,.bool po,.string ⟨pr.toArray⟩,.slice pA pu pc,.slice pB pv pd]) | 5=>some (.pointer (some ⟨gy,11,none⟩)) | 6=>some (.slice (some ⟨g2,0,none⟩) fb.length yj) | 7=>some (.int .i64 (i:Int)) | 8=>some (.pointer (some ⟨g2,i * 5,none⟩)) | 9=>some (.agg #[.string ⟨qn.toArray⟩,.bool qo,.string ⟨qr.toArray⟩,.slice qA qu qc,.slice qB qv qd]) | _=>none) 10 11 12 13 (fun j=>ls.getD j false) x w') rfl (by kernel_rfl) (by kernel_rfl) (fun x=>Two.start _ _ _ _ _ _ _ _ _ _ _ _) ?_ ?_
             ·refine ⟨?_,?_,?_,?_,?_,?_,?_,?_,?_,?_,?_,?_,?_,?_,trivial⟩
              ·intro a x ls w' hS hsz hni hcl hin hout hd K hK
               have i2:a.tmps.getD 2 undef = .pointer (some ⟨gx,0,none⟩):=hout 2 (by kernel_rfl)
               have j2:=i2
               rw [Array.getD_eq_getD_getElem?] at j2
               have:=hK w' (.pointer (some ⟨gx,11,none⟩)) (by refine two_upd (by rw [hsz];decide) ?_;exact hS.const rfl (by decide) (by decide) (by decide) (by decide))
               clear hin hout hd hcl hS hK
               go_simp
               exact this
              ·intro a x ls w' hS hsz hni hcl hin hout hd K hK
               have y1:=hd ⟨0,.data⟩ (by simp) rfl
               have i94:a.tmps.getD 94 undef = .pointer (some ⟨gx,11,none⟩):=(hin 94 0 (by kernel_rfl) (show 94<139 by decide)).trans (hS.cs 0 _ rfl y1)
               have j94:=i94
               rw [Array.getD_eq_getD_getElem?] at j94
               have l0:w'.cell? ⟨gx,11,none⟩=some (.slice (some ⟨g1,0,none⟩) fb.length zj):=(HBX2.out.below hS.nx).cell 11
               have:=hK w' (.slice (some ⟨g1,0,none⟩) fb.length zj) (by refine two_upd (by rw [hsz];decide) ?_;exact hS.const rfl (by decide) (by decide) (by decide) (by decide))
               clear hin hout hd hcl hS hK
               go_simp
               exact this
              ·intro a x ls w' hS hsz hni hcl hin hout hd K hK
               have o:a.eval (.tmp 6) = .int .i64 (i:Int):=hout 6 (by kernel_rfl)
               have:=hK w' (.int .i64 (i:Int)) (by refine two_upd (by rw [hsz];decide) ?_;exact hS.const rfl (by decide) (by decide) (by decide) (by decide))
               rw [← o] at this
               exact this
              ·intro a x ls w' hS hsz hni hcl hin hout hd K hK
               have y1:=hd ⟨1,.data⟩ (by simp) rfl
               have y2:=hd ⟨2,.data⟩ (by simp) rfl
               have i95:a.tmps.getD 95 undef = .slice (some ⟨g1,0,none⟩) fb.length zj:=(hin 95 1 (by kernel_rfl) (show 95<139 by decide)).trans (hS.cs 1 _ rfl y1)
               have j95:=i95
               rw [Array.getD_eq_getD_getElem?] at j95
               have i96:a.tmps.getD 96 undef = .int .i64 (i:Int):=(hin 96 2 (by kernel_rfl) (show 96<139 by decide)).trans (hS.cs 2 _ rfl y2)
               have j96:=i96
               rw [Array.getD_eq_getD_getElem?] at j96
               have:=hK w' (.pointer (some ⟨g1,i * 5,none⟩)) (by refine two_upd (by rw [hsz];decide) ?_;exact hS.const rfl (by decide) (by decide) (by decide) (by decide))
               clear hin hout hd hcl hS hK
               go_simp
               exact this
              ·intro a x ls w' hS hsz hni hcl hin hout hd K hK
               have y1:=hd ⟨3,.data⟩ (by simp) rfl
               have i97:a.tmps.getD 97 undef = .pointer (some ⟨g1,i * 5,none⟩):=(hin 97 3 (by kernel_rfl) (show 97<139 by decide)).trans (hS.cs 3 _ rfl y1)
               have j97:=i97
               rw [Array.getD_eq_getD_getElem?] at j97
               have l0:w'.cell? ⟨g1,i * 5,none⟩=some (.string ⟨pn.toArray⟩):=(hS.nx.cell (p:=⟨g1,i * 5,none⟩) HG1.out).trans (HCE.out 0 (by decide))
               have l1:w'.cell? ⟨g1,i * 5+1,none⟩=some (.bool po):=(hS.nx.cell (p:=⟨g1,i * 5+1,none⟩) HG1.out).trans (HCE.out 1 (by decide))
               have l2:w'.cell? ⟨g1,i * 5+2,none⟩=some (.string ⟨pr.toArray⟩):=(hS.nx.cell (p:=⟨g1,i * 5+2,none⟩) HG1.out).trans (HCE.out 2 (by decide))
               have l3:w'.cell? ⟨g1,i * 5+3,none⟩=some (.slice pA pu pc):=(hS.nx.cell (p:=⟨g1,i * 5+3,none⟩) HG1.out).trans (HCE.out 3 (by decide))
               have l4:w'.cell? ⟨g1,i * 5+4,none⟩=some (.slice pB pv pd):=(hS.nx.cell (p:=⟨g1,i * 5+4,none⟩) HG1.out).trans (HCE.out 4 (by decide))
               have:=hK w' (.agg #[.string ⟨pn.toArray⟩,.bool po,.string ⟨pr.toArray⟩,.slice pA pu pc,.slice pB pv pd]) (by refine two_upd (by rw [hsz];decide) ?_;exact hS.const rfl (by decide) (by decide) (by decide) (by decide))
               clear hin hout hd hcl hS hK
               go_simp
               exact this
              ·intro a x ls w' hS hsz hni hcl hin hout hd K hK
               have i2:a.tmps.getD 3 undef = .pointer (some ⟨gy,0,none⟩):=hout 3 (by kernel_rfl)
               have j2:=i2
               rw [Array.getD_eq_getD_getElem?] at j2
               have:=hK w' (.pointer (some ⟨gy,11,none⟩)) (by refine two_upd (by rw [hsz];decide) ?_;exact hS.const rfl (by decide) (by decide) (by decide) (by decide))
               clear hin hout hd hcl hS hK
               go_simp
               exact this
              ·intro a x ls w' hS hsz hni hcl hin hout hd K hK
               have y1:=hd ⟨5,.data⟩ (by simp) rfl
               have i99:a.tmps.getD 99 undef = .pointer (some ⟨gy,11,none⟩):=(hin 99 5 (by kernel_rfl) (show 99<139 by decide)).trans (hS.cs 5 _ rfl y1)
               have j99:=i99
               rw [Array.getD_eq_getD_getElem?] at j99
               have l0:w'.cell? ⟨gy,11,none⟩=some (.slice (some ⟨g2,0,none⟩) fb.length yj):=(HBY2.out.below hS.nx).cell 11
               have:=hK w' (.slice (some ⟨g2,0,none⟩) fb.length yj) (by refine two_upd (by rw [hsz];decide) ?_;exact hS.const rfl (by decide) (by decide) (by decide) (by decide))
               clear hin hout hd hcl hS hK
               go_simp
               exact this
              ·intro a x ls w' hS hsz hni hcl hin hout hd K hK
               have o:a.eval (.tmp 6) = .int .i64 (i:Int):=hout 6 (by kernel_rfl)
               have:=hK w' (.int .i64 (i:Int)) (by refine two_upd (by rw [hsz];decide) ?_;exact hS.const rfl (by decide) (by decide) (by decide) (by decide))
               rw [← o] at this
               exact this
              ·intro a x ls w' hS hsz hni hcl hin hout hd K hK
               have y1:=hd ⟨6,.data⟩ (by simp) rfl
               have y2:=hd ⟨7,.data⟩ (by simp) rfl
               have i100:a.tmps.getD 100 undef = .slice (some ⟨g2,0,none⟩) fb.length yj:=(hin 100 6 (by kernel_rfl) (show 100<139 by decide)).trans (hS.cs 6 _ rfl y1)
               have j100:=i100
               rw [Array.getD_eq_getD_getElem?] at j100
               have i101:a.tmps.getD 101 undef = .int .i64 (i:Int):=(hin 101 7 (by kernel_rfl) (show 101<139 by decide)).trans (hS.cs 7 _ rfl y2)
               have j101:=i101
               rw [Array.getD_eq_getD_getElem?] at j101
               have:=hK w' (.pointer (some ⟨g2,i * 5,none⟩)) (by refine two_upd (by rw [hsz];decide) ?_;exact hS.const rfl (by decide) (by decide) (by decide) (by decide))
               clear hin hout hd hcl hS hK
               go_simp
               exact this
              ·intro a x ls w' hS hsz hni hcl hin hout hd K hK
               have y1:=hd ⟨8,.data⟩ (by simp) rfl
               have i102:a.tmps.getD 102 undef = .pointer (some ⟨g2,i * 5,none⟩):=(hin 102 8 (by kernel_rfl) (show 102<139 by decide)).trans (hS.cs 8 _ rfl y1)
               have j102:=i102
               rw [Array.getD_eq_getD_getElem?] at j102
               have l0:w'.cell? ⟨g2,i * 5,none⟩=some (.string ⟨qn.toArray⟩):=(hS.nx.cell (p:=⟨g2,i * 5,none⟩) HG2.out).trans (HCE2.out 0 (by decide))
               have l1:w'.cell? ⟨g2,i * 5+1,none⟩=some (.bool qo):=(hS.nx.cell (p:=⟨g2,i * 5+1,none⟩) HG2.out).trans (HCE2.out 1 (by decide))
               have l2:w'.cell? ⟨g2,i * 5+2,none⟩=some (.string ⟨qr.toArray⟩):=(hS.nx.cell (p:=⟨g2,i * 5+2,none⟩) HG2.out).trans (HCE2.out 2 (by decide))
               have l3:w'.cell? ⟨g2,i * 5+3,none⟩=some (.slice qA qu qc):=(hS.nx.cell (p:=⟨g2,i * 5+3,none⟩) HG2.out).trans (HCE2.out 3 (by decide))
               have l4:w'.cell? ⟨g2,i * 5+4,none⟩=some (.slice qB qv qd):=(hS.nx.cell (p:=⟨g2,i * 5+4,none⟩) HG2.out).trans (HCE2.out 4 (by decide))
               have:=hK w' (.agg #[.string ⟨qn.toArray⟩,.bool qo,.string ⟨qr.toArray⟩,.slice qA qu qc,.slice qB qv qd]) (by refine two_upd (by rw [hsz];decide) ?_;exact hS.const rfl (by decide) (by decide) (by decide) (by decide))
               clear hin hout hd hcl hS hK
               go_simp
               exact this
              ·intro a x ls w' hS hsz hni hcl hin hout hd K hK
               have n1:ls.getD 10 false=false:=RI.off_of (by rw [hsz];decide) hni
               have n2:ls.getD 12 false=false:=hcl.not 20 12 10 (by kernel_rfl) hni
               have:=hK (w'.alloc (.cells (#[.string ⟨#[]⟩,.bool false,.string ⟨#[]⟩,.slice none 0 0,.slice none 0 0]:Array Value) 61)) (.pointer (some ⟨w'.heap.size,0,none⟩)) (by refine two_upd (by rw [hsz];decide) ?_;exact hS.newA (#[.string ⟨#[]⟩,.bool false,.string ⟨#[]⟩,.slice none 0 0,.slice none 0 0]:Array Value) (by decide) rfl n2 (by decide) (by decide) (by decide))
               clear hin hout hd hcl hS hK
               go_simp
               exact this
              ·intro a x ls w' hS hsz hni hcl hin hout hd K hK
               have n1:ls.getD 11 false=false:=RI.off_of (by rw [hsz];decide) hni
               have n2:ls.getD 13 false=false:=hcl.not 20 13 11 (by kernel_rfl) hni
               have:=hK (w'.alloc (.cells (#[.string ⟨#[]⟩,.bool false,.string ⟨#[]⟩,.slice none 0 0,.slice none 0 0]:Array Value) 61)) (.pointer (some ⟨w'.heap.size,0,none⟩)) (by refine two_upd (by rw [hsz];decide) ?_;exact hS.newB (#[.string ⟨#[]⟩,.bool false,.string ⟨#[]⟩,.slice none 0 0,.slice none 0 0]:Array Value) (by decide) rfl n2 (by decide) (by decide) (by decide))
               clear hin hout hd hcl hS hK
               go_simp
               exact this
              ·intro a x ls w' hS hsz hni hcl hin hout hd K hK
               have y1:=hd ⟨10,.data⟩ (by simp) rfl
               have y2:=hd ⟨4,.data⟩ (by simp) rfl
               obtain ⟨g,cs,ex,hgw,hsz2,hB,-⟩:=hS.a y1
               have i7:a.tmps.getD 7 undef = .pointer (some ⟨g,0,none⟩):=(hin 7 10 (by kernel_rfl) (show 7<139 by decide)).trans ex
               have j7:=i7
               rw [Array.getD_eq_getD_getElem?] at j7
               have i98:a.tmps.getD 98 undef = .agg #[.string ⟨pn.toArray⟩,.bool po,.string ⟨pr.toArray⟩,.slice pA pu pc,.slice pB pv pd]:=(hin 98 4 (by kernel_rfl) (show 98<139 by decide)).trans (hS.cs 4 _ rfl y2)
               have j98:=i98
               rw [Array.getD_eq_getD_getElem?] at j98
               have d0:∀ k,k<5→w'.cell? ⟨g,k,none⟩=some cs[k]!:=by
                intro k hk
                have hk2:k<cs.size:=by omega
                rw [hB.cell k,Array.getElem?_eq_getElem hk2,getElem!_pos cs k hk2]
               have c0:=d0 0 (by decide)
               have f0:=hB.free 0
               have c1:=d0 1 (by decide)
               have f1:=hB.free 1
               have c2:=d0 2 (by decide)
               have f2:=hB.free 2
               have c3:=d0 3 (by decide)
               have f3:=hB.free 3
               have c4:=d0 4 (by decide)
               have f4:=hB.free 4
               have hO:Oth g w' (((((w'.setCell ⟨g,0,none⟩ (.string ⟨pn.toArray⟩)).setCell ⟨g,1,none⟩ (.bool po)).setCell ⟨g,2,none⟩ (.string ⟨pr.toArray⟩)).setCell ⟨g,3,none⟩ (.slice pA pu pc)).setCell ⟨g,4,none⟩ (.slice pB pv pd)):=(((((Oth.refl g w').own).own).own).own).own
               have:=hK (((((w'.setCell ⟨g,0,none⟩ (.string ⟨pn.toArray⟩)).setCell ⟨g,1,none⟩ (.bool po)).setCell ⟨g,2,none⟩ (.string ⟨pr.toArray⟩)).setCell ⟨g,3,none⟩ (.slice pA pu pc)).setCell ⟨g,4,none⟩ (.slice pB pv pd)) (undef) (by refine two_upd (by rw [hsz];decide) ?_;exact hS.putA (cs:=cs) ex hgw hO (hB.put5s hsz2) rfl rfl y1 (by decide) (by decide) (by decide))
               clear d0 hO
               clear hin hout hd hcl hS hK
               go_simp
               exact this
              ·intro a x ls w' hS hsz hni hcl hin hout hd K hK
               have y1:=hd ⟨11,.data⟩ (by simp) rfl
               have y2:=hd ⟨9,.data⟩ (by simp) rfl
               obtain ⟨g,cs,ex,hgw,hsz2,hB,-⟩:=hS.b y1
               have i8:a.tmps.getD 8 undef = .pointer (some ⟨g,0,none⟩):=(hin 8 11 (by kernel_rfl) (show 8<139 by decide)).trans ex
               have j8:=i8
               rw [Array.getD_eq_getD_getElem?] at j8
               have i103:a.tmps.getD 103 undef = .agg #[.string ⟨qn.toArray⟩,.bool qo,.string ⟨qr.toArray⟩,.slice qA qu qc,.slice qB qv qd]:=(hin 103 9 (by kernel_rfl) (show 103<139 by decide)).trans (hS.cs 9 _ rfl y2)
               have j103:=i103
               rw [Array.getD_eq_getD_getElem?] at j103
               have d0:∀ k,k<5→w'.cell? ⟨g,k,none⟩=some cs[k]!:=by
                intro k hk
                have hk2:k<cs.size:=by omega
                rw [hB.cell k,Array.getElem?_eq_getElem hk2,getElem!_pos cs k hk2]
               have c0:=d0 0 (by decide)
               have f0:=hB.free 0
               have c1:=d0 1 (by decide)
               have f1:=hB.free 1
               have c2:=d0 2 (by decide)
               have f2:=hB.free 2
               have c3:=d0 3 (by decide)
               have f3:=hB.free 3
               have c4:=d0 4 (by decide)
               have f4:=hB.free 4
               have hO:Oth g w' (((((w'.setCell ⟨g,0,none⟩ (.string ⟨qn.toArray⟩)).setCell ⟨g,1,none⟩ (.bool qo)).setCell ⟨g,2,none⟩ (.string ⟨qr.toArray⟩)).setCell ⟨g,3,none⟩ (.slice qA qu qc)).setCell ⟨g,4,none⟩ (.slice qB qv qd)):=(((((Oth.refl g w').own).own).own).own).own
               have:=hK (((((w'.setCell ⟨g,0,none⟩ (.string ⟨qn.toArray⟩)).setCell ⟨g,1,none⟩ (.bool qo)).setCell ⟨g,2,none⟩ (.string ⟨qr.toArray⟩)).setCell ⟨g,3,none⟩ (.slice qA qu qc)).setCell ⟨g,4,none⟩ (.slice qB qv qd)) (undef) (by refine two_upd (by rw [hsz];decide) ?_;exact hS.putB (cs:=cs) ex hgw hO (hB.put5s hsz2) rfl rfl y1 (by decide) (by decide) (by decide))
               clear d0 hO
               clear hin hout hd hcl hS hK
               go_simp
               exact this
             ·intro A' x ls w' hS hall hin hout hA
              have hxs:=And.intro (hS.cs 0 _ rfl (hall 0 (by decide))) <| And.intro (hS.cs 1 _ rfl (hall 1 (by decide))) <| And.intro (hS.cs 2 _ rfl (hall 2 (by decide))) <| And.intro (hS.cs 3 _ rfl (hall 3 (by decide))) <| And.intro (hS.cs 4 _ rfl (hall 4 (by decide))) <| And.intro (hS.cs 5 _ rfl (hall 5 (by decide))) <| And.intro (hS.cs 6 _ rfl (hall 6 (by decide))) <| And.intro (hS.cs 7 _ rfl (hall 7 (by decide))) <| And.intro (hS.cs 8 _ rfl (hall 8 (by decide))) (hS.cs 9 _ rfl (hall 9 (by decide)))
              obtain ⟨ga,ca,ea,-,-,hBA,hva⟩:=hS.a (hall 10 (by decide))
              obtain ⟨gb',cb,eb,-,-,hBB,hvb⟩:=hS.b (hall 11 (by decide))
              obtain rfl:=hva (hall 12 (by decide))
              obtain rfl:=hvb (hall 13 (by decide))
              obtain ⟨x0,x1,x2,x3,x4,x5,x6,x7,x8,x9⟩:=hxs
              have hA2:=hA.out
              clear hA hin hout hall hva hvb
              simp only [RI.setAll,List.toList_toArray,List.set_cons_succ,List.set_cons_zero,Nat.reduceAdd] at hA2
              rw [x0,x1,x2,x3,x4,x5,x6,x7,x8,x9,ea,eb] at hA2
              subst hA2
              have HBA:=Lib.hid hBA
              have HBB:=Lib.hid hBB
              have HWR:=Lib.hid hS.nx
              have HWX:=Lib.hid ((HWX.out.trans HO.out).trans hS.nx)
              have HWC:Hid (Nx w' w'):=Nx.refl _
              clear hS x0 x1 x2 x3 x4 x5 x6 x7 x8 x9 ea eb hBA hBB
              have mx0:w'.cell? ⟨ga,0,none⟩=some (.string ⟨pn.toArray⟩):=HBA.out.cell 0
              have mx1:w'.cell? ⟨ga,1,none⟩=some (.bool po):=HBA.out.cell 1
              have mx2:w'.cell? ⟨ga,2,none⟩=some (.string ⟨pr.toArray⟩):=HBA.out.cell 2
              have mx3:w'.cell? ⟨ga,3,none⟩=some (.slice pA pu pc):=HBA.out.cell 3
              have mx4:w'.cell? ⟨ga,4,none⟩=some (.slice pB pv pd):=HBA.out.cell 4
              have my0:w'.cell? ⟨gb',0,none⟩=some (.string ⟨qn.toArray⟩):=HBB.out.cell 0
              have my1:w'.cell? ⟨gb',1,none⟩=some (.bool qo):=HBB.out.cell 1
              have my2:w'.cell? ⟨gb',2,none⟩=some (.string ⟨qr.toArray⟩):=HBB.out.cell 2
              have my3:w'.cell? ⟨gb',3,none⟩=some (.slice qA qu qc):=HBB.out.cell 3
              have my4:w'.cell? ⟨gb',4,none⟩=some (.slice qB qv qd):=HBB.out.cell 4
              by_cases h0:pn=qn
              ·subst h0
               by_cases h1:po=qo
               ·subst h1
                by_cases h2:pr=qr
                ·subst h2
                 obtain ⟨Rm3,hRm3⟩:∃ R,Hid (allEq eqF f4 g4=R):=⟨_,Lib.hid rfl⟩
                 have hcall:=dsameFields w' (.slice pA pu pc) (.slice qA qu qc) f4 g4 (LF.lasts (mvAn (HWR.out.trans HWC.out)) HPA.out) (LF.lasts (mvAn (HWR.out.trans HWC.out)) HQA.out) HLN.out.1.1 HLN.out.1.2
                 rw [hRm3.out] at hcall
                 have HCA:=Lib.hid hcall
                 clear hcall
                 go_wp2_with fail
                 refine HCA.out.mono ?_;rintro e wkm3 ⟨rfl,hnx⟩
                 have HWX:=Lib.hid (HWX.out.trans hnx)
                 have HWC:=Lib.hid (HWC.out.trans hnx)
                 clear hnx mx0 my0 mx1 my1 mx2 my2 mx3 my3 mx4 my4 HCA
                 have mx0:wkm3.cell? ⟨ga,0,none⟩=some (.string ⟨pn.toArray⟩):=(HBA.out.below HWC.out).cell 0
                 have mx1:wkm3.cell? ⟨ga,1,none⟩=some (.bool po):=(HBA.out.below HWC.out).cell 1
                 have mx2:wkm3.cell? ⟨ga,2,none⟩=some (.string ⟨pr.toArray⟩):=(HBA.out.below HWC.out).cell 2
                 have mx3:wkm3.cell? ⟨ga,3,none⟩=some (.slice pA pu pc):=(HBA.out.below HWC.out).cell 3
                 have mx4:wkm3.cell? ⟨ga,4,none⟩=some (.slice pB pv pd):=(HBA.out.below HWC.out).cell 4
                 have my0:wkm3.cell? ⟨gb',0,none⟩=some (.string ⟨pn.toArray⟩):=(HBB.out.below HWC.out).cell 0
                 have my1:wkm3.cell? ⟨gb',1,none⟩=some (.bool po):=(HBB.out.below HWC.out).cell 1
                 have my2:wkm3.cell? ⟨gb',2,none⟩=some (.string ⟨pr.toArray⟩):=(HBB.out.below HWC.out).cell 2
                 have my3:wkm3.cell? ⟨gb',3,none⟩=some (.slice qA qu qc):=(HBB.out.below HWC.out).cell 3
                 have my4:wkm3.cell? ⟨gb',4,none⟩=some (.slice qB qv qd):=(HBB.out.below HWC.out).cell 4
                 cases Rm3 with
                 | false =>
                  have HRF:Hid (R2=false):=by unfold Hid;rw [HRE2.out];simp [hRm3.out]
                  have HRG:Hid (R=false):=by unfold Hid;rw [HRE.out];simp [allEq_false i hlt HLTB.out (hR2.out.trans HRF.out)]
                  go_wp2_with fail
                  go_ret
                  rw [HRG.out]
                  exact ⟨rfl,HWX.out⟩
                 | true =>
                  obtain ⟨Rm4,hRm4⟩:∃ R,Hid (allEq eqF f5 g5=R):=⟨_,Lib.hid rfl⟩
                  have hcall:=dsameFields wkm3 (.slice pB pv pd) (.slice qB qv qd) f5 g5 (LF.lasts (mvAn (HWR.out.trans HWC.out)) HPB.out) (LF.lasts (mvAn (HWR.out.trans HWC.out)) HQB.out) HLN.out.2.1 HLN.out.2.2
                  rw [hRm4.out] at hcall
                  have HCA:=Lib.hid hcall
                  clear hcall
                  go_wp2_with fail
                  refine HCA.out.mono ?_;rintro e wkm4 ⟨rfl,hnx⟩
                  have HWX:=Lib.hid (HWX.out.trans hnx)
                  have HWC:=Lib.hid (HWC.out.trans hnx)
                  clear hnx mx0 my0 mx1 my1 mx2 my2 mx3 my3 mx4 my4 HCA
                  have mx0:wkm4.cell? ⟨ga,0,none⟩=some (.string ⟨pn.toArray⟩):=(HBA.out.below HWC.out).cell 0
                  have mx1:wkm4.cell? ⟨ga,1,none⟩=some (.bool po):=(HBA.out.below HWC.out).cell 1
                  have mx2:wkm4.cell? ⟨ga,2,none⟩=some (.string ⟨pr.toArray⟩):=(HBA.out.below HWC.out).cell 2
                  have mx3:wkm4.cell? ⟨ga,3,none⟩=some (.slice pA pu pc):=(HBA.out.below HWC.out).cell 3
                  have mx4:wkm4.cell? ⟨ga,4,none⟩=some (.slice pB pv pd):=(HBA.out.below HWC.out).cell 4
                  have my0:wkm4.cell? ⟨gb',0,none⟩=some (.string ⟨pn.toArray⟩):=(HBB.out.below HWC.out).cell 0
                  have my1:wkm4.cell? ⟨gb',1,none⟩=some (.bool po):=(HBB.out.below HWC.out).cell 1
                  have my2:wkm4.cell? ⟨gb',2,none⟩=some (.string ⟨pr.toArray⟩):=(HBB.out.below HWC.out).cell 2
                  have my3:wkm4.cell? ⟨gb',3,none⟩=some (.slice qA qu qc):=(HBB.out.below HWC.out).cell 3
                  have my4:wkm4.cell? ⟨gb',4,none⟩=some (.slice qB qv qd):=(HBB.out.below HWC.out).cell 4
                  cases Rm4 with
                  | false =>
                   have HRF:Hid (R2=false):=by unfold Hid;rw [HRE2.out];simp [hRm4.out]
                   have HRG:Hid (R=false):=by unfold Hid;rw [HRE.out];simp [allEq_false i hlt HLTB.out (hR2.out.trans HRF.out)]
                   go_wp2_with fail
                   go_ret
                   rw [HRG.out]
                   exact ⟨rfl,HWX.out⟩
                  | true =>
                   have HRF:Hid (R2=true):=by unfold Hid;rw [HRE2.out];simp [hRm3.out,hRm4.out]
                   go_wp2_with fail
                   go_roundw
                   case rel=>exact ⟨i+1,by go_num,hlt,Lib.hid (fun j a b h=>by
                    rcases Nat.lt_or_ge j i with h' | h'
                    ·exact HEQ.out j a b h'
                    ·obtain rfl:j=i:=by omega
                     exact hR2.out.trans HRF.out),Lib.hid ((HO.out.trans HWR.out).trans HWC.out)⟩
                   case measure=>simp [intOf];omega
                ·have HRF:Hid (R2=false):=by unfold Hid;rw [HRE2.out];simp [h2]
                 obtain ⟨S,hS⟩:∃ S:ByteArray,(⟨pr.toArray⟩:ByteArray)=S:=⟨_,rfl⟩
                 obtain ⟨T,hT⟩:∃ T:ByteArray,(⟨qr.toArray⟩:ByteArray)=T:=⟨_,rfl⟩
                 have hst:S.toList≠T.toList:=by rw [← hS,← hT,(Tx.of pr).toL,(Tx.of qr).toL];exact h2
                 have hst1:¬ S.toList=T.toList:=hst
                 have hst2:(S.toList == T.toList)=false:=by rw [beq_eq_false_iff_ne];exact hst
                 have hst4:(S.toList != T.toList)=true:=by rw [bne_iff_ne];exact hst
                 have hst3:¬ S=T:=fun e=>hst (by rw [e])
                 rw [hS] at mx2
                 rw [hT] at my2
                 clear h2 hst hS hT
                 have HRG:Hid (R=false):=by unfold Hid;rw [HRE.out];simp [allEq_false i hlt HLTB.out (hR2.out.trans HRF.out)]
                 go_wp2_with fail
                 go_ret
                 rw [HRG.out]
                 exact ⟨rfl,HWX.out⟩
               ·have HRF:Hid (R2=false):=by unfold Hid;rw [HRE2.out];simp [h1]
                have t1:(po == qo)=false:=by rw [beq_eq_false_iff_ne];exact h1
                have t1':¬ po=qo:=h1
                have t1'':(po != qo)=true:=by rw [bne_iff_ne];exact h1
                clear h1
                have HRG:Hid (R=false):=by unfold Hid;rw [HRE.out];simp [allEq_false i hlt HLTB.out (hR2.out.trans HRF.out)]
                go_wp2_with fail
                go_ret
                rw [HRG.out]
                exact ⟨rfl,HWX.out⟩
              ·have HRF:Hid (R2=false):=by unfold Hid;rw [HRE2.out];simp [h0]
               obtain ⟨S,hS⟩:∃ S:ByteArray,(⟨pn.toArray⟩:ByteArray)=S:=⟨_,rfl⟩
               obtain ⟨T,hT⟩:∃ T:ByteArray,(⟨qn.toArray⟩:ByteArray)=T:=⟨_,rfl⟩
               have hst:S.toList≠T.toList:=by rw [← hS,← hT,(Tx.of pn).toL,(Tx.of qn).toL];exact h0
               have hst1:¬ S.toList=T.toList:=hst
               have hst2:(S.toList == T.toList)=false:=by rw [beq_eq_false_iff_ne];exact hst
               have hst4:(S.toList != T.toList)=true:=by rw [bne_iff_ne];exact hst
               have hst3:¬ S=T:=fun e=>hst (by rw [e])
               rw [hS] at mx0
               rw [hT] at my0
               clear h0 hst hS hT
               have HRG:Hid (R=false):=by unfold Hid;rw [HRE.out];simp [allEq_false i hlt HLTB.out (hR2.out.trans HRF.out)]
               go_wp2_with fail
               go_ret
               rw [HRG.out]
               exact ⟨rfl,HWX.out⟩
            ·obtain rfl:i=fb.length:=by omega
             have q1:decide ((fb.length:Int)<(fb.length:Int))=false:=decide_eq_false (by omega)
             have HBB:Hid (allEq eqM fb gb=true):=allEq_true HLB.out fun j a b=>HEQ.out j a b a
             have HRF:Hid (R=true):=by unfold Hid;rw [HRE.out];simp [hRa3.out,hRa4.out,HMM.out,HBB.out]
             have HWX:=Lib.hid (HWX.out.trans HO.out)
             clear hlt hi
             go_wp2_with fail
             go_ret
             rw [HRF.out]
             exact ⟨rfl,HWX.out⟩
        ·have HRF:Hid (R=false):=by unfold Hid;rw [HRE.out];simp [h5]
         obtain ⟨S,hS⟩:∃ S:ByteArray,(⟨ze.toArray⟩:ByteArray)=S:=⟨_,rfl⟩
         obtain ⟨T,hT⟩:∃ T:ByteArray,(⟨ye.toArray⟩:ByteArray)=T:=⟨_,rfl⟩
         have hst:S.toList≠T.toList:=by rw [← hS,← hT,(Tx.of ze).toL,(Tx.of ye).toL];exact h5
         have hst1:¬ S.toList=T.toList:=hst
         have hst2:(S.toList == T.toList)=false:=by rw [beq_eq_false_iff_ne];exact hst
         have hst4:(S.toList != T.toList)=true:=by rw [bne_iff_ne];exact hst
         have hst3:¬ S=T:=fun e=>hst (by rw [e])
         rw [hS] at gx10
         rw [hT] at gy10
         clear h5 hst hS hT
         go_wp2_with fail
         go_ret
         rw [HRF.out]
         exact ⟨rfl,HWX.out⟩
     ·have HRF:Hid (R=false):=by unfold Hid;rw [HRE.out];simp [h2]
      obtain ⟨S,hS⟩:∃ S:ByteArray,(⟨zt.toArray⟩:ByteArray)=S:=⟨_,rfl⟩
      obtain ⟨T,hT⟩:∃ T:ByteArray,(⟨yt.toArray⟩:ByteArray)=T:=⟨_,rfl⟩
      have hst:S.toList≠T.toList:=by rw [← hS,← hT,(Tx.of zt).toL,(Tx.of yt).toL];exact h2
      have hst1:¬ S.toList=T.toList:=hst
      have hst2:(S.toList == T.toList)=false:=by rw [beq_eq_false_iff_ne];exact hst
      have hst4:(S.toList != T.toList)=true:=by rw [bne_iff_ne];exact hst
      have hst3:¬ S=T:=fun e=>hst (by rw [e])
      rw [hS] at gx2
      rw [hT] at gy2
      clear h2 hst hS hT
      go_wp2_with fail
      go_ret
      rw [HRF.out]
      exact ⟨rfl,HWX.out⟩
    ·have HRF:Hid (R=false):=by unfold Hid;rw [HRE.out];simp [h1]
     obtain ⟨S,hS⟩:∃ S:ByteArray,(⟨zn.toArray⟩:ByteArray)=S:=⟨_,rfl⟩
     obtain ⟨T,hT⟩:∃ T:ByteArray,(⟨yn.toArray⟩:ByteArray)=T:=⟨_,rfl⟩
     have hst:S.toList≠T.toList:=by rw [← hS,← hT,(Tx.of zn).toL,(Tx.of yn).toL];exact h1
     have hst1:¬ S.toList=T.toList:=hst
     have hst2:(S.toList == T.toList)=false:=by rw [beq_eq_false_iff_ne];exact hst
     have hst4:(S.toList != T.toList)=true:=by rw [bne_iff_ne];exact hst
     have hst3:¬ S=T:=fun e=>hst (by rw [e])
     rw [hS] at gx1
     rw [hT] at gy1
     clear h1 hst hS hT
     go_wp2_with fail
     go_ret
     rw [HRF.out]
     exact ⟨rfl,HWX.out⟩
   ·have HRF:Hid (R=false):=by unfold Hid;rw [HRE.out];simp [h0]
    have t0:((zk:Int) == (yk:Int))=false:=by rw [beq_eq_false_iff_ne];omega
    have t0':¬ (zk:Int)=(yk:Int):=by omega
    have t0'':((zk:Int) != (yk:Int))=true:=by rw [bne_iff_ne];omega
    clear h0
    go_wp2_with fail
    go_ret
    rw [HRF.out]
    exact ⟨rfl,HWX.out⟩
  ·have HNE:Hid (allEq eqM fb gb=false):=allEq_len hb
   have t9:((fb.length:Int) != (gb.length:Int))=true:=by rw [bne_iff_ne];omega
   have t9':¬ (fb.length:Int)=(gb.length:Int):=by omega
   rw [← hm]
   clear hm hb hym hyt
   obtain ⟨gx,hgx⟩:∃ g,w.heap.size=g:=⟨_,rfl⟩
   have hBx:=Blk.new w #[.int .i64 (zk:Int),.string ⟨zn.toArray⟩,.string ⟨zt.toArray⟩,.int .i64 (zi:Int),.int .i64 zm,.int .u64 (zd:Int),.string ⟨zs.toArray⟩,.slice zA zu zc,.slice zB zv zg,.slice zC fm.length zh,.string ⟨ze.toArray⟩,.slice zD fb.length zj] 55
   rw [hgx] at hBx
   have hn1:Nx w (w.alloc (.cells #[.int .i64 (zk:Int),.string ⟨zn.toArray⟩,.string ⟨zt.toArray⟩,.int .i64 (zi:Int),.int .i64 zm,.int .u64 (zd:Int),.string ⟨zs.toArray⟩,.slice zA zu zc,.slice zB zv zg,.slice zC fm.length zh,.string ⟨ze.toArray⟩,.slice zD fb.length zj] 55)):=nx0 _ _
   have hs1:(w.alloc (.cells #[.int .i64 (zk:Int),.string ⟨zn.toArray⟩,.string ⟨zt.toArray⟩,.int .i64 (zi:Int),.int .i64 zm,.int .u64 (zd:Int),.string ⟨zs.toArray⟩,.slice zA zu zc,.slice zB zv zg,.slice zC fm.length zh,.string ⟨ze.toArray⟩,.slice zD fb.length zj] 55)).heap.size=w.heap.size+1:=by simp
   rw [hgx] at hs1
   obtain ⟨gy,hgy⟩:∃ g,gx+1=g:=⟨_,rfl⟩
   rw [hgy] at hs1
   have HBX:=Lib.hid hBx
   have HN1:=Lib.hid hn1
   clear hBx hn1
   show Calls _ _ #[.agg #[.int .i64 (zk:Int),.string ⟨zn.toArray⟩,.string ⟨zt.toArray⟩,.int .i64 (zi:Int),.int .i64 zm,.int .u64 (zd:Int),.string ⟨zs.toArray⟩,.slice zA zu zc,.slice zB zv zg,.slice zC fm.length zh,.string ⟨ze.toArray⟩,.slice zD fb.length zj],.agg #[.int .i64 (yk:Int),.string ⟨yn.toArray⟩,.string ⟨yt.toArray⟩,.int .i64 (yi:Int),.int .i64 ym,.int .u64 (yd:Int),.string ⟨ys.toArray⟩,.slice yA yu yc,.slice yB yv yg,.slice yC fm.length yh,.string ⟨ye.toArray⟩,.slice yD gb.length yj]] _ _
   go_enter Tryz.func34,Tryz.ntmps34
   go_upto_region 1 with fail
   generalize hW1:World.alloc w _=W1 at *
   have hBy:=Blk.new W1 #[.int .i64 (yk:Int),.string ⟨yn.toArray⟩,.string ⟨yt.toArray⟩,.int .i64 (yi:Int),.int .i64 ym,.int .u64 (yd:Int),.string ⟨ys.toArray⟩,.slice yA yu yc,.slice yB yv yg,.slice yC fm.length yh,.string ⟨ye.toArray⟩,.slice yD gb.length yj] 55
   have hn2:Nx W1 (W1.alloc (.cells #[.int .i64 (yk:Int),.string ⟨yn.toArray⟩,.string ⟨yt.toArray⟩,.int .i64 (yi:Int),.int .i64 ym,.int .u64 (yd:Int),.string ⟨ys.toArray⟩,.slice yA yu yc,.slice yB yv yg,.slice yC fm.length yh,.string ⟨ye.toArray⟩,.slice yD gb.length yj] 55)):=nx0 _ _
   rw [hs1] at hBy
   have hBx:=HBX.out.below hn2
   generalize World.alloc W1 _=W at *
   have HBX:=Lib.hid hBx
   have HBY:=Lib.hid hBy
   have HWX:=Lib.hid (HN1.out.trans hn2)
   have HWC:Hid (Nx W W):=Nx.refl _
   clear hW1 hBx hBy hn2 hs1 hgx hgy HN1
   have gx0:W.cell? ⟨gx,0,none⟩=some (.int .i64 (zk:Int)):=HBX.out.cell 0
   have gx1:W.cell? ⟨gx,1,none⟩=some (.string ⟨zn.toArray⟩):=HBX.out.cell 1
   have gx2:W.cell? ⟨gx,2,none⟩=some (.string ⟨zt.toArray⟩):=HBX.out.cell 2
   have gx3:W.cell? ⟨gx,3,none⟩=some (.int .i64 (zi:Int)):=HBX.out.cell 3
   have gx4:W.cell? ⟨gx,4,none⟩=some (.int .i64 zm):=HBX.out.cell 4
   have gx5:W.cell? ⟨gx,5,none⟩=some (.int .u64 (zd:Int)):=HBX.out.cell 5
   have gx6:W.cell? ⟨gx,6,none⟩=some (.string ⟨zs.toArray⟩):=HBX.out.cell 6
   have gx7:W.cell? ⟨gx,7,none⟩=some (.slice zA zu zc):=HBX.out.cell 7
   have gx8:W.cell? ⟨gx,8,none⟩=some (.slice zB zv zg):=HBX.out.cell 8
   have gx9:W.cell? ⟨gx,9,none⟩=some (.slice zC fm.length zh):=HBX.out.cell 9
   have gx10:W.cell? ⟨gx,10,none⟩=some (.string ⟨ze.toArray⟩):=HBX.out.cell 10
   have gx11:W.cell? ⟨gx,11,none⟩=some (.slice zD fb.length zj):=HBX.out.cell 11
   have gy0:W.cell? ⟨gy,0,none⟩=some (.int .i64 (yk:Int)):=HBY.out.cell 0
   have gy1:W.cell? ⟨gy,1,none⟩=some (.string ⟨yn.toArray⟩):=HBY.out.cell 1
   have gy2:W.cell? ⟨gy,2,none⟩=some (.string ⟨yt.toArray⟩):=HBY.out.cell 2
   have gy3:W.cell? ⟨gy,3,none⟩=some (.int .i64 (yi:Int)):=HBY.out.cell 3
   have gy4:W.cell? ⟨gy,4,none⟩=some (.int .i64 ym):=HBY.out.cell 4
   have gy5:W.cell? ⟨gy,5,none⟩=some (.int .u64 (yd:Int)):=HBY.out.cell 5
   have gy6:W.cell? ⟨gy,6,none⟩=some (.string ⟨ys.toArray⟩):=HBY.out.cell 6
   have gy7:W.cell? ⟨gy,7,none⟩=some (.slice yA yu yc):=HBY.out.cell 7
   have gy8:W.cell? ⟨gy,8,none⟩=some (.slice yB yv yg):=HBY.out.cell 8
   have gy9:W.cell? ⟨gy,9,none⟩=some (.slice yC fm.length yh):=HBY.out.cell 9
   have gy10:W.cell? ⟨gy,10,none⟩=some (.string ⟨ye.toArray⟩):=HBY.out.cell 10
   have gy11:W.cell? ⟨gy,11,none⟩=some (.slice yD gb.length yj):=HBY.out.cell 11
   by_cases h0:zk=yk
   ·subst h0
    by_cases h1:zn=yn
    ·subst h1
     by_cases h2:zt=yt
     ·subst h2
      obtain ⟨Ra3,hRa3⟩:∃ R,Hid (eqC 13 fc gc=R):=⟨_,Lib.hid rfl⟩
      have hcall:=dsameConst 13 W ⟨zi,zm,zd,zs,.slice zA zu zc⟩ ⟨yi,ym,yd,ys,.slice yA yu yc⟩ fc gc (RC.lasts 13 (mvAn HWX.out) HXC.out) (RC.lasts 13 (mvAn HWX.out) HYC.out) HCO.out.1
      rw [hRa3.out] at hcall
      have HCA:=Lib.hid hcall
      clear hcall
      go_wp2_with fail
      refine HCA.out.mono ?_;rintro e wka3 ⟨rfl,hnx⟩
      have HWX:=Lib.hid (HWX.out.trans hnx)
      have HWC:=Lib.hid (HWC.out.trans hnx)
      clear hnx gx0 gy0 gx1 gy1 gx2 gy2 gx3 gy3 gx4 gy4 gx5 gy5 gx6 gy6 gx7 gy7 gx8 gy8 gx9 gy9 gx10 gy10 gx11 gy11 HCA
      have gx0:wka3.cell? ⟨gx,0,none⟩=some (.int .i64 (zk:Int)):=(HBX.out.below HWC.out).cell 0
      have gx1:wka3.cell? ⟨gx,1,none⟩=some (.string ⟨zn.toArray⟩):=(HBX.out.below HWC.out).cell 1
      have gx2:wka3.cell? ⟨gx,2,none⟩=some (.string ⟨zt.toArray⟩):=(HBX.out.below HWC.out).cell 2
      have gx3:wka3.cell? ⟨gx,3,none⟩=some (.int .i64 (zi:Int)):=(HBX.out.below HWC.out).cell 3
      have gx4:wka3.cell? ⟨gx,4,none⟩=some (.int .i64 zm):=(HBX.out.below HWC.out).cell 4
      have gx5:wka3.cell? ⟨gx,5,none⟩=some (.int .u64 (zd:Int)):=(HBX.out.below HWC.out).cell 5
      have gx6:wka3.cell? ⟨gx,6,none⟩=some (.string ⟨zs.toArray⟩):=(HBX.out.below HWC.out).cell 6
      have gx7:wka3.cell? ⟨gx,7,none⟩=some (.slice zA zu zc):=(HBX.out.below HWC.out).cell 7
      have gx8:wka3.cell? ⟨gx,8,none⟩=some (.slice zB zv zg):=(HBX.out.below HWC.out).cell 8
      have gx9:wka3.cell? ⟨gx,9,none⟩=some (.slice zC fm.length zh):=(HBX.out.below HWC.out).cell 9
      have gx10:wka3.cell? ⟨gx,10,none⟩=some (.string ⟨ze.toArray⟩):=(HBX.out.below HWC.out).cell 10
      have gx11:wka3.cell? ⟨gx,11,none⟩=some (.slice zD fb.length zj):=(HBX.out.below HWC.out).cell 11
      have gy0:wka3.cell? ⟨gy,0,none⟩=some (.int .i64 (zk:Int)):=(HBY.out.below HWC.out).cell 0
      have gy1:wka3.cell? ⟨gy,1,none⟩=some (.string ⟨zn.toArray⟩):=(HBY.out.below HWC.out).cell 1
      have gy2:wka3.cell? ⟨gy,2,none⟩=some (.string ⟨zt.toArray⟩):=(HBY.out.below HWC.out).cell 2
      have gy3:wka3.cell? ⟨gy,3,none⟩=some (.int .i64 (yi:Int)):=(HBY.out.below HWC.out).cell 3
      have gy4:wka3.cell? ⟨gy,4,none⟩=some (.int .i64 ym):=(HBY.out.below HWC.out).cell 4
      have gy5:wka3.cell? ⟨gy,5,none⟩=some (.int .u64 (yd:Int)):=(HBY.out.below HWC.out).cell 5
      have gy6:wka3.cell? ⟨gy,6,none⟩=some (.string ⟨ys.toArray⟩):=(HBY.out.below HWC.out).cell 6
      have gy7:wka3.cell? ⟨gy,7,none⟩=some (.slice yA yu yc):=(HBY.out.below HWC.out).cell 7
      have gy8:wka3.cell? ⟨gy,8,none⟩=some (.slice yB yv yg):=(HBY.out.below HWC.out).cell 8
      have gy9:wka3.cell? ⟨gy,9,none⟩=some (.slice yC fm.length yh):=(HBY.out.below HWC.out).cell 9
      have gy10:wka3.cell? ⟨gy,10,none⟩=some (.string ⟨ye.toArray⟩):=(HBY.out.below HWC.out).cell 10
      have gy11:wka3.cell? ⟨gy,11,none⟩=some (.slice yD gb.length yj):=(HBY.out.below HWC.out).cell 11
      cases Ra3 with
      | false =>
       have HRF:Hid (R=false):=by unfold Hid;rw [HRE.out];simp [hRa3.out]
       go_wp2_with fail
       go_ret
       rw [HRF.out]
       exact ⟨rfl,HWX.out⟩
      | true =>
       obtain ⟨Ra4,hRa4⟩:∃ R,Hid (allEq eqF ff gf=R):=⟨_,Lib.hid rfl⟩
       have hcall:=dsameFields wka3 (.slice zB zv zg) (.slice yB yv yg) ff gf (LF.lasts (mvAn HWX.out) HXF.out) (LF.lasts (mvAn HWX.out) HYF.out) HCO.out.2.1.1 HCO.out.2.1.2
       rw [hRa4.out] at hcall
       have HCA:=Lib.hid hcall
       clear hcall
       go_wp2_with fail
       refine HCA.out.mono ?_;rintro e wka4 ⟨rfl,hnx⟩
       have HWX:=Lib.hid (HWX.out.trans hnx)
       have HWC:=Lib.hid (HWC.out.trans hnx)
       clear hnx gx0 gy0 gx1 gy1 gx2 gy2 gx3 gy3 gx4 gy4 gx5 gy5 gx6 gy6 gx7 gy7 gx8 gy8 gx9 gy9 gx10 gy10 gx11 gy11 HCA
       have gx0:wka4.cell? ⟨gx,0,none⟩=some (.int .i64 (zk:Int)):=(HBX.out.below HWC.out).cell 0
       have gx1:wka4.cell? ⟨gx,1,none⟩=some (.string ⟨zn.toArray⟩):=(HBX.out.below HWC.out).cell 1
       have gx2:wka4.cell? ⟨gx,2,none⟩=some (.string ⟨zt.toArray⟩):=(HBX.out.below HWC.out).cell 2
       have gx3:wka4.cell? ⟨gx,3,none⟩=some (.int .i64 (zi:Int)):=(HBX.out.below HWC.out).cell 3
       have gx4:wka4.cell? ⟨gx,4,none⟩=some (.int .i64 zm):=(HBX.out.below HWC.out).cell 4
       have gx5:wka4.cell? ⟨gx,5,none⟩=some (.int .u64 (zd:Int)):=(HBX.out.below HWC.out).cell 5
       have gx6:wka4.cell? ⟨gx,6,none⟩=some (.string ⟨zs.toArray⟩):=(HBX.out.below HWC.out).cell 6
       have gx7:wka4.cell? ⟨gx,7,none⟩=some (.slice zA zu zc):=(HBX.out.below HWC.out).cell 7
       have gx8:wka4.cell? ⟨gx,8,none⟩=some (.slice zB zv zg):=(HBX.out.below HWC.out).cell 8
       have gx9:wka4.cell? ⟨gx,9,none⟩=some (.slice zC fm.length zh):=(HBX.out.below HWC.out).cell 9
       have gx10:wka4.cell? ⟨gx,10,none⟩=some (.string ⟨ze.toArray⟩):=(HBX.out.below HWC.out).cell 10
       have gx11:wka4.cell? ⟨gx,11,none⟩=some (.slice zD fb.length zj):=(HBX.out.below HWC.out).cell 11
       have gy0:wka4.cell? ⟨gy,0,none⟩=some (.int .i64 (zk:Int)):=(HBY.out.below HWC.out).cell 0
       have gy1:wka4.cell? ⟨gy,1,none⟩=some (.string ⟨zn.toArray⟩):=(HBY.out.below HWC.out).cell 1
       have gy2:wka4.cell? ⟨gy,2,none⟩=some (.string ⟨zt.toArray⟩):=(HBY.out.below HWC.out).cell 2
       have gy3:wka4.cell? ⟨gy,3,none⟩=some (.int .i64 (yi:Int)):=(HBY.out.below HWC.out).cell 3
       have gy4:wka4.cell? ⟨gy,4,none⟩=some (.int .i64 ym):=(HBY.out.below HWC.out).cell 4
       have gy5:wka4.cell? ⟨gy,5,none⟩=some (.int .u64 (yd:Int)):=(HBY.out.below HWC.out).cell 5
       have gy6:wka4.cell? ⟨gy,6,none⟩=some (.string ⟨ys.toArray⟩):=(HBY.out.below HWC.out).cell 6
       have gy7:wka4.cell? ⟨gy,7,none⟩=some (.slice yA yu yc):=(HBY.out.below HWC.out).cell 7
       have gy8:wka4.cell? ⟨gy,8,none⟩=some (.slice yB yv yg):=(HBY.out.below HWC.out).cell 8
       have gy9:wka4.cell? ⟨gy,9,none⟩=some (.slice yC fm.length yh):=(HBY.out.below HWC.out).cell 9
       have gy10:wka4.cell? ⟨gy,10,none⟩=some (.string ⟨ye.toArray⟩):=(HBY.out.below HWC.out).cell 10
       have gy11:wka4.cell? ⟨gy,11,none⟩=some (.slice yD gb.length yj):=(HBY.out.below HWC.out).cell 11
       cases Ra4 with
       | false =>
        have HRF:Hid (R=false):=by unfold Hid;rw [HRE.out];simp [hRa4.out]
        go_wp2_with fail
        go_ret
        rw [HRF.out]
        exact ⟨rfl,HWX.out⟩
       | true =>
        by_cases h5:ze=ye
        ·subst h5
         have HRF:Hid (R=false):=by unfold Hid;rw [HRE.out];simp [HNE.out]
         go_wp2_with fail
         go_ret
         rw [HRF.out]
         exact ⟨rfl,HWX.out⟩
        ·have HRF:Hid (R=false):=by unfold Hid;rw [HRE.out];simp [h5]
         obtain ⟨S,hS⟩:∃ S:ByteArray,(⟨ze.toArray⟩:ByteArray)=S:=⟨_,rfl⟩
         obtain ⟨T,hT⟩:∃ T:ByteArray,(⟨ye.toArray⟩:ByteArray)=T:=⟨_,rfl⟩
         have hst:S.toList≠T.toList:=by rw [← hS,← hT,(Tx.of ze).toL,(Tx.of ye).toL];exact h5
         have hst1:¬ S.toList=T.toList:=hst
         have hst2:(S.toList == T.toList)=false:=by rw [beq_eq_false_iff_ne];exact hst
         have hst4:(S.toList != T.toList)=true:=by rw [bne_iff_ne];exact hst
         have hst3:¬ S=T:=fun e=>hst (by rw [e])
         rw [hS] at gx10
         rw [hT] at gy10
         clear h5 hst hS hT
         go_wp2_with fail
         go_ret
         rw [HRF.out]
         exact ⟨rfl,HWX.out⟩
     ·have HRF:Hid (R=false):=by unfold Hid;rw [HRE.out];simp [h2]
      obtain ⟨S,hS⟩:∃ S:ByteArray,(⟨zt.toArray⟩:ByteArray)=S:=⟨_,rfl⟩
      obtain ⟨T,hT⟩:∃ T:ByteArray,(⟨yt.toArray⟩:ByteArray)=T:=⟨_,rfl⟩
      have hst:S.toList≠T.toList:=by rw [← hS,← hT,(Tx.of zt).toL,(Tx.of yt).toL];exact h2
      have hst1:¬ S.toList=T.toList:=hst
      have hst2:(S.toList == T.toList)=false:=by rw [beq_eq_false_iff_ne];exact hst
      have hst4:(S.toList != T.toList)=true:=by rw [bne_iff_ne];exact hst
      have hst3:¬ S=T:=fun e=>hst (by rw [e])
      rw [hS] at gx2
      rw [hT] at gy2
      clear h2 hst hS hT
      go_wp2_with fail
      go_ret
      rw [HRF.out]
      exact ⟨rfl,HWX.out⟩
    ·have HRF:Hid (R=false):=by unfold Hid;rw [HRE.out];simp [h1]
     obtain ⟨S,hS⟩:∃ S:ByteArray,(⟨zn.toArray⟩:ByteArray)=S:=⟨_,rfl⟩
     obtain ⟨T,hT⟩:∃ T:ByteArray,(⟨yn.toArray⟩:ByteArray)=T:=⟨_,rfl⟩
     have hst:S.toList≠T.toList:=by rw [← hS,← hT,(Tx.of zn).toL,(Tx.of yn).toL];exact h1
     have hst1:¬ S.toList=T.toList:=hst
     have hst2:(S.toList == T.toList)=false:=by rw [beq_eq_false_iff_ne];exact hst
     have hst4:(S.toList != T.toList)=true:=by rw [bne_iff_ne];exact hst
     have hst3:¬ S=T:=fun e=>hst (by rw [e])
     rw [hS] at gx1
     rw [hT] at gy1
     clear h1 hst hS hT
     go_wp2_with fail
     go_ret
     rw [HRF.out]
     exact ⟨rfl,HWX.out⟩
   ·have HRF:Hid (R=false):=by unfold Hid;rw [HRE.out];simp [h0]
    have t0:((zk:Int) == (yk:Int))=false:=by rw [beq_eq_false_iff_ne];omega
    have t0':¬ (zk:Int)=(yk:Int):=by omega
    have t0'':((zk:Int) != (yk:Int))=true:=by rw [bne_iff_ne];omega
    clear h0
    go_wp2_with fail
    go_ret
    rw [HRF.out]
    exact ⟨rfl,HWX.out⟩
 ·have HNE:Hid (allEq eqMm fm gm=false):=allEq_len hm
  have t9:((fm.length:Int) != (gm.length:Int))=true:=by rw [bne_iff_ne];omega
  have t9':¬ (fm.length:Int)=(gm.length:Int):=by omega
  clear hm hym hyt
  obtain ⟨gx,hgx⟩:∃ g,w.heap.size=g:=⟨_,rfl⟩
  have hBx:=Blk.new w #[.int .i64 (zk:Int),.string ⟨zn.toArray⟩,.string ⟨zt.toArray⟩,.int .i64 (zi:Int),.int .i64 zm,.int .u64 (zd:Int),.string ⟨zs.toArray⟩,.slice zA zu zc,.slice zB zv zg,.slice zC fm.length zh,.string ⟨ze.toArray⟩,.slice zD fb.length zj] 55
  rw [hgx] at hBx
  have hn1:Nx w (w.alloc (.cells #[.int .i64 (zk:Int),.string ⟨zn.toArray⟩,.string ⟨zt.toArray⟩,.int .i64 (zi:Int),.int .i64 zm,.int .u64 (zd:Int),.string ⟨zs.toArray⟩,.slice zA zu zc,.slice zB zv zg,.slice zC fm.length zh,.string ⟨ze.toArray⟩,.slice zD fb.length zj] 55)):=nx0 _ _
  have hs1:(w.alloc (.cells #[.int .i64 (zk:Int),.string ⟨zn.toArray⟩,.string ⟨zt.toArray⟩,.int .i64 (zi:Int),.int .i64 zm,.int .u64 (zd:Int),.string ⟨zs.toArray⟩,.slice zA zu zc,.slice zB zv zg,.slice zC fm.length zh,.string ⟨ze.toArray⟩,.slice zD fb.length zj] 55)).heap.size=w.heap.size+1:=by simp
  rw [hgx] at hs1
  obtain ⟨gy,hgy⟩:∃ g,gx+1=g:=⟨_,rfl⟩
  rw [hgy] at hs1
  have HBX:=Lib.hid hBx
  have HN1:=Lib.hid hn1
  clear hBx hn1
  show Calls _ _ #[.agg #[.int .i64 (zk:Int),.string ⟨zn.toArray⟩,.string ⟨zt.toArray⟩,.int .i64 (zi:Int),.int .i64 zm,.int .u64 (zd:Int),.string ⟨zs.toArray⟩,.slice zA zu zc,.slice zB zv zg,.slice zC fm.length zh,.string ⟨ze.toArray⟩,.slice zD fb.length zj],.agg #[.int .i64 (yk:Int),.string ⟨yn.toArray⟩,.string ⟨yt.toArray⟩,.int .i64 (yi:Int),.int .i64 ym,.int .u64 (yd:Int),.string ⟨ys.toArray⟩,.slice yA yu yc,.slice yB yv yg,.slice yC gm.length yh,.string ⟨ye.toArray⟩,.slice yD gb.length yj]] _ _
  go_enter Tryz.func34,Tryz.ntmps34
  go_upto_region 1 with fail
  generalize hW1:World.alloc w _=W1 at *
  have hBy:=Blk.new W1 #[.int .i64 (yk:Int),.string ⟨yn.toArray⟩,.string ⟨yt.toArray⟩,.int .i64 (yi:Int),.int .i64 ym,.int .u64 (yd:Int),.string ⟨ys.toArray⟩,.slice yA yu yc,.slice yB yv yg,.slice yC gm.length yh,.string ⟨ye.toArray⟩,.slice yD gb.length yj] 55
  have hn2:Nx W1 (W1.alloc (.cells #[.int .i64 (yk:Int),.string ⟨yn.toArray⟩,.string ⟨yt.toArray⟩,.int .i64 (yi:Int),.int .i64 ym,.int .u64 (yd:Int),.string ⟨ys.toArray⟩,.slice yA yu yc,.slice yB yv yg,.slice yC gm.length yh,.string ⟨ye.toArray⟩,.slice yD gb.length yj] 55)):=nx0 _ _
  rw [hs1] at hBy
  have hBx:=HBX.out.below hn2
  generalize World.alloc W1 _=W at *
  have HBX:=Lib.hid hBx
  have HBY:=Lib.hid hBy
  have HWX:=Lib.hid (HN1.out.trans hn2)
  have HWC:Hid (Nx W W):=Nx.refl _
  clear hW1 hBx hBy hn2 hs1 hgx hgy HN1
  have gx0:W.cell? ⟨gx,0,none⟩=some (.int .i64 (zk:Int)):=HBX.out.cell 0
  have gx1:W.cell? ⟨gx,1,none⟩=some (.string ⟨zn.toArray⟩):=HBX.out.cell 1
  have gx2:W.cell? ⟨gx,2,none⟩=some (.string ⟨zt.toArray⟩):=HBX.out.cell 2
  have gx3:W.cell? ⟨gx,3,none⟩=some (.int .i64 (zi:Int)):=HBX.out.cell 3
  have gx4:W.cell? ⟨gx,4,none⟩=some (.int .i64 zm):=HBX.out.cell 4
  have gx5:W.cell? ⟨gx,5,none⟩=some (.int .u64 (zd:Int)):=HBX.out.cell 5
  have gx6:W.cell? ⟨gx,6,none⟩=some (.string ⟨zs.toArray⟩):=HBX.out.cell 6
  have gx7:W.cell? ⟨gx,7,none⟩=some (.slice zA zu zc):=HBX.out.cell 7
  have gx8:W.cell? ⟨gx,8,none⟩=some (.slice zB zv zg):=HBX.out.cell 8
  have gx9:W.cell? ⟨gx,9,none⟩=some (.slice zC fm.length zh):=HBX.out.cell 9
  have gx10:W.cell? ⟨gx,10,none⟩=some (.string ⟨ze.toArray⟩):=HBX.out.cell 10
  have gx11:W.cell? ⟨gx,11,none⟩=some (.slice zD fb.length zj):=HBX.out.cell 11
  have gy0:W.cell? ⟨gy,0,none⟩=some (.int .i64 (yk:Int)):=HBY.out.cell 0
  have gy1:W.cell? ⟨gy,1,none⟩=some (.string ⟨yn.toArray⟩):=HBY.out.cell 1
  have gy2:W.cell? ⟨gy,2,none⟩=some (.string ⟨yt.toArray⟩):=HBY.out.cell 2
  have gy3:W.cell? ⟨gy,3,none⟩=some (.int .i64 (yi:Int)):=HBY.out.cell 3
  have gy4:W.cell? ⟨gy,4,none⟩=some (.int .i64 ym):=HBY.out.cell 4
  have gy5:W.cell? ⟨gy,5,none⟩=some (.int .u64 (yd:Int)):=HBY.out.cell 5
  have gy6:W.cell? ⟨gy,6,none⟩=some (.string ⟨ys.toArray⟩):=HBY.out.cell 6
  have gy7:W.cell? ⟨gy,7,none⟩=some (.slice yA yu yc):=HBY.out.cell 7
  have gy8:W.cell? ⟨gy,8,none⟩=some (.slice yB yv yg):=HBY.out.cell 8
  have gy9:W.cell? ⟨gy,9,none⟩=some (.slice yC gm.length yh):=HBY.out.cell 9
  have gy10:W.cell? ⟨gy,10,none⟩=some (.string ⟨ye.toArray⟩):=HBY.out.cell 10
  have gy11:W.cell? ⟨gy,11,none⟩=some (.slice yD gb.length yj):=HBY.out.cell 11
  by_cases h0:zk=yk
  ·subst h0
   by_cases h1:zn=yn
   ·subst h1
    by_cases h2:zt=yt
    ·subst h2
     obtain ⟨Ra3,hRa3⟩:∃ R,Hid (eqC 13 fc gc=R):=⟨_,Lib.hid rfl⟩
     have hcall:=dsameConst 13 W ⟨zi,zm,zd,zs,.slice zA zu zc⟩ ⟨yi,ym,yd,ys,.slice yA yu yc⟩ fc gc (RC.lasts 13 (mvAn HWX.out) HXC.out) (RC.lasts 13 (mvAn HWX.out) HYC.out) HCO.out.1
     rw [hRa3.out] at hcall
     have HCA:=Lib.hid hcall
     clear hcall
     go_wp2_with fail
     refine HCA.out.mono ?_;rintro e wka3 ⟨rfl,hnx⟩
     have HWX:=Lib.hid (HWX.out.trans hnx)
     have HWC:=Lib.hid (HWC.out.trans hnx)
     clear hnx gx0 gy0 gx1 gy1 gx2 gy2 gx3 gy3 gx4 gy4 gx5 gy5 gx6 gy6 gx7 gy7 gx8 gy8 gx9 gy9 gx10 gy10 gx11 gy11 HCA
     have gx0:wka3.cell? ⟨gx,0,none⟩=some (.int .i64 (zk:Int)):=(HBX.out.below HWC.out).cell 0
     have gx1:wka3.cell? ⟨gx,1,none⟩=some (.string ⟨zn.toArray⟩):=(HBX.out.below HWC.out).cell 1
     have gx2:wka3.cell? ⟨gx,2,none⟩=some (.string ⟨zt.toArray⟩):=(HBX.out.below HWC.out).cell 2
     have gx3:wka3.cell? ⟨gx,3,none⟩=some (.int .i64 (zi:Int)):=(HBX.out.below HWC.out).cell 3
     have gx4:wka3.cell? ⟨gx,4,none⟩=some (.int .i64 zm):=(HBX.out.below HWC.out).cell 4
     have gx5:wka3.cell? ⟨gx,5,none⟩=some (.int .u64 (zd:Int)):=(HBX.out.below HWC.out).cell 5
     have gx6:wka3.cell? ⟨gx,6,none⟩=some (.string ⟨zs.toArray⟩):=(HBX.out.below HWC.out).cell 6
     have gx7:wka3.cell? ⟨gx,7,none⟩=some (.slice zA zu zc):=(HBX.out.below HWC.out).cell 7
     have gx8:wka3.cell? ⟨gx,8,none⟩=some (.slice zB zv zg):=(HBX.out.below HWC.out).cell 8
     have gx9:wka3.cell? ⟨gx,9,none⟩=some (.slice zC fm.length zh):=(HBX.out.below HWC.out).cell 9
     have gx10:wka3.cell? ⟨gx,10,none⟩=some (.string ⟨ze.toArray⟩):=(HBX.out.below HWC.out).cell 10
     have gx11:wka3.cell? ⟨gx,11,none⟩=some (.slice zD fb.length zj):=(HBX.out.below HWC.out).cell 11
     have gy0:wka3.cell? ⟨gy,0,none⟩=some (.int .i64 (zk:Int)):=(HBY.out.below HWC.out).cell 0
     have gy1:wka3.cell? ⟨gy,1,none⟩=some (.string ⟨zn.toArray⟩):=(HBY.out.below HWC.out).cell 1
     have gy2:wka3.cell? ⟨gy,2,none⟩=some (.string ⟨zt.toArray⟩):=(HBY.out.below HWC.out).cell 2
     have gy3:wka3.cell? ⟨gy,3,none⟩=some (.int .i64 (yi:Int)):=(HBY.out.below HWC.out).cell 3
     have gy4:wka3.cell? ⟨gy,4,none⟩=some (.int .i64 ym):=(HBY.out.below HWC.out).cell 4
     have gy5:wka3.cell? ⟨gy,5,none⟩=some (.int .u64 (yd:Int)):=(HBY.out.below HWC.out).cell 5
     have gy6:wka3.cell? ⟨gy,6,none⟩=some (.string ⟨ys.toArray⟩):=(HBY.out.below HWC.out).cell 6
     have gy7:wka3.cell? ⟨gy,7,none⟩=some (.slice yA yu yc):=(HBY.out.below HWC.out).cell 7
     have gy8:wka3.cell? ⟨gy,8,none⟩=some (.slice yB yv yg):=(HBY.out.below HWC.out).cell 8
     have gy9:wka3.cell? ⟨gy,9,none⟩=some (.slice yC gm.length yh):=(HBY.out.below HWC.out).cell 9
     have gy10:wka3.cell? ⟨gy,10,none⟩=some (.string ⟨ye.toArray⟩):=(HBY.out.below HWC.out).cell 10
     have gy11:wka3.cell? ⟨gy,11,none⟩=some (.slice yD gb.length yj):=(HBY.out.below HWC.out).cell 11
     cases Ra3 with
     | false =>
      have HRF:Hid (R=false):=by unfold Hid;rw [HRE.out];simp [hRa3.out]
      go_wp2_with fail
      go_ret
      rw [HRF.out]
      exact ⟨rfl,HWX.out⟩
     | true =>
      obtain ⟨Ra4,hRa4⟩:∃ R,Hid (allEq eqF ff gf=R):=⟨_,Lib.hid rfl⟩
      have hcall:=dsameFields wka3 (.slice zB zv zg) (.slice yB yv yg) ff gf (LF.lasts (mvAn HWX.out) HXF.out) (LF.lasts (mvAn HWX.out) HYF.out) HCO.out.2.1.1 HCO.out.2.1.2
      rw [hRa4.out] at hcall
      have HCA:=Lib.hid hcall
      clear hcall
      go_wp2_with fail
      refine HCA.out.mono ?_;rintro e wka4 ⟨rfl,hnx⟩
      have HWX:=Lib.hid (HWX.out.trans hnx)
      have HWC:=Lib.hid (HWC.out.trans hnx)
      clear hnx gx0 gy0 gx1 gy1 gx2 gy2 gx3 gy3 gx4 gy4 gx5 gy5 gx6 gy6 gx7 gy7 gx8 gy8 gx9 gy9 gx10 gy10 gx11 gy11 HCA
      have gx0:wka4.cell? ⟨gx,0,none⟩=some (.int .i64 (zk:Int)):=(HBX.out.below HWC.out).cell 0
      have gx1:wka4.cell? ⟨gx,1,none⟩=some (.string ⟨zn.toArray⟩):=(HBX.out.below HWC.out).cell 1
      have gx2:wka4.cell? ⟨gx,2,none⟩=some (.string ⟨zt.toArray⟩):=(HBX.out.below HWC.out).cell 2
      have gx3:wka4.cell? ⟨gx,3,none⟩=some (.int .i64 (zi:Int)):=(HBX.out.below HWC.out).cell 3
      have gx4:wka4.cell? ⟨gx,4,none⟩=some (.int .i64 zm):=(HBX.out.below HWC.out).cell 4
      have gx5:wka4.cell? ⟨gx,5,none⟩=some (.int .u64 (zd:Int)):=(HBX.out.below HWC.out).cell 5
      have gx6:wka4.cell? ⟨gx,6,none⟩=some (.string ⟨zs.toArray⟩):=(HBX.out.below HWC.out).cell 6
      have gx7:wka4.cell? ⟨gx,7,none⟩=some (.slice zA zu zc):=(HBX.out.below HWC.out).cell 7
      have gx8:wka4.cell? ⟨gx,8,none⟩=some (.slice zB zv zg):=(HBX.out.below HWC.out).cell 8
      have gx9:wka4.cell? ⟨gx,9,none⟩=some (.slice zC fm.length zh):=(HBX.out.below HWC.out).cell 9
      have gx10:wka4.cell? ⟨gx,10,none⟩=some (.string ⟨ze.toArray⟩):=(HBX.out.below HWC.out).cell 10
      have gx11:wka4.cell? ⟨gx,11,none⟩=some (.slice zD fb.length zj):=(HBX.out.below HWC.out).cell 11
      have gy0:wka4.cell? ⟨gy,0,none⟩=some (.int .i64 (zk:Int)):=(HBY.out.below HWC.out).cell 0
      have gy1:wka4.cell? ⟨gy,1,none⟩=some (.string ⟨zn.toArray⟩):=(HBY.out.below HWC.out).cell 1
      have gy2:wka4.cell? ⟨gy,2,none⟩=some (.string ⟨zt.toArray⟩):=(HBY.out.below HWC.out).cell 2
      have gy3:wka4.cell? ⟨gy,3,none⟩=some (.int .i64 (yi:Int)):=(HBY.out.below HWC.out).cell 3
      have gy4:wka4.cell? ⟨gy,4,none⟩=some (.int .i64 ym):=(HBY.out.below HWC.out).cell 4
      have gy5:wka4.cell? ⟨gy,5,none⟩=some (.int .u64 (yd:Int)):=(HBY.out.below HWC.out).cell 5
      have gy6:wka4.cell? ⟨gy,6,none⟩=some (.string ⟨ys.toArray⟩):=(HBY.out.below HWC.out).cell 6
      have gy7:wka4.cell? ⟨gy,7,none⟩=some (.slice yA yu yc):=(HBY.out.below HWC.out).cell 7
      have gy8:wka4.cell? ⟨gy,8,none⟩=some (.slice yB yv yg):=(HBY.out.below HWC.out).cell 8
      have gy9:wka4.cell? ⟨gy,9,none⟩=some (.slice yC gm.length yh):=(HBY.out.below HWC.out).cell 9
      have gy10:wka4.cell? ⟨gy,10,none⟩=some (.string ⟨ye.toArray⟩):=(HBY.out.below HWC.out).cell 10
      have gy11:wka4.cell? ⟨gy,11,none⟩=some (.slice yD gb.length yj):=(HBY.out.below HWC.out).cell 11
      cases Ra4 with
      | false =>
       have HRF:Hid (R=false):=by unfold Hid;rw [HRE.out];simp [hRa4.out]
       go_wp2_with fail
       go_ret
       rw [HRF.out]
       exact ⟨rfl,HWX.out⟩
      | true =>
       by_cases h5:ze=ye
       ·subst h5
        have HRF:Hid (R=false):=by unfold Hid;rw [HRE.out];simp [HNE.out]
        go_wp2_with fail
        go_ret
        rw [HRF.out]
        exact ⟨rfl,HWX.out⟩
       ·have HRF:Hid (R=false):=by unfold Hid;rw [HRE.out];simp [h5]
        obtain ⟨S,hS⟩:∃ S:ByteArray,(⟨ze.toArray⟩:ByteArray)=S:=⟨_,rfl⟩
        obtain ⟨T,hT⟩:∃ T:ByteArray,(⟨ye.toArray⟩:ByteArray)=T:=⟨_,rfl⟩
        have hst:S.toList≠T.toList:=by rw [← hS,← hT,(Tx.of ze).toL,(Tx.of ye).toL];exact h5
        have hst1:¬ S.toList=T.toList:=hst
        have hst2:(S.toList == T.toList)=false:=by rw [beq_eq_false_iff_ne];exact hst
        have hst4:(S.toList != T.toList)=true:=by rw [bne_iff_ne];exact hst
        have hst3:¬ S=T:=fun e=>hst (by rw [e])
        rw [hS] at gx10
        rw [hT] at gy10
        clear h5 hst hS hT
        go_wp2_with fail
        go_ret
        rw [HRF.out]
        exact ⟨rfl,HWX.out⟩
    ·have HRF:Hid (R=false):=by unfold Hid;rw [HRE.out];simp [h2]
     obtain ⟨S,hS⟩:∃ S:ByteArray,(⟨zt.toArray⟩:ByteArray)=S:=⟨_,rfl⟩
     obtain ⟨T,hT⟩:∃ T:ByteArray,(⟨yt.toArray⟩:ByteArray)=T:=⟨_,rfl⟩
     have hst:S.toList≠T.toList:=by rw [← hS,← hT,(Tx.of zt).toL,(Tx.of yt).toL];exact h2
     have hst1:¬ S.toList=T.toList:=hst
     have hst2:(S.toList == T.toList)=false:=by rw [beq_eq_false_iff_ne];exact hst
     have hst4:(S.toList != T.toList)=true:=by rw [bne_iff_ne];exact hst
     have hst3:¬ S=T:=fun e=>hst (by rw [e])
     rw [hS] at gx2
     rw [hT] at gy2
     clear h2 hst hS hT
     go_wp2_with fail
     go_ret
     rw [HRF.out]
     exact ⟨rfl,HWX.out⟩
   ·have HRF:Hid (R=false):=by unfold Hid;rw [HRE.out];simp [h1]
    obtain ⟨S,hS⟩:∃ S:ByteArray,(⟨zn.toArray⟩:ByteArray)=S:=⟨_,rfl⟩
    obtain ⟨T,hT⟩:∃ T:ByteArray,(⟨yn.toArray⟩:ByteArray)=T:=⟨_,rfl⟩
    have hst:S.toList≠T.toList:=by rw [← hS,← hT,(Tx.of zn).toL,(Tx.of yn).toL];exact h1
    have hst1:¬ S.toList=T.toList:=hst
    have hst2:(S.toList == T.toList)=false:=by rw [beq_eq_false_iff_ne];exact hst
    have hst4:(S.toList != T.toList)=true:=by rw [bne_iff_ne];exact hst
    have hst3:¬ S=T:=fun e=>hst (by rw [e])
    rw [hS] at gx1
    rw [hT] at gy1
    clear h1 hst hS hT
    go_wp2_with fail
    go_ret
    rw [HRF.out]
    exact ⟨rfl,HWX.out⟩
  ·have HRF:Hid (R=false):=by unfold Hid;rw [HRE.out];simp [h0]
   have t0:((zk:Int) == (yk:Int))=false:=by rw [beq_eq_false_iff_ne];omega
   have t0':¬ (zk:Int)=(yk:Int):=by omega
   have t0'':((zk:Int) != (yk:Int))=true:=by rw [bne_iff_ne];omega
   clear h0
   go_wp2_with fail
   go_ret
   rw [HRF.out]
   exact ⟨rfl,HWX.out⟩
end Go.Proofs.YtjggghfekakogaaGreatDoor
