/- The code's test whether fields, methods, definitions, files are the same. slices.Equal at members and at spaces. -/
import Derived.Test.YtjggghfekakogaaGreatDoorH19
import Derived.Test.YtjggghfekakogaaGreatDoorShelf
import Derived.Laws.EntriesVeiled
import Derived.BigQuiet
import Derived.Deep.QuietTactic
import Derived.Shelf.SlicesE.Equal
import Derived.Laws.StructEq
set_option linter.unusedVariables false
set_option linter.unusedSimpArgs false
set_option linter.unnecessarySimpa false
namespace Go.Proofs.YtjggghfekakogaaGreatDoor
open Go.RowKit
def An (_:Nat):Prop:=True
theorem mvAn {P:Nat→Prop} {w w':World} (h:Nx w w'):Mv P An w w':=⟨fun g _ hl=>h.block g hl,fun _ _ _=>trivial⟩
set_option maxRecDepth 100000 in
set_option maxHeartbeats 3200000 in
theorem sameConst_any (w:World) (P Q:Nat→Prop) (x y:ConS) (c d:Con) (hx:RC 13 w P x c) (hy:RC 13 w Q y d) (hn:nodC 13 c≤64000) :
  Calls Tryz.prog 97 #[.agg (conA x),.agg (conA y)] w fun e w'=>e = .returned (.bool (eqC 13 c d))∧Nx w w':=by
 obtain ⟨xk,xi,xd,xs,xl⟩:=x
 obtain ⟨yk,yi,yd,ys,yl⟩:=y
 obtain ⟨A1,n1,a1,hx1⟩:=hx.slv
 obtain ⟨A2,n2,a2,hx2⟩:=hy.slv
 dsimp only at hx1 hx2
 subst hx1 hx2
 obtain ⟨R,hR⟩:∃ R,Hid (eqC 13 c d=R):=⟨_,Lib.hid rfl⟩
 rw [hR.out]
 have HX:=Lib.hid hx
 have HY:=Lib.hid hy
 have HN:=Lib.hid hn
 obtain ⟨gx,hgx⟩:∃ g,w.heap.size=g:=⟨_,rfl⟩
 have hBx:=Blk.new w #[.int .i64 (xk:Int),.int .i64 xi,.int .u64 (xd:Int),.string ⟨xs.toArray⟩,.slice A1 n1 a1] 48
 rw [hgx] at hBx
 have hn1:Nx w (w.alloc (.cells #[.int .i64 (xk:Int),.int .i64 xi,.int .u64 (xd:Int),.string ⟨xs.toArray⟩,.slice A1 n1 a1] 48)):=nx0 _ _
 have hs1:(w.alloc (.cells #[.int .i64 (xk:Int),.int .i64 xi,.int .u64 (xd:Int),.string ⟨xs.toArray⟩,.slice A1 n1 a1] 48)).heap.size=w.heap.size+1:=by simp
 rw [hgx] at hs1
 obtain ⟨gy,hgy⟩:∃ g,gx+1=g:=⟨_,rfl⟩
 rw [hgy] at hs1
 have HBX:=Lib.hid hBx
 have HN1:=Lib.hid hn1
 have HGX:=Lib.hid hgx
 clear hx hy hn hBx hn1
 show Calls _ _ #[.agg #[.int .i64 (xk:Int),.int .i64 xi,.int .u64 (xd:Int),.string ⟨xs.toArray⟩,.slice A1 n1 a1],.agg #[.int .i64 (yk:Int),.int .i64 yi,.int .u64 (yd:Int),.string ⟨ys.toArray⟩,.slice A2 n2 a2]] _ _
 go_enter Tryz.func97,Tryz.ntmps97
 go_upto_region 1 with fail
 generalize hW1:World.alloc w _=W1 at *
 have hBy:=Blk.new W1 #[.int .i64 (yk:Int),.int .i64 yi,.int .u64 (yd:Int),.string ⟨ys.toArray⟩,.slice A2 n2 a2] 48
 have hn2:Nx W1 (W1.alloc (.cells #[.int .i64 (yk:Int),.int .i64 yi,.int .u64 (yd:Int),.string ⟨ys.toArray⟩,.slice A2 n2 a2] 48)):=nx0 _ _
 rw [hs1] at hBy
 have hs2:(W1.alloc (.cells #[.int .i64 (yk:Int),.int .i64 yi,.int .u64 (yd:Int),.string ⟨ys.toArray⟩,.slice A2 n2 a2] 48)).heap.size=W1.heap.size+1:=by simp
 generalize World.alloc W1 _=W2 at *
 obtain ⟨gl,hgl⟩:∃ g,W2.heap.size=g:=⟨_,rfl⟩
 have HBY:=Lib.hid hBy
 have HBX2:=Lib.hid (HBX.out.below hn2)
 have HN2:=Lib.hid (HN1.out.trans hn2)
 have HS2:Hid (w.heap.size<gl):=by unfold Hid;rw [← hgl,hs2,hs1];have:=HGX.out;omega
 clear hW1 hBy hn2 hs1 hs2 hgx hgy HBX HN1
 go_upto_region 2 with fail
 have hBl:=Blk.new W2 #[.int .i64 64000] 3
 have hn3:Nx W2 (W2.alloc (.cells #[.int .i64 64000] 3)):=nx0 _ _
 rw [hgl] at hBl
 have hs3:(W2.alloc (.cells #[.int .i64 64000] 3)).heap.size=W2.heap.size+1:=by simp
 generalize World.alloc W2 _=W3 at *
 obtain ⟨gs,hgs⟩:∃ g,W3.heap.size=g:=⟨_,rfl⟩
 have HSS:Hid (gs=gl+1):=by unfold Hid;omega
 have HBL:=Lib.hid hBl
 have HBX3:=Lib.hid (HBX2.out.below hn3)
 have HBY3:=Lib.hid (HBY.out.below hn3)
 have HN3:=Lib.hid (HN2.out.trans hn3)
 clear hBl hn3 hs3 hgl HBX2 HBY HN2
 go_upto_region 4 with fail
 have hBs:=Blk.new W3 #[.func (.func 147) #[] #[.pointer (some ⟨gl,0,none⟩),.pointer (some ⟨gs,0,none⟩)]] 119
 have hn4:Nx W3 (W3.alloc (.cells #[.func (.func 147) #[] #[.pointer (some ⟨gl,0,none⟩),.pointer (some ⟨gs,0,none⟩)]] 119)):=nx0 _ _
 rw [hgs] at hBs
 generalize World.alloc W3 _=W4 at *
 have hcl:Cl gl gs 64000 W4:=⟨HBL.out.below hn4,hBs,by have:=HSS.out;omega⟩
 have HBX4:=HBX3.out.below hn4
 have HBY4:=HBY3.out.below hn4
 have HN4:=Lib.hid (HN3.out.trans hn4)
 have x0:W4.cell? ⟨gx,0,none⟩=some (.int .i64 (xk:Int)):=HBX4.cell 0
 have x1:W4.cell? ⟨gx,1,none⟩=some (.int .i64 xi):=HBX4.cell 1
 have x2:W4.cell? ⟨gx,2,none⟩=some (.int .u64 (xd:Int)):=HBX4.cell 2
 have x3:W4.cell? ⟨gx,3,none⟩=some (.string ⟨xs.toArray⟩):=HBX4.cell 3
 have x4:W4.cell? ⟨gx,4,none⟩=some (.slice A1 n1 a1):=HBX4.cell 4
 have y0:W4.cell? ⟨gy,0,none⟩=some (.int .i64 (yk:Int)):=HBY4.cell 0
 have y1:W4.cell? ⟨gy,1,none⟩=some (.int .i64 yi):=HBY4.cell 1
 have y2:W4.cell? ⟨gy,2,none⟩=some (.int .u64 (yd:Int)):=HBY4.cell 2
 have y3:W4.cell? ⟨gy,3,none⟩=some (.string ⟨ys.toArray⟩):=HBY4.cell 3
 have y4:W4.cell? ⟨gy,4,none⟩=some (.slice A2 n2 a2):=HBY4.cell 4
 have f0:W4.cell? ⟨gs,0,none⟩=some (.func (.func 147) #[] #[.pointer (some ⟨gl,0,none⟩),.pointer (some ⟨gs,0,none⟩)]):=hBs.cell 0
 have mv:∀ {P:Nat→Prop},Mv P (Ne gl) w W4:=⟨fun g _ hl=>HN4.out.block g hl,fun g _ hl e=>by have:=HS2.out;omega⟩
 have hcall:=sameConst1_any 13 W4 gl gs 64000 ⟨xk,xi,xd,xs,.slice A1 n1 a1⟩ ⟨yk,yi,yd,ys,.slice A2 n2 a2⟩ c d hcl (Int.le_refl _) (RC.lasts 13 mv HX.out) (RC.lasts 13 mv HY.out) (by have:=HN.out;omega)
 rw [hR.out] at hcall
 have HC:=Lib.hid hcall
 clear hBs hn4 hcl HBX4 HBY4 mv hcall hgs HBX3 HBY3 HBL HN3
 go_wp2_with fail
 refine HC.out.mono ?_;rintro e w5 ⟨rfl,ho,-⟩
 have HN5:=Lib.hid (ho.to HN4.out (Nat.le_of_lt HS2.out))
 clear ho x0 x1 x2 x3 x4 y0 y1 y2 y3 y4 f0
 go_wp2_with fail
 go_ret
 exact ⟨rfl,HN5.out⟩
def ndF (f:Fld):Prop:=nodC 13 f.ini≤64000
set_option maxRecDepth 100000 in
set_option maxHeartbeats 12800000 in
theorem sameField_any (w:World) (x y:FldS) (f g:Fld) (hx:RF w An x f) (hy:RF w An y g) (hco:ndF f) :
  Calls Tryz.prog 150 #[.agg (fldA x),.agg (fldA y)] w fun e w'=>e = .returned (.bool (eqF f g))∧Nx w w':=by
 obtain ⟨zh,zi,zq,zt,zn,zb,⟨zk,zm,zd,zs,zl⟩⟩:=x
 obtain ⟨yh,yi,yq,yt,yn,yb,⟨yk,ym,yd,ys,yl⟩⟩:=y
 obtain ⟨zA,zu,zc,rfl⟩:∃ A k cap,zl = .slice A k cap:=hx.2.2.2.2.2.2.slv
 obtain ⟨yA,yu,yc,rfl⟩:∃ A k cap,yl = .slice A k cap:=hy.2.2.2.2.2.2.slv
 obtain ⟨fh,fi,fq,ft,fn,fb,fc⟩:=f
 obtain ⟨gh,gi,gq,gt,gn,gb,gc⟩:=g
 obtain ⟨rfl,rfl,rfl,rfl,rfl,rfl,hcx⟩:zh=fh∧zi=fi∧zq=fq∧zt=ft∧zn=fn∧zb=fb∧RC 13 w An ⟨zk,zm,zd,zs,.slice zA zu zc⟩ fc:=hx
 obtain ⟨rfl,rfl,rfl,rfl,rfl,rfl,hcy⟩:yh=gh∧yi=gi∧yq=gq∧yt=gt∧yn=gn∧yb=gb∧RC 13 w An ⟨yk,ym,yd,ys,.slice yA yu yc⟩ gc:=hy
 have HCX:=Lib.hid hcx
 have HCY:=Lib.hid hcy
 clear hcx hcy
 obtain ⟨R,hR⟩:∃ R,Hid (eqF ⟨zh,zi,zq,zt,zn,zb,fc⟩ ⟨yh,yi,yq,yt,yn,yb,gc⟩=R):=⟨_,Lib.hid rfl⟩
 rw [hR.out]
 have hRe:R=((zh == yh) && (zi == yi) && (zq == yq) && (zt == yt) && (zn == yn) && (zb == yb) && eqC 13 fc gc):=hR.out.symm
 have HRE:=Lib.hid hRe
 have HCO:=Lib.hid hco
 obtain ⟨gx,hgx⟩:∃ g,w.heap.size=g:=⟨_,rfl⟩
 have hBx:=Blk.new w #[.bool zh,.int .i64 zi,.int .i64 (zq:Int),.string ⟨zt.toArray⟩,.string ⟨zn.toArray⟩,.bool zb,.int .i64 (zk:Int),.int .i64 zm,.int .u64 (zd:Int),.string ⟨zs.toArray⟩,.slice zA zu zc] 59
 rw [hgx] at hBx
 have hn1:Nx w (w.alloc (.cells #[.bool zh,.int .i64 zi,.int .i64 (zq:Int),.string ⟨zt.toArray⟩,.string ⟨zn.toArray⟩,.bool zb,.int .i64 (zk:Int),.int .i64 zm,.int .u64 (zd:Int),.string ⟨zs.toArray⟩,.slice zA zu zc] 59)):=nx0 _ _
 have hs1:(w.alloc (.cells #[.bool zh,.int .i64 zi,.int .i64 (zq:Int),.string ⟨zt.toArray⟩,.string ⟨zn.toArray⟩,.bool zb,.int .i64 (zk:Int),.int .i64 zm,.int .u64 (zd:Int),.string ⟨zs.toArray⟩,.slice zA zu zc] 59)).heap.size=w.heap.size+1:=by simp
 rw [hgx] at hs1
 obtain ⟨gy,hgy⟩:∃ g,gx+1=g:=⟨_,rfl⟩
 rw [hgy] at hs1
 have HBX:=Lib.hid hBx
 have HN1:=Lib.hid hn1
 clear hR hRe hco hBx hn1
 show Calls _ _ #[.agg #[.bool zh,.int .i64 zi,.int .i64 (zq:Int),.string ⟨zt.toArray⟩,.string ⟨zn.toArray⟩,.bool zb,.int .i64 (zk:Int),.int .i64 zm,.int .u64 (zd:Int),.string ⟨zs.toArray⟩,.slice zA zu zc],.agg #[.bool yh,.int .i64 yi,.int .i64 (yq:Int),.string ⟨yt.toArray⟩,.string ⟨yn.toArray⟩,.bool yb,.int .i64 (yk:Int),.int .i64 ym,.int .u64 (yd:Int),.string ⟨ys.toArray⟩,.slice yA yu yc]] _ _
 go_enter Tryz.func150,Tryz.ntmps150
 go_upto_region 1 with fail
 generalize hW1:World.alloc w _=W1 at *
 have hBy:=Blk.new W1 #[.bool yh,.int .i64 yi,.int .i64 (yq:Int),.string ⟨yt.toArray⟩,.string ⟨yn.toArray⟩,.bool yb,.int .i64 (yk:Int),.int .i64 ym,.int .u64 (yd:Int),.string ⟨ys.toArray⟩,.slice yA yu yc] 59
 have hn2:Nx W1 (W1.alloc (.cells #[.bool yh,.int .i64 yi,.int .i64 (yq:Int),.string ⟨yt.toArray⟩,.string ⟨yn.toArray⟩,.bool yb,.int .i64 (yk:Int),.int .i64 ym,.int .u64 (yd:Int),.string ⟨ys.toArray⟩,.slice yA yu yc] 59)):=nx0 _ _
 rw [hs1] at hBy
 have hBx:=HBX.out.below hn2
 generalize World.alloc W1 _=W at *
 have HBX:=Lib.hid hBx
 have HBY:=Lib.hid hBy
 have HWX:=Lib.hid (HN1.out.trans hn2)
 have HWC:Hid (Nx W W):=Nx.refl _
 clear hW1 hBx hBy hn2 hs1 hgx hgy HN1
 have gx0:W.cell? ⟨gx,0,none⟩=some (.bool zh):=HBX.out.cell 0
 have gx1:W.cell? ⟨gx,1,none⟩=some (.int .i64 zi):=HBX.out.cell 1
 have gx2:W.cell? ⟨gx,2,none⟩=some (.int .i64 (zq:Int)):=HBX.out.cell 2
 have gx3:W.cell? ⟨gx,3,none⟩=some (.string ⟨zt.toArray⟩):=HBX.out.cell 3
 have gx4:W.cell? ⟨gx,4,none⟩=some (.string ⟨zn.toArray⟩):=HBX.out.cell 4
 have gx5:W.cell? ⟨gx,5,none⟩=some (.bool zb):=HBX.out.cell 5
 have gx6:W.cell? ⟨gx,6,none⟩=some (.int .i64 (zk:Int)):=HBX.out.cell 6
 have gx7:W.cell? ⟨gx,7,none⟩=some (.int .i64 zm):=HBX.out.cell 7
 have gx8:W.cell? ⟨gx,8,none⟩=some (.int .u64 (zd:Int)):=HBX.out.cell 8
 have gx9:W.cell? ⟨gx,9,none⟩=some (.string ⟨zs.toArray⟩):=HBX.out.cell 9
 have gx10:W.cell? ⟨gx,10,none⟩=some (.slice zA zu zc):=HBX.out.cell 10
 have gy0:W.cell? ⟨gy,0,none⟩=some (.bool yh):=HBY.out.cell 0
 have gy1:W.cell? ⟨gy,1,none⟩=some (.int .i64 yi):=HBY.out.cell 1
 have gy2:W.cell? ⟨gy,2,none⟩=some (.int .i64 (yq:Int)):=HBY.out.cell 2
 have gy3:W.cell? ⟨gy,3,none⟩=some (.string ⟨yt.toArray⟩):=HBY.out.cell 3
 have gy4:W.cell? ⟨gy,4,none⟩=some (.string ⟨yn.toArray⟩):=HBY.out.cell 4
 have gy5:W.cell? ⟨gy,5,none⟩=some (.bool yb):=HBY.out.cell 5
 have gy6:W.cell? ⟨gy,6,none⟩=some (.int .i64 (yk:Int)):=HBY.out.cell 6
 have gy7:W.cell? ⟨gy,7,none⟩=some (.int .i64 ym):=HBY.out.cell 7
 have gy8:W.cell? ⟨gy,8,none⟩=some (.int .u64 (yd:Int)):=HBY.out.cell 8
 have gy9:W.cell? ⟨gy,9,none⟩=some (.string ⟨ys.toArray⟩):=HBY.out.cell 9
 have gy10:W.cell? ⟨gy,10,none⟩=some (.slice yA yu yc):=HBY.out.cell 10
 by_cases h0:zh=yh
 ·subst h0
  by_cases h1:zi=yi
  ·subst h1
   by_cases h2:zq=yq
   ·subst h2
    by_cases h3:zt=yt
    ·subst h3
     by_cases h4:zn=yn
     ·subst h4
      by_cases h5:zb=yb
      ·subst h5
       obtain ⟨R6,hR6⟩:∃ R,Hid (eqC 13 fc gc=R):=⟨_,Lib.hid rfl⟩
       have hcall6:=sameConst_any W An An ⟨zk,zm,zd,zs,.slice zA zu zc⟩ ⟨yk,ym,yd,ys,.slice yA yu yc⟩ fc gc (RC.lasts 13 (mvAn HWX.out) HCX.out) (RC.lasts 13 (mvAn HWX.out) HCY.out) HCO.out
       rw [hR6.out] at hcall6
       have HCA6:=Lib.hid hcall6
       clear hcall6
       go_wp2_with fail
       refine HCA6.out.mono ?_;rintro e wk6 ⟨rfl,hnx6⟩
       have HWX:=Lib.hid (HWX.out.trans hnx6)
       have HWC:=Lib.hid (HWC.out.trans hnx6)
       clear hnx6 gx0 gy0 gx1 gy1 gx2 gy2 gx3 gy3 gx4 gy4 gx5 gy5 gx6 gy6 gx7 gy7 gx8 gy8 gx9 gy9 gx10 gy10 HCA6
       have gx0:wk6.cell? ⟨gx,0,none⟩=some (.bool zh):=(HBX.out.below HWC.out).cell 0
       have gx1:wk6.cell? ⟨gx,1,none⟩=some (.int .i64 zi):=(HBX.out.below HWC.out).cell 1
       have gx2:wk6.cell? ⟨gx,2,none⟩=some (.int .i64 (zq:Int)):=(HBX.out.below HWC.out).cell 2
       have gx3:wk6.cell? ⟨gx,3,none⟩=some (.string ⟨zt.toArray⟩):=(HBX.out.below HWC.out).cell 3
       have gx4:wk6.cell? ⟨gx,4,none⟩=some (.string ⟨zn.toArray⟩):=(HBX.out.below HWC.out).cell 4
       have gx5:wk6.cell? ⟨gx,5,none⟩=some (.bool zb):=(HBX.out.below HWC.out).cell 5
       have gx6:wk6.cell? ⟨gx,6,none⟩=some (.int .i64 (zk:Int)):=(HBX.out.below HWC.out).cell 6
       have gx7:wk6.cell? ⟨gx,7,none⟩=some (.int .i64 zm):=(HBX.out.below HWC.out).cell 7
       have gx8:wk6.cell? ⟨gx,8,none⟩=some (.int .u64 (zd:Int)):=(HBX.out.below HWC.out).cell 8
       have gx9:wk6.cell? ⟨gx,9,none⟩=some (.string ⟨zs.toArray⟩):=(HBX.out.below HWC.out).cell 9
       have gx10:wk6.cell? ⟨gx,10,none⟩=some (.slice zA zu zc):=(HBX.out.below HWC.out).cell 10
       have gy0:wk6.cell? ⟨gy,0,none⟩=some (.bool zh):=(HBY.out.below HWC.out).cell 0
       have gy1:wk6.cell? ⟨gy,1,none⟩=some (.int .i64 zi):=(HBY.out.below HWC.out).cell 1
       have gy2:wk6.cell? ⟨gy,2,none⟩=some (.int .i64 (zq:Int)):=(HBY.out.below HWC.out).cell 2
       have gy3:wk6.cell? ⟨gy,3,none⟩=some (.string ⟨zt.toArray⟩):=(HBY.out.below HWC.out).cell 3
       have gy4:wk6.cell? ⟨gy,4,none⟩=some (.string ⟨zn.toArray⟩):=(HBY.out.below HWC.out).cell 4
       have gy5:wk6.cell? ⟨gy,5,none⟩=some (.bool zb):=(HBY.out.below HWC.out).cell 5
       have gy6:wk6.cell? ⟨gy,6,none⟩=some (.int .i64 (yk:Int)):=(HBY.out.below HWC.out).cell 6
       have gy7:wk6.cell? ⟨gy,7,none⟩=some (.int .i64 ym):=(HBY.out.below HWC.out).cell 7
       have gy8:wk6.cell? ⟨gy,8,none⟩=some (.int .u64 (yd:Int)):=(HBY.out.below HWC.out).cell 8
       have gy9:wk6.cell? ⟨gy,9,none⟩=some (.string ⟨ys.toArray⟩):=(HBY.out.below HWC.out).cell 9
       have gy10:wk6.cell? ⟨gy,10,none⟩=some (.slice yA yu yc):=(HBY.out.below HWC.out).cell 10
       cases R6 with
       | false =>
        have HRF:Hid (R=false):=by unfold Hid;rw [HRE.out];simp [hR6.out]
        go_wp2_with fail
        go_ret
        rw [HRF.out]
        exact ⟨rfl,HWX.out⟩
       | true =>
        have HRF:Hid (R=true):=by unfold Hid;rw [HRE.out];simp [hR6.out]
        go_wp2_with fail
        go_ret
        rw [HRF.out]
        exact ⟨rfl,HWX.out⟩
      ·have HRF:Hid (R=false):=by unfold Hid;rw [HRE.out];simp [h5]
       have t5:(zb == yb)=false:=by rw [beq_eq_false_iff_ne];exact h5
       have t5':¬ zb=yb:=h5
       clear h5
       go_wp2_with fail
       go_ret
       rw [HRF.out]
       exact ⟨rfl,HWX.out⟩
     ·have HRF:Hid (R=false):=by unfold Hid;rw [HRE.out];simp [h4]
      obtain ⟨S,hS⟩:∃ S:ByteArray,(⟨zn.toArray⟩:ByteArray)=S:=⟨_,rfl⟩
      obtain ⟨T,hT⟩:∃ T:ByteArray,(⟨yn.toArray⟩:ByteArray)=T:=⟨_,rfl⟩
      have hst:S.toList≠T.toList:=by rw [← hS,← hT,(Tx.of zn).toL,(Tx.of yn).toL];exact h4
      have hst1:¬ S.toList=T.toList:=hst
      have hst2:(S.toList == T.toList)=false:=by rw [beq_eq_false_iff_ne];exact hst
      have hst3:¬ S=T:=fun e=>hst (by rw [e])
      rw [hS] at gx4
      rw [hT] at gy4
      clear h4 hst hS hT
      go_wp2_with fail
      go_ret
      rw [HRF.out]
      exact ⟨rfl,HWX.out⟩
    ·have HRF:Hid (R=false):=by unfold Hid;rw [HRE.out];simp [h3]
     obtain ⟨S,hS⟩:∃ S:ByteArray,(⟨zt.toArray⟩:ByteArray)=S:=⟨_,rfl⟩
     obtain ⟨T,hT⟩:∃ T:ByteArray,(⟨yt.toArray⟩:ByteArray)=T:=⟨_,rfl⟩
     have hst:S.toList≠T.toList:=by rw [← hS,← hT,(Tx.of zt).toL,(Tx.of yt).toL];exact h3
     have hst1:¬ S.toList=T.toList:=hst
     have hst2:(S.toList == T.toList)=false:=by rw [beq_eq_false_iff_ne];exact hst
     have hst3:¬ S=T:=fun e=>hst (by rw [e])
     rw [hS] at gx3
     rw [hT] at gy3
     clear h3 hst hS hT
     go_wp2_with fail
     go_ret
     rw [HRF.out]
     exact ⟨rfl,HWX.out⟩
   ·have HRF:Hid (R=false):=by unfold Hid;rw [HRE.out];simp [h2]
    have t2:((zq:Int) == (yq:Int))=false:=by rw [beq_eq_false_iff_ne];omega
    have t2':¬ (zq:Int)=(yq:Int):=by omega
    clear h2
    go_wp2_with fail
    go_ret
    rw [HRF.out]
    exact ⟨rfl,HWX.out⟩
  ·have HRF:Hid (R=false):=by unfold Hid;rw [HRE.out];simp [h1]
   have t1:((zi:Int) == (yi:Int))=false:=by rw [beq_eq_false_iff_ne];omega
   have t1':¬ (zi:Int)=(yi:Int):=by omega
   clear h1
   go_wp2_with fail
   go_ret
   rw [HRF.out]
   exact ⟨rfl,HWX.out⟩
 ·have HRF:Hid (R=false):=by unfold Hid;rw [HRE.out];simp [h0]
  have t0:(zh == yh)=false:=by rw [beq_eq_false_iff_ne];exact h0
  have t0':¬ zh=yh:=h0
  clear h0
  go_wp2_with fail
  go_ret
  rw [HRF.out]
  exact ⟨rfl,HWX.out⟩
set_option maxRecDepth 100000 in
set_option maxHeartbeats 6400000 in
theorem eqFunc_fld (w:World) (v1 v2:Value) (la lb:List Fld) (h1:LF w An v1 la) (h2:LF w An v2 lb) (hla:la.length≤100000) (hco:∀ f ∈ la,ndF f) :
  Calls Tryz.prog 149 #[v1,v2,.func (.func 150) #[] #[]] w fun e w'=>e = .returned (.bool (allEq eqF la lb))∧Nx w w':=by
 obtain ⟨A1,a1,zs,hv1,hzl,-,-,hrd1,hall1⟩:=h1.sl fldA_size
 obtain ⟨A2,a2,ys,hv2,hyl,-,-,hrd2,hall2⟩:=h2.sl fldA_size
 subst hv1 hv2
 have H1:=Lib.hid h1
 have H2:=Lib.hid h2
 have HCO:=Lib.hid hco
 have hlaI:(la.length:Int)≤100000:=by omega
 clear h1 h2 hco hrd1 hrd2 hall1 hall2 hzl hyl
 by_cases hlen:la.length=lb.length
 ·rw [← hlen]
  have HLE:=Lib.hid hlen
  clear hlen
  go_enter Tryz.func149,Tryz.ntmps149
  go_wp2_with fail
  go_loopw [17] (fun iv wr=>∃ (i:Nat),iv = .int .i64 (i:Int)∧i≤la.length∧Hid (∀ j (h1:j<la.length) (h2:j<lb.length),j<i→eqF la[j] lb[j]=true)∧Hid (Nx w wr)) (fun iv _=>(200000 - intOf iv).toNat)
  case atStart=>exact ⟨0,rfl,Nat.zero_le _,Lib.hid (fun j _ _ h=>absurd h (Nat.not_lt_zero _)),Lib.hid (Nx.refl _)⟩
  case round =>
   obtain ⟨i,rfl,hi,HEQ,HO⟩:=hrel
   have hiI:(i:Int)≤100000:=by omega
   by_cases hlt:i<la.length
   ·have q1:decide ((i:Int)<(la.length:Int))=true:=decide_eq_true (by omega)
    have q2:(i:Int)<(la.length:Int):=by omega
    have hltb:i<lb.length:=by have:=HLE.out;omega
    have HLTB:=Lib.hid hltb
    have hr1:LF wr An (.slice A1 la.length a1) la:=LF.lasts (mvAn HO.out) H1.out
    have hr2:LF wr An (.slice A2 lb.length a2) lb:=LF.lasts (mvAn HO.out) H2.out
    obtain ⟨A',ac',zs,hlv,hzl,hzc,hzm,hrd,hall⟩:=hr1.sl fldA_size
    injection hlv with h1 h2 h3
    subst h1 h3
    clear h2
    obtain ⟨g1,rfl,hg1,hcs⟩:=hrd (by omega)
    obtain ⟨Z,hZ⟩:∃ Z,zs[i]'(by omega)=Z:=⟨_,rfl⟩
    have hrc:RF wr An Z la[i]:=by
     have:=hall.at_ i (by omega) hlt
     rw [hZ] at this
     exact RF.lasts ⟨fun _ _ _=>rfl,fun _ _ _=>trivial⟩ this
    obtain ⟨A'',ac'',ys,hlv,hyl,hyc,hym,hrd',hall'⟩:=hr2.sl fldA_size
    injection hlv with h1 h2 h3
    subst h1 h3
    clear h2
    obtain ⟨g2,rfl,hg2,hcs'⟩:=hrd' (by omega)
    obtain ⟨Y,hY⟩:∃ Y,ys[i]'(by omega)=Y:=⟨_,rfl⟩
    have hrdd:RF wr An Y lb[i]:=by
     have:=hall'.at_ i (by omega) hltb
     rw [hY] at this
     exact RF.lasts ⟨fun _ _ _=>rfl,fun _ _ _=>trivial⟩ this
    obtain ⟨zh,zi,zq,zt,zn,zb,⟨zk,zm,zd,zs,zl⟩⟩:=Z
    obtain ⟨zA,zu,zc,rfl⟩:∃ A k cap,zl = .slice A k cap:=hrc.2.2.2.2.2.2.slv
    obtain ⟨yh,yi,yq,yt,yn,yb,⟨yk,ym,yd,ys,yl⟩⟩:=Y
    obtain ⟨yA,yu,yc,rfl⟩:∃ A k cap,yl = .slice A k cap:=hrdd.2.2.2.2.2.2.slv
    have hcell:∀ j,j<11→wr.cell? ⟨g1,i * 11+j,none⟩=(fldA ⟨zh,zi,zq,zt,zn,zb,⟨zk,zm,zd,zs,.slice zA zu zc⟩⟩)[j]?:=fun j hj=>by rw [hcs i (by omega) j hj,hZ]
    have hcell2:∀ j,j<11→wr.cell? ⟨g2,i * 11+j,none⟩=(fldA ⟨yh,yi,yq,yt,yn,yb,⟨yk,ym,yd,ys,.slice yA yu yc⟩⟩)[j]?:=fun j hj=>by rw [hcs' i (by omega) j hj,hY]
    have e0:wr.cell? ⟨g1,i * 11,none⟩=some (.bool zh):=hcell 0 (by decide)
    have e1:wr.cell? ⟨g1,i * 11+1,none⟩=some (.int .i64 zi):=hcell 1 (by decide)
    have e2:wr.cell? ⟨g1,i * 11+2,none⟩=some (.int .i64 (zq:Int)):=hcell 2 (by decide)
    have e3:wr.cell? ⟨g1,i * 11+3,none⟩=some (.string ⟨zt.toArray⟩):=hcell 3 (by decide)
    have e4:wr.cell? ⟨g1,i * 11+4,none⟩=some (.string ⟨zn.toArray⟩):=hcell 4 (by decide)
    have e5:wr.cell? ⟨g1,i * 11+5,none⟩=some (.bool zb):=hcell 5 (by decide)
    have e6:wr.cell? ⟨g1,i * 11+6,none⟩=some (.int .i64 (zk:Int)):=hcell 6 (by decide)
    have e7:wr.cell? ⟨g1,i * 11+7,none⟩=some (.int .i64 zm):=hcell 7 (by decide)
    have e8:wr.cell? ⟨g1,i * 11+8,none⟩=some (.int .u64 (zd:Int)):=hcell 8 (by decide)
    have e9:wr.cell? ⟨g1,i * 11+9,none⟩=some (.string ⟨zs.toArray⟩):=hcell 9 (by decide)
    have e10:wr.cell? ⟨g1,i * 11+10,none⟩=some (.slice zA zu zc):=hcell 10 (by decide)
    have HCE2:=Lib.hid hcell2
    have HR1:=Lib.hid hrc
    have HR2:=Lib.hid hrdd
    have HG2:=Lib.hid hg2
    clear hltb hcs hcs' hcell hcell2 hall hall' hr1 hr2 hZ hY hrc hrdd hzl hyl hzc hzm hyc hym hrd' hrd hg1 hg2
    obtain ⟨ga,hga⟩:∃ g,wr.heap.size=g:=⟨_,rfl⟩
    go_upto_region 6 with fail
    have hB1:=Blk.new wr #[.bool zh,.int .i64 zi,.int .i64 (zq:Int),.string ⟨zt.toArray⟩,.string ⟨zn.toArray⟩,.bool zb,.int .i64 (zk:Int),.int .i64 zm,.int .u64 (zd:Int),.string ⟨zs.toArray⟩,.slice zA zu zc] 59
    rw [hga] at hB1
    have hn1:Nx wr (wr.alloc (.cells #[.bool zh,.int .i64 zi,.int .i64 (zq:Int),.string ⟨zt.toArray⟩,.string ⟨zn.toArray⟩,.bool zb,.int .i64 (zk:Int),.int .i64 zm,.int .u64 (zd:Int),.string ⟨zs.toArray⟩,.slice zA zu zc] 59)):=nx0 _ _
    generalize World.alloc wr _=W1 at *
    have hcell2:∀ j,j<11→W1.cell? ⟨g2,i * 11+j,none⟩=(fldA ⟨yh,yi,yq,yt,yn,yb,⟨yk,ym,yd,ys,.slice yA yu yc⟩⟩)[j]?:=fun j hj=>(hn1.cell (p:=⟨g2,i * 11+j,none⟩) HG2.out).trans (HCE2.out j hj)
    have f0:W1.cell? ⟨g2,i * 11,none⟩=some (.bool yh):=hcell2 0 (by decide)
    have f1:W1.cell? ⟨g2,i * 11+1,none⟩=some (.int .i64 yi):=hcell2 1 (by decide)
    have f2:W1.cell? ⟨g2,i * 11+2,none⟩=some (.int .i64 (yq:Int)):=hcell2 2 (by decide)
    have f3:W1.cell? ⟨g2,i * 11+3,none⟩=some (.string ⟨yt.toArray⟩):=hcell2 3 (by decide)
    have f4:W1.cell? ⟨g2,i * 11+4,none⟩=some (.string ⟨yn.toArray⟩):=hcell2 4 (by decide)
    have f5:W1.cell? ⟨g2,i * 11+5,none⟩=some (.bool yb):=hcell2 5 (by decide)
    have f6:W1.cell? ⟨g2,i * 11+6,none⟩=some (.int .i64 (yk:Int)):=hcell2 6 (by decide)
    have f7:W1.cell? ⟨g2,i * 11+7,none⟩=some (.int .i64 ym):=hcell2 7 (by decide)
    have f8:W1.cell? ⟨g2,i * 11+8,none⟩=some (.int .u64 (yd:Int)):=hcell2 8 (by decide)
    have f9:W1.cell? ⟨g2,i * 11+9,none⟩=some (.string ⟨ys.toArray⟩):=hcell2 9 (by decide)
    have f10:W1.cell? ⟨g2,i * 11+10,none⟩=some (.slice yA yu yc):=hcell2 10 (by decide)
    obtain ⟨gb,hgb⟩:∃ g,W1.heap.size=g:=⟨_,rfl⟩
    have HB1:=Lib.hid hB1
    have HN1:=Lib.hid hn1
    clear e0 e1 e2 e3 e4 e5 e6 e7 e8 e9 e10 hcell2 HCE2 hga hB1 hn1
    go_upto_region 7 with fail
    have hB2:=Blk.new W1 #[.bool yh,.int .i64 yi,.int .i64 (yq:Int),.string ⟨yt.toArray⟩,.string ⟨yn.toArray⟩,.bool yb,.int .i64 (yk:Int),.int .i64 ym,.int .u64 (yd:Int),.string ⟨ys.toArray⟩,.slice yA yu yc] 59
    rw [hgb] at hB2
    have hn2:Nx W1 (W1.alloc (.cells #[.bool yh,.int .i64 yi,.int .i64 (yq:Int),.string ⟨yt.toArray⟩,.string ⟨yn.toArray⟩,.bool yb,.int .i64 (yk:Int),.int .i64 ym,.int .u64 (yd:Int),.string ⟨ys.toArray⟩,.slice yA yu yc] 59)):=nx0 _ _
    generalize World.alloc W1 _=W2 at *
    have hB1':=HB1.out.below hn2
    have c0:W2.cell? ⟨ga,0,none⟩=some (.bool zh):=hB1'.cell 0
    have c1:W2.cell? ⟨ga,1,none⟩=some (.int .i64 zi):=hB1'.cell 1
    have c2:W2.cell? ⟨ga,2,none⟩=some (.int .i64 (zq:Int)):=hB1'.cell 2
    have c3:W2.cell? ⟨ga,3,none⟩=some (.string ⟨zt.toArray⟩):=hB1'.cell 3
    have c4:W2.cell? ⟨ga,4,none⟩=some (.string ⟨zn.toArray⟩):=hB1'.cell 4
    have c5:W2.cell? ⟨ga,5,none⟩=some (.bool zb):=hB1'.cell 5
    have c6:W2.cell? ⟨ga,6,none⟩=some (.int .i64 (zk:Int)):=hB1'.cell 6
    have c7:W2.cell? ⟨ga,7,none⟩=some (.int .i64 zm):=hB1'.cell 7
    have c8:W2.cell? ⟨ga,8,none⟩=some (.int .u64 (zd:Int)):=hB1'.cell 8
    have c9:W2.cell? ⟨ga,9,none⟩=some (.string ⟨zs.toArray⟩):=hB1'.cell 9
    have c10:W2.cell? ⟨ga,10,none⟩=some (.slice zA zu zc):=hB1'.cell 10
    have d0:W2.cell? ⟨gb,0,none⟩=some (.bool yh):=hB2.cell 0
    have d1:W2.cell? ⟨gb,1,none⟩=some (.int .i64 yi):=hB2.cell 1
    have d2:W2.cell? ⟨gb,2,none⟩=some (.int .i64 (yq:Int)):=hB2.cell 2
    have d3:W2.cell? ⟨gb,3,none⟩=some (.string ⟨yt.toArray⟩):=hB2.cell 3
    have d4:W2.cell? ⟨gb,4,none⟩=some (.string ⟨yn.toArray⟩):=hB2.cell 4
    have d5:W2.cell? ⟨gb,5,none⟩=some (.bool yb):=hB2.cell 5
    have d6:W2.cell? ⟨gb,6,none⟩=some (.int .i64 (yk:Int)):=hB2.cell 6
    have d7:W2.cell? ⟨gb,7,none⟩=some (.int .i64 ym):=hB2.cell 7
    have d8:W2.cell? ⟨gb,8,none⟩=some (.int .u64 (yd:Int)):=hB2.cell 8
    have d9:W2.cell? ⟨gb,9,none⟩=some (.string ⟨ys.toArray⟩):=hB2.cell 9
    have d10:W2.cell? ⟨gb,10,none⟩=some (.slice yA yu yc):=hB2.cell 10
    have hnx:Nx wr W2:=HN1.out.trans hn2
    have hcall:=sameField_any W2 ⟨zh,zi,zq,zt,zn,zb,⟨zk,zm,zd,zs,.slice zA zu zc⟩⟩ ⟨yh,yi,yq,yt,yn,yb,⟨yk,ym,yd,ys,.slice yA yu yc⟩⟩ (la[i]'hlt) (lb[i]'HLTB.out) (RF.lasts (mvAn hnx) HR1.out) (RF.lasts (mvAn hnx) HR2.out) (HCO.out _ (List.getElem_mem hlt))
    obtain ⟨R,hR⟩:∃ R,Hid (eqF la[i] (lb[i]'HLTB.out)=R):=⟨_,Lib.hid rfl⟩
    rw [hR.out] at hcall
    have HC2:=Lib.hid hcall
    have HO2:=Lib.hid (HO.out.trans hnx)
    clear f0 f1 f2 f3 f4 f5 f6 f7 f8 f9 f10 hB2 hn2 hgb hB1' hnx hcall HB1 HN1 HO HR1 HR2
    go_wp2_with fail
    refine HC2.out.mono ?_;rintro e w3 ⟨rfl,ho3⟩
    have HO3:=Lib.hid (HO2.out.trans ho3)
    clear ho3 c0 c1 c2 c3 c4 c5 c6 c7 c8 c9 c10 d0 d1 d2 d3 d4 d5 d6 d7 d8 d9 d10
    cases R with
    | true =>
     go_wp2_with fail
     go_roundw
     case rel=>exact ⟨i+1,by go_num,hlt,Lib.hid (fun j a b h=>by
      rcases Nat.lt_or_ge j i with h' | h'
      ·exact HEQ.out j a b h'
      ·obtain rfl:j=i:=by omega
       exact hR.out),HO3⟩
     case measure=>simp [intOf];omega
    | false =>
     have HF:Hid (allEq eqF la lb=false):=allEq_false i hlt HLTB.out hR.out
     go_wp2_with fail
     go_ret
     rw [HF.out]
     exact ⟨rfl,HO3.out⟩
   ·obtain rfl:i=la.length:=by omega
    have q1:decide ((la.length:Int)<(la.length:Int))=false:=decide_eq_false (by omega)
    have HF:Hid (allEq eqF la lb=true):=allEq_true HLE.out fun j a b=>HEQ.out j a b a
    clear hlt hi
    go_wp2_with fail
    go_ret
    rw [HF.out]
    exact ⟨rfl,HO.out⟩
 ·have b1:((la.length:Int) != (lb.length:Int))=true:=by rw [bne_iff_ne];omega
  have b1':¬ (la.length:Int)=(lb.length:Int):=by omega
  have hf:allEq eqF la lb=false:=allEq_len hlen
  rw [hf]
  clear hlen
  go_enter Tryz.func149,Tryz.ntmps149
  go_wp2_with fail
  go_ret
  exact ⟨rfl,Nx.refl _⟩
end Go.Proofs.YtjggghfekakogaaGreatDoor
namespace Go.Proofs.YtjggghfekakogaaGreatDoor
open Go.RowKit Go.Shelf
theorem nx_drew (w:World) (n:Nat):Nx w (w.drewN n):=⟨rfl,rfl,rfl,Nat.le_refl _,fun _ _=>rfl⟩
theorem neqMm:NeqAt Tryz.prog 57 (fun x:Mem=>.agg (memA x)) eqMm:=by
 refine ⟨fun x y w=>?_,GuardAt.agg _ (by kernel_rfl)⟩
 have hS:Tryz.prog.underlying 57 = some (.struct (Tryz.prog.fieldsOf 57)):=by kernel_rfl
 have hp:Tryz.prog.stoodInHeld 57 = false:=by kernel_rfl
 obtain ⟨zn,zh,zm⟩:=x
 obtain ⟨yn,yh,ym⟩:=y
 show Sem.run _ (binOp .neq _ (.agg #[bt zn,.bool zh,.int .i64 zm]) (.agg #[bt yn,.bool yh,.int .i64 ym])) _=_
 simp only [bt]
 rw [run_neq_struct,show (10000:Nat)=9999+1 from rfl,run_equalIn_agg w 9999 57 _ _ hS hp]
 simp only [Program.fieldsOf,Tryz.underlying57]
 go_simp
 unfold eqMm
 by_cases h1:zn=yn <;> by_cases h2:zh=yh <;> by_cases h3:zm=ym <;> simp [h1,h2,h3]
theorem neqSp:NeqAt Tryz.prog 50 (fun x:Spc=>.agg (spcA x)) eqS:=by
 refine ⟨fun x y w=>?_,GuardAt.agg _ (by kernel_rfl)⟩
 have hS:Tryz.prog.underlying 50 = some (.struct (Tryz.prog.fieldsOf 50)):=by kernel_rfl
 have hp:Tryz.prog.stoodInHeld 50 = false:=by kernel_rfl
 obtain ⟨zo,zn⟩:=x
 obtain ⟨yo,yn⟩:=y
 show Sem.run _ (binOp .neq _ (.agg #[bt zo,bt zn]) (.agg #[bt yo,bt yn])) _=_
 simp only [bt]
 rw [run_neq_struct,show (10000:Nat)=9999+1 from rfl,run_equalIn_agg w 9999 50 _ _ hS hp]
 simp only [Program.fieldsOf,Tryz.underlying50]
 go_simp
 unfold eqS
 by_cases h1:zo=yo <;> by_cases h2:zn=yn <;> simp [h1,h2]
set_option maxRecDepth 100000 in
set_option maxHeartbeats 6400000 in
theorem equal_mem (w:World) (v1 v2:Value) (la lb:List Mem) (h1:LMm w An v1 la) (h2:LMm w An v2 lb) (hla:la.length≤100000) :
  Calls Tryz.prog 99 #[v1,v2] w fun e w'=>e = .returned (.bool (allEq eqMm la lb))∧Nx w w':=by
 obtain ⟨A1,a1,zs,hv1,hzl,-,-,hrd1,hall1⟩:=h1.sl memA_size
 obtain ⟨A2,a2,ys,hv2,hyl,-,-,hrd2,hall2⟩:=h2.sl memA_size
 subst hv1 hv2
 have H1:=Lib.hid h1
 have H2:=Lib.hid h2
 have hlaI:(la.length:Int)≤100000:=by omega
 clear h1 h2 hrd1 hrd2 hall1 hall2 hzl hyl
 by_cases hlen:la.length=lb.length
 ·rw [← hlen]
  have HLE:=Lib.hid hlen
  clear hlen
  go_enter Tryz.func99,Tryz.ntmps99
  go_wp2_with fail
  go_loopw [13] (fun iv wr=>∃ (i:Nat),iv = .int .i64 (i:Int)∧i≤la.length∧Hid (∀ j (h1:j<la.length) (h2:j<lb.length),j<i→eqMm la[j] lb[j]=true)∧Hid (Nx w wr)) (fun iv _=>(200000 - intOf iv).toNat)
  case atStart=>exact ⟨0,rfl,Nat.zero_le _,Lib.hid (fun j _ _ h=>absurd h (Nat.not_lt_zero _)),Lib.hid (Nx.refl _)⟩
  case round =>
   obtain ⟨i,rfl,hi,HEQ,HO⟩:=hrel
   have hiI:(i:Int)≤100000:=by omega
   by_cases hlt:i<la.length
   ·have q1:decide ((i:Int)<(la.length:Int))=true:=decide_eq_true (by omega)
    have q2:(i:Int)<(la.length:Int):=by omega
    have hltb:i<lb.length:=by have:=HLE.out;omega
    have HLTB:=Lib.hid hltb
    have hr1:LMm wr An (.slice A1 la.length a1) la:=LMm.lasts (mvAn HO.out) H1.out
    have hr2:LMm wr An (.slice A2 lb.length a2) lb:=LMm.lasts (mvAn HO.out) H2.out
    obtain ⟨A',ac',zs,hlv,hzl,hzc,hzm,hrd,hall⟩:=hr1.sl memA_size
    injection hlv with h1 h2 h3
    subst h1 h3
    clear h2
    obtain ⟨g1,rfl,hg1,hcs⟩:=hrd (by omega)
    obtain ⟨Z,hZ⟩:∃ Z,zs[i]'(by omega)=Z:=⟨_,rfl⟩
    have hrc:Z=la[i]:=by
     have:=hall.at_ i (by omega) hlt
     rw [hZ] at this
     exact this
    obtain ⟨A'',ac'',ys,hlv,hyl,hyc,hym,hrd',hall'⟩:=hr2.sl memA_size
    injection hlv with h1 h2 h3
    subst h1 h3
    clear h2
    obtain ⟨g2,rfl,hg2,hcs'⟩:=hrd' (by omega)
    obtain ⟨Y,hY⟩:∃ Y,ys[i]'(by omega)=Y:=⟨_,rfl⟩
    have hrdd:Y=lb[i]:=by
     have:=hall'.at_ i (by omega) hltb
     rw [hY] at this
     exact this
    obtain ⟨zn,zh,zm⟩:=Z
    obtain ⟨yn,yh,ym⟩:=Y
    have hcell:∀ j,j<3→wr.cell? ⟨g1,i * 3+j,none⟩=(memA ⟨zn,zh,zm⟩)[j]?:=fun j hj=>by rw [hcs i (by omega) j hj,hZ]
    have hcell2:∀ j,j<3→wr.cell? ⟨g2,i * 3+j,none⟩=(memA ⟨yn,yh,ym⟩)[j]?:=fun j hj=>by rw [hcs' i (by omega) j hj,hY]
    have e0:wr.cell? ⟨g1,i * 3,none⟩=some (.string ⟨zn.toArray⟩):=hcell 0 (by decide)
    have e1:wr.cell? ⟨g1,i * 3+1,none⟩=some (.bool zh):=hcell 1 (by decide)
    have e2:wr.cell? ⟨g1,i * 3+2,none⟩=some (.int .i64 zm):=hcell 2 (by decide)
    have f0:wr.cell? ⟨g2,i * 3,none⟩=some (.string ⟨yn.toArray⟩):=hcell2 0 (by decide)
    have f1:wr.cell? ⟨g2,i * 3+1,none⟩=some (.bool yh):=hcell2 1 (by decide)
    have f2:wr.cell? ⟨g2,i * 3+2,none⟩=some (.int .i64 ym):=hcell2 2 (by decide)
    obtain ⟨R,hR⟩:∃ R,Hid (eqMm ⟨zn,zh,zm⟩ ⟨yn,yh,ym⟩=R):=⟨_,Lib.hid rfl⟩
    have HRR:Hid (eqMm la[i] (lb[i]'HLTB.out)=R):=by have a:=hR.out;rw [hrc,hrdd] at a;exact a
    clear hltb hcs hcs' hcell hcell2 hall hall' hr1 hr2 hZ hY hrc hrdd hzl hyl hzc hzm hyc hym hrd' hrd hg1 hg2
    have hne':∀ w,Sem.run Tryz.prog (binOp .neq 57 (.agg #[.string ⟨zn.toArray⟩,.bool zh,.int .i64 zm]) (.agg #[.string ⟨yn.toArray⟩,.bool yh,.int .i64 ym])) w = .ok (.bool (!R)) w:=fun w=>by have:=neqMm.1 ⟨zn,zh,zm⟩ ⟨yn,yh,ym⟩ w;rw [hR.out] at this;exact this
    have hgd':∀ (op:BinOp) (a b:Operand) (w:World),Sem.run Tryz.prog (eqGuard op 57 a b (.agg #[.string ⟨zn.toArray⟩,.bool zh,.int .i64 zm]) (.agg #[.string ⟨yn.toArray⟩,.bool yh,.int .i64 ym])) w = .ok () w:=fun op a b w=>neqMm.2 op a b ⟨zn,zh,zm⟩ ⟨yn,yh,ym⟩ w
    go_upto_region 6 with fail
    cases R with
    | false =>
     go_quiet (fail)
     clear hne' hgd' e0 e1 e2 f0 f1 f2
     go_wp2_with fail
     go_ret
     have HF:Hid (allEq eqMm la lb=false):=allEq_false i hlt HLTB.out HRR.out
     rw [HF.out]
     exact ⟨rfl,HO.out.trans (nx_drew _ _)⟩
    | true =>
     go_quiet (fail)
     clear hne' hgd' e0 e1 e2 f0 f1 f2
     go_wp2_with fail
     go_roundw
     case rel=>exact ⟨i+1,by go_num,hlt,Lib.hid (fun j a b h=>by
       rcases Nat.lt_or_ge j i with h' | h'
       ·exact HEQ.out j a b h'
       ·obtain rfl:j=i:=by omega
        exact HRR.out),Lib.hid (HO.out.trans (nx_drew _ _))⟩
     case measure=>simp [intOf];omega
   ·obtain rfl:i=la.length:=by omega
    have q1:decide ((la.length:Int)<(la.length:Int))=false:=decide_eq_false (by omega)
    have HF:Hid (allEq eqMm la lb=true):=allEq_true HLE.out fun j a b=>HEQ.out j a b a
    clear hlt hi
    go_wp2_with fail
    go_ret
    rw [HF.out]
    exact ⟨rfl,HO.out⟩
 ·have b1:((la.length:Int) != (lb.length:Int))=true:=by rw [bne_iff_ne];omega
  have b1':¬ (la.length:Int)=(lb.length:Int):=by omega
  have hf:allEq eqMm la lb=false:=allEq_len hlen
  rw [hf]
  clear hlen
  go_enter Tryz.func99,Tryz.ntmps99
  go_wp2_with fail
  go_ret
  exact ⟨rfl,Nx.refl _⟩
set_option maxRecDepth 100000 in
set_option maxHeartbeats 6400000 in
theorem equal_spc (w:World) (v1 v2:Value) (la lb:List Spc) (h1:LS w An v1 la) (h2:LS w An v2 lb) (hla:la.length≤100000) :
  Calls Tryz.prog 49 #[v1,v2] w fun e w'=>e = .returned (.bool (allEq eqS la lb))∧Nx w w':=by
 obtain ⟨A1,a1,zs,hv1,hzl,-,-,hrd1,hall1⟩:=h1.sl spcA_size
 obtain ⟨A2,a2,ys,hv2,hyl,-,-,hrd2,hall2⟩:=h2.sl spcA_size
 subst hv1 hv2
 have H1:=Lib.hid h1
 have H2:=Lib.hid h2
 have hlaI:(la.length:Int)≤100000:=by omega
 clear h1 h2 hrd1 hrd2 hall1 hall2 hzl hyl
 by_cases hlen:la.length=lb.length
 ·rw [← hlen]
  have HLE:=Lib.hid hlen
  clear hlen
  go_enter Tryz.func49,Tryz.ntmps49
  go_wp2_with fail
  go_loopw [13] (fun iv wr=>∃ (i:Nat),iv = .int .i64 (i:Int)∧i≤la.length∧Hid (∀ j (h1:j<la.length) (h2:j<lb.length),j<i→eqS la[j] lb[j]=true)∧Hid (Nx w wr)) (fun iv _=>(200000 - intOf iv).toNat)
  case atStart=>exact ⟨0,rfl,Nat.zero_le _,Lib.hid (fun j _ _ h=>absurd h (Nat.not_lt_zero _)),Lib.hid (Nx.refl _)⟩
  case round =>
   obtain ⟨i,rfl,hi,HEQ,HO⟩:=hrel
   have hiI:(i:Int)≤100000:=by omega
   by_cases hlt:i<la.length
   ·have q1:decide ((i:Int)<(la.length:Int))=true:=decide_eq_true (by omega)
    have q2:(i:Int)<(la.length:Int):=by omega
    have hltb:i<lb.length:=by have:=HLE.out;omega
    have HLTB:=Lib.hid hltb
    have hr1:LS wr An (.slice A1 la.length a1) la:=LS.lasts (mvAn HO.out) H1.out
    have hr2:LS wr An (.slice A2 lb.length a2) lb:=LS.lasts (mvAn HO.out) H2.out
    obtain ⟨A',ac',zs,hlv,hzl,hzc,hzm,hrd,hall⟩:=hr1.sl spcA_size
    injection hlv with h1 h2 h3
    subst h1 h3
    clear h2
    obtain ⟨g1,rfl,hg1,hcs⟩:=hrd (by omega)
    obtain ⟨Z,hZ⟩:∃ Z,zs[i]'(by omega)=Z:=⟨_,rfl⟩
    have hrc:Z=la[i]:=by
     have:=hall.at_ i (by omega) hlt
     rw [hZ] at this
     exact this
    obtain ⟨A'',ac'',ys,hlv,hyl,hyc,hym,hrd',hall'⟩:=hr2.sl spcA_size
    injection hlv with h1 h2 h3
    subst h1 h3
    clear h2
    obtain ⟨g2,rfl,hg2,hcs'⟩:=hrd' (by omega)
    obtain ⟨Y,hY⟩:∃ Y,ys[i]'(by omega)=Y:=⟨_,rfl⟩
    have hrdd:Y=lb[i]:=by
     have:=hall'.at_ i (by omega) hltb
     rw [hY] at this
     exact this
    obtain ⟨zo,zn⟩:=Z
    obtain ⟨yo,yn⟩:=Y
    have hcell:∀ j,j<2→wr.cell? ⟨g1,i * 2+j,none⟩=(spcA ⟨zo,zn⟩)[j]?:=fun j hj=>by rw [hcs i (by omega) j hj,hZ]
    have hcell2:∀ j,j<2→wr.cell? ⟨g2,i * 2+j,none⟩=(spcA ⟨yo,yn⟩)[j]?:=fun j hj=>by rw [hcs' i (by omega) j hj,hY]
    have e0:wr.cell? ⟨g1,i * 2,none⟩=some (.string ⟨zo.toArray⟩):=hcell 0 (by decide)
    have e1:wr.cell? ⟨g1,i * 2+1,none⟩=some (.string ⟨zn.toArray⟩):=hcell 1 (by decide)
    have f0:wr.cell? ⟨g2,i * 2,none⟩=some (.string ⟨yo.toArray⟩):=hcell2 0 (by decide)
    have f1:wr.cell? ⟨g2,i * 2+1,none⟩=some (.string ⟨yn.toArray⟩):=hcell2 1 (by decide)
    obtain ⟨R,hR⟩:∃ R,Hid (eqS ⟨zo,zn⟩ ⟨yo,yn⟩=R):=⟨_,Lib.hid rfl⟩
    have HRR:Hid (eqS la[i] (lb[i]'HLTB.out)=R):=by have a:=hR.out;rw [hrc,hrdd] at a;exact a
    clear hltb hcs hcs' hcell hcell2 hall hall' hr1 hr2 hZ hY hrc hrdd hzl hyl hzc hzm hyc hym hrd' hrd hg1 hg2
    have hne':∀ w,Sem.run Tryz.prog (binOp .neq 50 (.agg #[.string ⟨zo.toArray⟩,.string ⟨zn.toArray⟩]) (.agg #[.string ⟨yo.toArray⟩,.string ⟨yn.toArray⟩])) w = .ok (.bool (!R)) w:=fun w=>by have:=neqSp.1 ⟨zo,zn⟩ ⟨yo,yn⟩ w;rw [hR.out] at this;exact this
    have hgd':∀ (op:BinOp) (a b:Operand) (w:World),Sem.run Tryz.prog (eqGuard op 50 a b (.agg #[.string ⟨zo.toArray⟩,.string ⟨zn.toArray⟩]) (.agg #[.string ⟨yo.toArray⟩,.string ⟨yn.toArray⟩])) w = .ok () w:=fun op a b w=>neqSp.2 op a b ⟨zo,zn⟩ ⟨yo,yn⟩ w
    go_upto_region 6 with fail
    cases R with
    | false =>
     go_quiet (fail)
     clear hne' hgd' e0 e1 f0 f1
     go_wp2_with fail
     go_ret
     have HF:Hid (allEq eqS la lb=false):=allEq_false i hlt HLTB.out HRR.out
     rw [HF.out]
     exact ⟨rfl,HO.out.trans (nx_drew _ _)⟩
    | true =>
     go_quiet (fail)
     clear hne' hgd' e0 e1 f0 f1
     go_wp2_with fail
     go_roundw
     case rel=>exact ⟨i+1,by go_num,hlt,Lib.hid (fun j a b h=>by
       rcases Nat.lt_or_ge j i with h' | h'
       ·exact HEQ.out j a b h'
       ·obtain rfl:j=i:=by omega
        exact HRR.out),Lib.hid (HO.out.trans (nx_drew _ _))⟩
     case measure=>simp [intOf];omega
   ·obtain rfl:i=la.length:=by omega
    have q1:decide ((la.length:Int)<(la.length:Int))=false:=decide_eq_false (by omega)
    have HF:Hid (allEq eqS la lb=true):=allEq_true HLE.out fun j a b=>HEQ.out j a b a
    clear hlt hi
    go_wp2_with fail
    go_ret
    rw [HF.out]
    exact ⟨rfl,HO.out⟩
 ·have b1:((la.length:Int) != (lb.length:Int))=true:=by rw [bne_iff_ne];omega
  have b1':¬ (la.length:Int)=(lb.length:Int):=by omega
  have hf:allEq eqS la lb=false:=allEq_len hlen
  rw [hf]
  clear hlen
  go_enter Tryz.func49,Tryz.ntmps49
  go_wp2_with fail
  go_ret
  exact ⟨rfl,Nx.refl _⟩
end Go.Proofs.YtjggghfekakogaaGreatDoor
