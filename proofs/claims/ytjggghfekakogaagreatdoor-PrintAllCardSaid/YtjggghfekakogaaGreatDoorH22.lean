/- The code's test of files: Same. The library's decimal numbers, appended to a text under way. How files are printed: as functions. Plain. The code's printer: texts one behind the other, texts in quotes. -/
import Derived.Test.YtjggghfekakogaaGreatDoorH21
import Derived.Test.YtjggghfekakogaaGreatDoorH18
import Derived.Lib.AppendIntMem
import Derived.Test.YtjggghfekakogaaGreatDoorH11
import Derived.Test.YtjggghfekakogaaGreatDoorH12
import Derived.Deep.CutBlock
import Derived.Deep.DeepCutAuto
set_option linter.unusedVariables false
set_option linter.unusedSimpArgs false
set_option linter.unnecessarySimpa false
namespace Go.Proofs.YtjggghfekakogaaGreatDoor
open Go.RowKit
theorem allEq_str:∀ (la lb:List (List UInt8)),allEq (fun x y=>x == y) la lb=decide (la.map (fun s=>(⟨s.toArray⟩:ByteArray))=lb.map fun s=>⟨s.toArray⟩)
 | [],[]=>by simp [allEq]
 | [],_ :: _=>by simp [allEq]
 | _ :: _,[]=>by simp [allEq]
 | x :: xs,y :: ys=>by
  show ((x == y) && allEq (fun x y=>x == y) xs ys)=_
  rw [allEq_str xs ys]
  by_cases h:x=y
  ·subst h;simp
  ·have h1:¬ (⟨x.toArray⟩:ByteArray)=⟨y.toArray⟩:=fun e=>h (by have:=congrArg ByteArray.toList e;rwa [(Tx.of x).toL,(Tx.of y).toL] at this)
   simp [h]
theorem lt_cells {w:World} {v:Value} {l:List (List UInt8)} (h:LT w An v l):∃ A c,v = .slice A l.length c∧(0<l.length→∃ g,A=some ⟨g,0,none⟩∧∀ j,j<(l.map fun s=>(⟨s.toArray⟩:ByteArray)).length→w.cell? ⟨g,0+j,none⟩=some (.string ((l.map fun s=>(⟨s.toArray⟩:ByteArray)).getD j ByteArray.empty))):=by
 obtain ⟨A,c,zs,hv,hzl,-,-,hrd,hall⟩:=h.sl strA_size
 have hz:zs=l:=List.ext_getElem hzl fun i h1 h2=>hall.at_ i h1 h2
 subst hz
 refine ⟨A,c,hv,fun h0=>?_⟩
 obtain ⟨g,rfl,-,hc⟩:=hrd (by omega)
 refine ⟨g,rfl,fun j hj=>?_⟩
 have hj':j<zs.length:=by simpa using hj
 have:=hc j hj' 0 (by decide)
 rw [show j * 1+0=0+j by omega] at this
 rw [this,List.getD_eq_getElem?_getD,List.getElem?_map,List.getElem?_eq_getElem hj']
 rfl
set_option maxRecDepth 100000 in
theorem equal_str (w:World) (v1 v2:Value) (la lb:List (List UInt8)) (h1:LT w An v1 la) (h2:LT w An v2 lb) (hla:la.length≤100000) :
  Calls Tryz.prog 48 #[v1,v2] w fun e w'=>e = .returned (.bool (allEq (fun x y=>x == y) la lb))∧Nx w w':=by
 obtain ⟨A1,a1,rfl,hc1⟩:=lt_cells h1
 obtain ⟨A2,a2,rfl,hc2⟩:=lt_cells h2
 by_cases hlen:la.length=lb.length
 ·by_cases h0:la.length=0
  ·have e1:la=[]:=List.length_eq_zero_iff.1 h0
   have e2:lb=[]:=List.length_eq_zero_iff.1 (hlen ▸ h0)
   subst e1 e2
   refine (Tryz.slices_Equal_string_empty A1 A2 a1 0 a2 w (by omega)).mono ?_
   rintro e w1 ⟨rfl,rfl⟩
   exact ⟨rfl,Nx.refl _⟩
  ·obtain ⟨g1,rfl,k1⟩:=hc1 (by omega)
   obtain ⟨g2,rfl,k2⟩:=hc2 (by omega)
   refine (Tryz.slices_Equal_string g1 0 la.length a1 g2 0 lb.length a2 _ _ w (by simp) (by simp) (by omega) (by omega) k1 k2).mono ?_
   rintro e w1 ⟨rfl,q,rfl⟩
   refine ⟨?_,nx_drew _ _⟩
   rw [List.take_of_length_le (by simp),List.take_of_length_le (by simp),allEq_str]
 ·refine (Tryz.slices_Equal_string_lens A1 A2 la.length a1 lb.length a2 w hlen).mono ?_
  rintro e w1 ⟨rfl,rfl⟩
  refine ⟨?_,Nx.refl _⟩
  rw [allEq_len hlen]
set_option maxRecDepth 100000 in
set_option maxHeartbeats 12800000 in
theorem Same_any (w:World) (x y:FilS) (f g:Fil) (hx:RFile w An x f) (hy:RFile w An y g) (hco:ndFil f) :
  Calls Tryz.prog 24 #[.agg (filA x),.agg (filA y)] w fun e w'=>e = .returned (.bool (eqFil f g))∧Nx w w':=by
 obtain ⟨zl,zp,zr⟩:=x
 obtain ⟨yl,yp,yr⟩:=y
 obtain ⟨zA,zu,zc,rfl⟩:∃ A k cap,zl = .slice A k cap:=by
  obtain ⟨A,c,-,e,-⟩:=hx.1.sl strA_size
  exact ⟨A,_,c,e⟩
 obtain ⟨zB,zv,zg,rfl⟩:∃ A k cap,zp = .slice A k cap:=by
  obtain ⟨A,c,-,e,-⟩:=hx.2.1.sl spcA_size
  exact ⟨A,_,c,e⟩
 obtain ⟨zD,zx,zj,rfl⟩:∃ A k cap,zr = .slice A k cap:=by
  obtain ⟨A,c,-,e,-⟩:=hx.2.2.sl dfnA_size
  exact ⟨A,_,c,e⟩
 obtain ⟨yA,yu,yc,rfl⟩:∃ A k cap,yl = .slice A k cap:=by
  obtain ⟨A,c,-,e,-⟩:=hy.1.sl strA_size
  exact ⟨A,_,c,e⟩
 obtain ⟨yB,yv,yg,rfl⟩:∃ A k cap,yp = .slice A k cap:=by
  obtain ⟨A,c,-,e,-⟩:=hy.2.1.sl spcA_size
  exact ⟨A,_,c,e⟩
 obtain ⟨yD,yx,yj,rfl⟩:∃ A k cap,yr = .slice A k cap:=by
  obtain ⟨A,c,-,e,-⟩:=hy.2.2.sl dfnA_size
  exact ⟨A,_,c,e⟩
 obtain ⟨fi,fs,fd⟩:=f
 obtain ⟨gi,gs,gd⟩:=g
 obtain ⟨hxi,hxs,hxd⟩:LT w An (.slice zA zu zc) fi∧LS w An (.slice zB zv zg) fs∧LD w An (.slice zD zx zj) fd:=hx
 obtain ⟨hyi,hys,hyd⟩:LT w An (.slice yA yu yc) gi∧LS w An (.slice yB yv yg) gs∧LD w An (.slice yD yx yj) gd:=hy
 have HXI:=Lib.hid hxi
 have HXS:=Lib.hid hxs
 have HXD:=Lib.hid hxd
 have HYI:=Lib.hid hyi
 have HYS:=Lib.hid hys
 have HYD:=Lib.hid hyd
 clear hxi hxs hxd hyi hys hyd
 obtain ⟨R,hR⟩:∃ R,Hid (eqFil ⟨fi,fs,fd⟩ ⟨gi,gs,gd⟩=R):=⟨_,Lib.hid rfl⟩
 rw [hR.out]
 have hRe:R=(allEq (fun x y=>x == y) fi gi && allEq eqS fs gs && allEq eqD fd gd):=hR.out.symm
 have HRE:=Lib.hid hRe
 have HCO:=Lib.hid hco
 obtain ⟨gx,hgx⟩:∃ g,w.heap.size=g:=⟨_,rfl⟩
 have hBx:=Blk.new w #[.slice zA zu zc,.slice zB zv zg,.slice zD zx zj] 27
 rw [hgx] at hBx
 have hn1:Nx w (w.alloc (.cells #[.slice zA zu zc,.slice zB zv zg,.slice zD zx zj] 27)):=nx0 _ _
 have hs1:(w.alloc (.cells #[.slice zA zu zc,.slice zB zv zg,.slice zD zx zj] 27)).heap.size=w.heap.size+1:=by simp
 rw [hgx] at hs1
 obtain ⟨gy,hgy⟩:∃ g,gx+1=g:=⟨_,rfl⟩
 rw [hgy] at hs1
 have HBX:=Lib.hid hBx
 have HN1:=Lib.hid hn1
 clear hR hRe hco hBx hn1
 show Calls _ _ #[.agg #[.slice zA zu zc,.slice zB zv zg,.slice zD zx zj],.agg #[.slice yA yu yc,.slice yB yv yg,.slice yD yx yj]] _ _
 go_enter Tryz.func24,Tryz.ntmps24
 go_upto_region 1 with fail
 generalize hW1:World.alloc w _=W1 at *
 have hBy:=Blk.new W1 #[.slice yA yu yc,.slice yB yv yg,.slice yD yx yj] 27
 have hn2:Nx W1 (W1.alloc (.cells #[.slice yA yu yc,.slice yB yv yg,.slice yD yx yj] 27)):=nx0 _ _
 rw [hs1] at hBy
 have hBx:=HBX.out.below hn2
 generalize World.alloc W1 _=W at *
 have HBX:=Lib.hid hBx
 have HBY:=Lib.hid hBy
 have HWX:=Lib.hid (HN1.out.trans hn2)
 have HWC:Hid (Nx W W):=Nx.refl _
 clear hW1 hBx hBy hn2 hs1 hgx hgy HN1
 have gx0:W.cell? ⟨gx,0,none⟩=some (.slice zA zu zc):=HBX.out.cell 0
 have gx1:W.cell? ⟨gx,1,none⟩=some (.slice zB zv zg):=HBX.out.cell 1
 have gx2:W.cell? ⟨gx,2,none⟩=some (.slice zD zx zj):=HBX.out.cell 2
 have gy0:W.cell? ⟨gy,0,none⟩=some (.slice yA yu yc):=HBY.out.cell 0
 have gy1:W.cell? ⟨gy,1,none⟩=some (.slice yB yv yg):=HBY.out.cell 1
 have gy2:W.cell? ⟨gy,2,none⟩=some (.slice yD yx yj):=HBY.out.cell 2
 obtain ⟨R0,hR0⟩:∃ R,Hid (allEq (fun x y=>x == y) fi gi=R):=⟨_,Lib.hid rfl⟩
 have hcall0:=equal_str W (.slice zA zu zc) (.slice yA yu yc) fi gi (LT.lasts (mvAn HWX.out) HXI.out) (LT.lasts (mvAn HWX.out) HYI.out) HCO.out.1
 rw [hR0.out] at hcall0
 have HCA0:=Lib.hid hcall0
 clear hcall0
 go_wp2_with fail
 refine HCA0.out.mono ?_;rintro e wk0 ⟨rfl,hnx0⟩
 have HWX:=Lib.hid (HWX.out.trans hnx0)
 have HWC:=Lib.hid (HWC.out.trans hnx0)
 clear hnx0 gx0 gy0 gx1 gy1 gx2 gy2 HCA0
 have gx0:wk0.cell? ⟨gx,0,none⟩=some (.slice zA zu zc):=(HBX.out.below HWC.out).cell 0
 have gx1:wk0.cell? ⟨gx,1,none⟩=some (.slice zB zv zg):=(HBX.out.below HWC.out).cell 1
 have gx2:wk0.cell? ⟨gx,2,none⟩=some (.slice zD zx zj):=(HBX.out.below HWC.out).cell 2
 have gy0:wk0.cell? ⟨gy,0,none⟩=some (.slice yA yu yc):=(HBY.out.below HWC.out).cell 0
 have gy1:wk0.cell? ⟨gy,1,none⟩=some (.slice yB yv yg):=(HBY.out.below HWC.out).cell 1
 have gy2:wk0.cell? ⟨gy,2,none⟩=some (.slice yD yx yj):=(HBY.out.below HWC.out).cell 2
 cases R0 with
 | false =>
  have HRF:Hid (R=false):=by unfold Hid;rw [HRE.out];simp [hR0.out]
  go_wp2_with fail
  go_ret
  rw [HRF.out]
  exact ⟨rfl,HWX.out⟩
 | true =>
  obtain ⟨R1,hR1⟩:∃ R,Hid (allEq eqS fs gs=R):=⟨_,Lib.hid rfl⟩
  have hcall1:=equal_spc wk0 (.slice zB zv zg) (.slice yB yv yg) fs gs (LS.lasts (mvAn HWX.out) HXS.out) (LS.lasts (mvAn HWX.out) HYS.out) HCO.out.2.1
  rw [hR1.out] at hcall1
  have HCA1:=Lib.hid hcall1
  clear hcall1
  go_wp2_with fail
  refine HCA1.out.mono ?_;rintro e wk1 ⟨rfl,hnx1⟩
  have HWX:=Lib.hid (HWX.out.trans hnx1)
  have HWC:=Lib.hid (HWC.out.trans hnx1)
  clear hnx1 gx0 gy0 gx1 gy1 gx2 gy2 HCA1
  have gx0:wk1.cell? ⟨gx,0,none⟩=some (.slice zA zu zc):=(HBX.out.below HWC.out).cell 0
  have gx1:wk1.cell? ⟨gx,1,none⟩=some (.slice zB zv zg):=(HBX.out.below HWC.out).cell 1
  have gx2:wk1.cell? ⟨gx,2,none⟩=some (.slice zD zx zj):=(HBX.out.below HWC.out).cell 2
  have gy0:wk1.cell? ⟨gy,0,none⟩=some (.slice yA yu yc):=(HBY.out.below HWC.out).cell 0
  have gy1:wk1.cell? ⟨gy,1,none⟩=some (.slice yB yv yg):=(HBY.out.below HWC.out).cell 1
  have gy2:wk1.cell? ⟨gy,2,none⟩=some (.slice yD yx yj):=(HBY.out.below HWC.out).cell 2
  cases R1 with
  | false =>
   have HRF:Hid (R=false):=by unfold Hid;rw [HRE.out];simp [hR1.out]
   go_wp2_with fail
   go_ret
   rw [HRF.out]
   exact ⟨rfl,HWX.out⟩
  | true =>
   obtain ⟨R2,hR2⟩:∃ R,Hid (allEq eqD fd gd=R):=⟨_,Lib.hid rfl⟩
   have hcall2:=eqFunc_dfn wk1 (.slice zD zx zj) (.slice yD yx yj) fd gd (LD.lasts (mvAn HWX.out) HXD.out) (LD.lasts (mvAn HWX.out) HYD.out) HCO.out.2.2.1 HCO.out.2.2.2
   rw [hR2.out] at hcall2
   have HCA2:=Lib.hid hcall2
   clear hcall2
   go_wp2_with fail
   refine HCA2.out.mono ?_;rintro e wk2 ⟨rfl,hnx2⟩
   have HWX:=Lib.hid (HWX.out.trans hnx2)
   have HWC:=Lib.hid (HWC.out.trans hnx2)
   clear hnx2 gx0 gy0 gx1 gy1 gx2 gy2 HCA2
   have gx0:wk2.cell? ⟨gx,0,none⟩=some (.slice zA zu zc):=(HBX.out.below HWC.out).cell 0
   have gx1:wk2.cell? ⟨gx,1,none⟩=some (.slice zB zv zg):=(HBX.out.below HWC.out).cell 1
   have gx2:wk2.cell? ⟨gx,2,none⟩=some (.slice zD zx zj):=(HBX.out.below HWC.out).cell 2
   have gy0:wk2.cell? ⟨gy,0,none⟩=some (.slice yA yu yc):=(HBY.out.below HWC.out).cell 0
   have gy1:wk2.cell? ⟨gy,1,none⟩=some (.slice yB yv yg):=(HBY.out.below HWC.out).cell 1
   have gy2:wk2.cell? ⟨gy,2,none⟩=some (.slice yD yx yj):=(HBY.out.below HWC.out).cell 2
   cases R2 with
   | false =>
    have HRF:Hid (R=false):=by unfold Hid;rw [HRE.out];simp [hR2.out]
    go_wp2_with fail
    go_ret
    rw [HRF.out]
    exact ⟨rfl,HWX.out⟩
   | true =>
    have HRF:Hid (R=true):=by unfold Hid;rw [HRE.out];simp [hR0.out,hR1.out,hR2.out]
    go_wp2_with fail
    go_ret
    rw [HRF.out]
    exact ⟨rfl,HWX.out⟩
end Go.Proofs.YtjggghfekakogaaGreatDoor
namespace Go.Proofs.YtjggghfekakogaaGreatDoor
open Go.RowKit Go.Sort
def TabB (B:Nat) (w:World):Prop:=∀ w',Below B w w'→Tab w'
theorem TabB.here {B:Nat} {w:World} (h:TabB B w):Tab w:=h w (Below.refl _ _)
theorem TabB.on {B:Nat} {w w1:World} (h:TabB B w) (hb:Below B w w1):TabB B w1:=fun w' h'=>h w' (hb.trans h')
theorem TabB.of {w:World} (h:Tab w):TabB w.heap.size w:=fun w' hb=>Lib.tabBelow_of_tabIs h w' hb
theorem TabB.less {B B':Nat} {w:World} (h:TabB B w) (hB:B≤B'):TabB B' w:=fun w' hb=>h w' (hb.mono hB)
theorem decS_len20 (u:Nat) (h:u<18446744073709551616):(decS u).length≤20:=decS_len 19 u (by omega)
set_option maxRecDepth 100000 in
set_option maxHeartbeats 1600000 in
theorem appendUint_any (B u:Nat) (v:Value) (xs:List UInt8) (w:World) (hu64:u<18446744073709551616) (hown:Ob B w v xs) (ht:Tab w) (hl:(xs.length:Int)≤100000000) :
  Calls Tryz.prog 203 #[v,.int .u64 u,.int .i64 10] w fun e w'=>∃ v',e = .returned v'∧Ob B w' v' (xs++decS u)∧Gw v w v' w':=by
 have HOWN:=Lib.hid hown
 have hl20:=decS_len20 u hu64
 have hu2:(u:Int)≤18446744073709551615:=by omega
 by_cases hs:u<100
 ·have hsI:(u:Int)<100:=by omega
  clear hown
  go_enter Tryz.func203,Tryz.ntmps203
  go_wp2_with fail
  refine (Tryz.internal_strconv_small u hs _).mono ?_;rintro e w' ⟨rfl,rfl⟩
  rw [decDigits_decS]
  have HT:Hid (Tx ⟨(decS u).toArray⟩ (decS u)):=Tx.of _
  generalize (⟨(decS u).toArray⟩:ByteArray)=s at HT ⊢
  go_wp2_with (refine wpList_apS _ rfl _ _ rfl v xs rfl HOWN.out s (decS u) HT.out rfl (by omega) ?_;intro v1 w1 ho hg;have HO:=Lib.hid ho;have HG:=Lib.hid hg;clear ho hg)
  go_ret
  exact ⟨v1,rfl,HO.out,HG.out⟩
 ·have hu1:100≤u:=by omega
  have hu3:(100:Int)≤(u:Int):=by omega
  have hnd20:Lib.nDigits u≤20:=by have:=Lib.numDigits_eq u (by omega) hu64;split at this <;> omega
  have hal:Tryz.prog.arrayLen 247 = 24:=by kernel_rfl
  have hsl:∀ W:World,(Instr.sliceAt 247 (.pointer (some ⟨w.heap.size,0,none⟩)) none (some (.int .i64 (Lib.nDigits u:Int))) none).run Tryz.prog W = .ok (.slice (some ⟨w.heap.size,0,none⟩) (Lib.nDigits u) 24) W:=fun W=>by
   rw [run_sliceAt_array_h W 247 ⟨w.heap.size,0,none⟩ (by kernel_rfl) .i64 (Lib.nDigits u:Int) (by omega) (by rw [hal];omega)]
   go_simp
  have hH0:=holds0 w 247 (Lib.nDigits u) (by omega)
  have hfmt:=Tryz.internal_strconv_formatBase10 w.heap.size 0 24 u (Array.replicate (Lib.nDigits u) 0) (w.alloc (.cells Lib.zeros24 247)) hH0 (by rw [Array.size_replicate];exact Lib.lt_pow_nDigits u) hu64 (by rw [Array.size_replicate];omega)
  rw [Array.size_replicate] at hfmt
  have HH0:=Lib.hid hH0
  clear hH0 hal hs hown
  go_enter Tryz.func203,Tryz.ntmps203
  go_wp2_with fail
  refine (Tryz.internal_strconv_numDigits u (by omega) hu64 _ (Lib.tabIs_alloc ht _)).mono ?_;rintro e w' ⟨rfl,rfl⟩
  go_wp2_with fail
  refine hfmt.mono ?_
  rintro e w' ⟨rfl,k,v',dk,rfl,hF⟩
  have hcells:∀ j u',((decS u).map bv)[j]? = some u'→((putRow (fun (b:UInt8)=>Value.int .u8 (b.toNat:Int)) (w.alloc (.cells Lib.zeros24 247)) w.heap.size 0 dk).drewN k).cell? ((⟨w.heap.size,0,none⟩:Addr).add j)=some u':=by
   rw [← decDigits_decS]
   intro j u' hj
   have hjl:j<(Lib.decDigits u).length:=by simpa using (List.getElem?_eq_some_iff.1 hj).1
   have e5:((Lib.decDigits u).map bv)[j]? = some (Value.int .u8 ((Lib.decDigits u)[j].toNat:Int)):=by simp [bv,hjl]
   rw [e5] at hj
   cases hj
   rw [Lib.row_is_numeral hF j hjl,Lib.add_plain,World.cell?_drewN]
   exact cell?_putRow (fun (b:UInt8)=>Value.int .u8 (b.toNat:Int)) _ w.heap.size 0 _ dk HH0.out (by rw [hF.size,Array.size_replicate]) j (by rw [hF.size];rw [Lib.decDigits_length] at hjl;exact hjl)
  have hnx:Nx w ((putRow (fun (b:UInt8)=>Value.int .u8 (b.toNat:Int)) (w.alloc (.cells Lib.zeros24 247)) w.heap.size 0 dk).drewN k):=Nx.dr (put_nx w (w.alloc (.cells Lib.zeros24 247)) (nx0 _ _) w.heap.size 0 dk (Nat.le_refl _)) k
  have hdl:Lib.nDigits u=(decS u).length:=by rw [← decDigits_decS,Lib.decDigits_length]
  rw [hdl]
  simp only [hdl] at hsl
  generalize (putRow (fun (b:UInt8)=>Value.int .u8 (b.toNat:Int)) (w.alloc (.cells Lib.zeros24 247)) w.heap.size 0 dk).drewN k=W2 at hcells hnx ⊢
  generalize w.heap.size=g at hcells hsl ⊢
  have HC:=Lib.hid hcells
  have HNX:=Lib.hid hnx
  have HO2:=Lib.hid (HOWN.out.nx hnx)
  clear hfmt HH0 hF hcells hnx hdl
  go_wp2_with (refine wpList_apR _ rfl _ _ rfl v xs rfl HO2.out ⟨g,0,none⟩ 24 (decS u) rfl HC.out (by omega) ?_;intro v1 w1 ho hg;have HO:=Lib.hid ho;have HG:=Lib.hid hg;clear ho hg)
  go_ret
  exact ⟨v1,rfl,HO.out,(Gw.nx HNX.out v).trans HG.out⟩
set_option maxRecDepth 100000 in
set_option maxHeartbeats 1600000 in
theorem appendInt_in (B:Nat) (i:Int) (v:Value) (xs:List UInt8) (w:World) (h0 : -9223372036854775808≤i) (h1:i≤9223372036854775807) (hown:Ob B w v xs) (ht:TabB B w) (hl:(xs.length:Int)≤10000000) :
  Calls Tryz.prog 151 #[v,.int .i64 i,.int .i64 10] w fun e w'=>∃ v',e = .returned v'∧Ob B w' v' (xs++tenS i)∧Gw v w v' w':=by
 have HOWN:=Lib.hid hown
 have HT:=Lib.hid ht
 by_cases hneg:i<0
 ·obtain ⟨u,hu⟩:∃ u:Nat,(u:Int) = -i:=⟨(-i).toNat,by omega⟩
  have hten:tenS i=45 :: decS u:=by unfold tenS;rw [if_pos hneg,show (-i).toNat=u by omega]
  rw [hten]
  have hw1:IntKind.u64.wrap i=18446744073709551616+i:=by rw [IntKind.wrap_u64];omega
  have hw2:IntKind.u64.wrap (-(18446744073709551616+i))=(u:Int):=by rw [IntKind.wrap_u64];omega
  have hub:u<18446744073709551616:=by omega
  clear hown ht hten hu
  go_enter Tryz.func151,Tryz.ntmps151
  have HB1:=Lib.hid (HOWN.out.nx (nx0 w (.cells #[.int .u8 45] 5)))
  have HC1:Hid ((w.alloc (.cells #[.int .u8 45] 5)).cell? ⟨w.heap.size,0,none⟩=some (bv 45)):=(Blk.new w #[.int .u8 45] 5).cell 0
  go_wp2_with (refine wpList_ap1 _ rfl _ _ rfl v xs rfl HB1.out w.heap.size 45 rfl HC1.out (by omega) ?_;intro v1 w1 ho hg;have HO:=Lib.hid ho;have HG:=Lib.hid ((Gw.nx (nx0 w (.cells #[.int .u8 45] 5)) v).trans hg);clear ho hg)
  refine (appendUint_any B u v1 (xs++[45]) _ hub HO.out ((HT.out.on (HG.out.below HOWN.out)).here) (by rw [List.length_append];simp;omega)).mono ?_;rintro e w' ⟨v2,rfl,ho,hg⟩
  have HO2:=Lib.hid ho;have HG2:=Lib.hid hg;clear ho hg
  go_wp2_with fail
  go_ret
  exact ⟨v2,rfl,HO2.out.cast (by simp),HG.out.trans HG2.out⟩
 ·obtain ⟨u,rfl⟩:∃ u:Nat,i=(u:Int):=⟨i.toNat,by omega⟩
  have hten:tenS (u:Int)=decS u:=by unfold tenS;rw [if_neg hneg];rfl
  rw [hten]
  have hw1:IntKind.u64.wrap (u:Int)=(u:Int):=by rw [IntKind.wrap_u64];omega
  have hg1:decide ((u:Int)<0)=false:=decide_eq_false hneg
  clear hown ht hten
  go_enter Tryz.func151,Tryz.ntmps151
  go_wp2_with fail
  refine (appendUint_any B u v xs _ (by omega) HOWN.out HT.out.here (by omega)).mono ?_;rintro e w' ⟨v1,rfl,ho,hg⟩
  have HO:=Lib.hid ho;have HG:=Lib.hid hg;clear ho hg
  go_wp2_with fail
  go_ret
  exact ⟨v1,rfl,HO.out,HG.out⟩
set_option maxRecDepth 100000 in
set_option maxHeartbeats 1600000 in
theorem appendInt_any (B:Nat) (i:Int) (v:Value) (xs:List UInt8) (w:World) (h0 : -9223372036854775808≤i) (h1:i≤9223372036854775807) (hown:Ob B w v xs) (ht:TabB B w) (hl:(xs.length:Int)≤10000000) :
  Calls Tryz.prog 102 #[v,.int .i64 i,.int .i64 10] w fun e w'=>∃ v',e = .returned v'∧Ob B w' v' (xs++tenS i)∧Gw v w v' w':=by
 go_enter Tryz.func102,Tryz.ntmps102
 go_wp2_with fail
 refine (appendInt_in B i v xs _ h0 h1 hown ht hl).mono ?_;rintro e w' ⟨v1,rfl,ho,hg⟩
 have HO:=Lib.hid ho;have HG:=Lib.hid hg;clear ho hg
 go_wp2_with fail
 go_ret
 exact ⟨v1,rfl,HO.out,HG.out⟩
end Go.Proofs.YtjggghfekakogaaGreatDoor
namespace Go.Proofs.YtjggghfekakogaaGreatDoor
def commaF:List (List UInt8)→List UInt8
 | []=>[]
 | [x]=>x
 | x :: y :: r=>x++[44,32]++commaF (y :: r)
theorem commaF_snoc:∀ (xs:List (List UInt8)) (x:List UInt8),commaF (xs++[x])=if xs=[] then x else commaF xs++[44,32]++x
 | [],x=>rfl
 | [a],x=>by simp [commaF]
 | a :: b :: r,x=>by
  have h:=commaF_snoc (b :: r) x
  rw [if_neg (by simp)] at h ⊢
  show a++[44,32]++commaF ((b :: r)++[x])=(a++[44,32]++commaF (b :: r))++[44,32]++x
  rw [h]
  simp
theorem commaF_len (xs ys:List (List UInt8)):(commaF xs).length≤(commaF (xs++ys)).length:=by
 induction ys generalizing xs with
 | nil=>rw [List.append_nil];exact Nat.le_refl _
 | cons y ys ih =>
  have h1:=ih (xs++[y])
  rw [List.append_assoc] at h1
  refine Nat.le_trans ?_ h1
  rw [commaF_snoc]
  split
  ·rename_i h;subst h;exact Nat.zero_le _
  ·(simp;try omega)
theorem commaF_step (xs:List (List UInt8)) (i:Nat) (hi:i<xs.length):commaF (xs.take (i+1))=(commaF (xs.take i)++if i=0 then [] else [44,32])++xs[i]∧(commaF (xs.take (i+1))).length≤(commaF xs).length:=by
 refine ⟨?_,?_⟩
 ·rw [List.take_add_one,List.getElem?_eq_getElem hi]
  show commaF (xs.take i++[xs[i]])=_
  rw [commaF_snoc]
  by_cases h0:i=0
  ·subst h0
   simp [commaF]
  ·rw [if_neg (by intro h;have:=congrArg List.length h;rw [List.length_take,List.length_nil] at this;omega),if_neg h0]
 ·have:=commaF_len (xs.take (i+1)) (xs.drop (i+1))
  rw [List.take_append_drop] at this
  exact this
def pairsF:List (List UInt8)→List (List UInt8)
 | a :: b :: r=>(a++[58,32]++b) :: pairsF r
 | _=>[]
theorem pairsF_snoc:∀ (n:Nat) (xs:List (List UInt8)) (a b:List UInt8),xs.length=2 * n→pairsF (xs++[a,b])=pairsF xs++[a++[58,32]++b]
 | 0,[],a,b,_=>rfl
 | n+1,x :: y :: r,a,b,h=>by
  have:=pairsF_snoc n r a b (by simp at h;omega)
  show (x++[58,32]++y) :: pairsF (r++[a,b])=_
  rw [this];rfl
theorem pairsF_app:∀ (n:Nat) (xs ys:List (List UInt8)),xs.length=2 * n→pairsF (xs++ys)=pairsF xs++pairsF ys
 | 0,[],ys,_=>by simp [pairsF]
 | n+1,x :: y :: r,ys,h=>by
  have:=pairsF_app n r ys (by simp at h;omega)
  show (x++[58,32]++y) :: pairsF (r++ys)=_
  rw [this];rfl
theorem pairsF_odd:∀ (n:Nat) (xs:List (List UInt8)) (a:List UInt8),xs.length=2 * n→pairsF (xs++[a])=pairsF xs
 | 0,[],a,_=>rfl
 | n+1,x :: y :: r,a,h=>by
  have:=pairsF_odd n r a (by simp at h;omega)
  show (x++[58,32]++y) :: pairsF (r++[a])=_
  rw [this];rfl
theorem pairsF_len:∀ (n:Nat) (xs:List (List UInt8)),xs.length=2 * n→(pairsF xs).length=n
 | 0,[],_=>rfl
 | n+1,x :: y :: r,h=>by
  have:=pairsF_len n r (by simp at h;omega)
  show (pairsF r).length+1=_
  rw [this]
theorem pairsF_step (xs:List (List UInt8)) (i m:Nat) (hm:i=2 * m) (h0:i<xs.length) (h1:i+1<xs.length) :
  commaF (pairsF (xs.take (i+2)))=(commaF (pairsF (xs.take i))++if i=0 then [] else [44,32])++(xs[i]++[58,32]++xs[i+1])∧(commaF (pairsF (xs.take (i+2)))).length≤(commaF (pairsF xs)).length:=by
 refine ⟨?_,?_⟩
 ·have ht:xs.take (i+2)=xs.take i++[xs[i],xs[i+1]]:=by
   have e1:=List.take_append_getElem (l:=xs) (i:=i) h0
   have e2:=List.take_append_getElem (l:=xs) (i:=i+1) h1
   show xs.take (i+1+1)=_
   rw [← e2,← e1,List.append_assoc]
   rfl
  have hl:(xs.take i).length=2 * m:=by rw [List.length_take];omega
  rw [ht,pairsF_snoc m _ _ _ hl,commaF_snoc]
  have hp:=pairsF_len m _ hl
  by_cases hz:i=0
  ·subst hz
   simp [pairsF,commaF]
  ·rw [if_neg (by intro h;rw [h,List.length_nil] at hp;omega),if_neg hz]
 ·have hp:=pairsF_app (m+1) (xs.take (i+2)) (xs.drop (i+2)) (by rw [List.length_take];omega)
  rw [List.take_append_drop] at hp
  rw [hp]
  exact commaF_len _ _
theorem pairsF_end (xs:List (List UInt8)) (i m:Nat) (hm:i=2 * m) (h0:i≤xs.length) (h1:¬ i+1<xs.length):pairsF (xs.take i)=pairsF xs:=by
 by_cases he:xs.length=i
 ·rw [← he,List.take_length]
 ·have h2:xs.length=i+1:=by omega
  have ht:xs=xs.take i++[xs[i]'(by omega)]:=by
   have:=List.take_append_getElem (l:=xs) (i:=i) (by omega)
   rw [this,← h2,List.take_length]
  have:=pairsF_odd m (xs.take i) (xs[i]'(by omega)) (by rw [List.length_take];omega)
  rw [← ht] at this
  exact this.symm
section
variable (tn:Int→List UInt8) (sh:Nat→List UInt8)
def constF:Nat→Con→List UInt8
 | 0,_=>[]
 | n+1,.mk k i d s l =>
  if k=1 then tn i else if k=2 then sh d else if k=3 then (if s.contains 34 then 39 :: (s++[39]) else 34 :: (s++[34])) else if k=4 then s
  else if k=5 then 91 :: (commaF (l.map (constF n))++[93]) else 123 :: (commaF (pairsF (l.map (constF n)))++[125])
def fieldF (f:Fld):List UInt8 :=
 (if f.hasID then tn f.id++[58,32] else [])++(if f.req=1 then [114,101,113,117,105,114,101,100,32] else if f.req=2 then [111,112,116,105,111,110,97,108,32] else [])++f.ty++[32]++f.nm ++
  (if f.hasIn then [32,61,32]++constF tn sh 13 f.ini else [])
def fieldsF (l:List Fld):List UInt8:=commaF (l.map (fieldF tn sh))
end
def okC:Nat→Con→Prop
 | 0,_=>False
 | n+1,.mk k i d s l=>(-9223372036854775808≤i∧i≤9223372036854775807)∧d<18446744073709551616∧l.length≤100000∧∀ y ∈ l,okC n y
end Go.Proofs.YtjggghfekakogaaGreatDoor
namespace Go.Proofs.YtjggghfekakogaaGreatDoor
open Go.RowKit
theorem flatten_step (ls:List (List UInt8)) (i:Nat) (h:i<ls.length):(ls.take (i+1)).flatten=(ls.take i).flatten++ls[i]∧((ls.take i).flatten.length:Int)+(ls[i].length:Int)≤(ls.flatten.length:Int):=by
 have h1:(ls.take (i+1)).flatten=(ls.take i).flatten++ls[i]:=by
  rw [← List.take_append_getElem h,List.flatten_append];simp
 refine ⟨h1,?_⟩
 have h2:ls.flatten=(ls.take (i+1)).flatten++(ls.drop (i+1)).flatten:=by rw [← List.flatten_append,List.take_append_drop]
 have:=congrArg List.length h1
 have h3:=congrArg List.length h2
 rw [List.length_append] at this h3
 omega
set_option maxRecDepth 100000 in
set_option maxHeartbeats 1600000 in
theorem appendAll_any (B g:Nat) (ls:List (List UInt8)) (v:Value) (xs:List UInt8) (w:World) (hown:Ob B w v xs) (hB:Blk w g g (ls.map bt).toArray 9) (hn:ls.length≤1000) (hl:(xs.length:Int)+(ls.flatten.length:Int)≤100000000) :
  Calls Tryz.prog 46 #[v,.slice (some ⟨g,0,none⟩) ls.length ls.length] w fun e w'=>∃ v',e = .returned v'∧Ob B w' v' (xs++ls.flatten)∧Gw v w v' w':=by
 have HOWN:=Lib.hid hown
 have HB:=Lib.hid hB
 have HL:=Lib.hid hl
 have hnI:(ls.length:Int)≤1000:=by omega
 clear hown hB hl
 go_enter Tryz.func46,Tryz.ntmps46
 go_wp2_with fail
 go_loopw [0,9] (fun bv' iv wr=>∃ i:Nat,iv = .int .i64 (i:Int)∧i≤ls.length∧Hid (Ob B wr bv' (xs++(ls.take i).flatten))∧Hid (Gw v w bv' wr)) (fun _ iv _=>2000 - (intOf iv).toNat)
 case atStart=>exact ⟨0,rfl,Nat.zero_le _,Lib.hid (HOWN.out.cast (by simp)),Lib.hid (Gw.refl _ _)⟩
 case round =>
  obtain ⟨i,rfl,hi,HO,HG⟩:=hrel
  have hiI:(i:Int)≤1000:=by omega
  by_cases hlt:i<ls.length
  ·have q1:decide ((i:Int)<(ls.length:Int))=true:=decide_eq_true (by omega)
   have q2:(i:Int)<(ls.length:Int):=by omega
   obtain ⟨hst,hle⟩:=flatten_step ls i hlt
   obtain ⟨l,hll⟩:∃ l,ls[i]=l:=⟨_,rfl⟩
   rw [hll] at hst hle
   obtain ⟨hb2,-⟩:=HG.out.blk HB.out (HOWN.out.blk HB.out (by decide))
   have c0:wr.cell? ⟨g,i,none⟩=some (.string ⟨l.toArray⟩):=by
    rw [hb2.cell i];simp [hlt,hll,bt]
   have HST:=Lib.hid hst
   have hz:((xs++(ls.take i).flatten).length:Int)+(l.length:Int)≤1000000000:=by
    have:=HL.out
    rw [List.length_append];omega
   clear hst hle hll hb2
   go_wp2_with (refine wpList_apS _ rfl _ _ rfl _ (xs++(ls.take i).flatten) rfl HO.out ⟨l.toArray⟩ l (Tx.of l) rfl hz ?_;intro v1 w1 ho hg;have HO1:=Lib.hid ho;have HG1:=Lib.hid (HG.out.trans hg);clear ho hg)
   go_roundw
   case rel=>exact ⟨i+1,by go_num,hlt,Lib.hid (HO1.out.cast (by rw [HST.out,List.append_assoc])),HG1⟩
   case measure=>simp [intOf];omega
  ·obtain rfl:i=ls.length:=by omega
   have q1:decide ((ls.length:Int)<(ls.length:Int))=false:=decide_eq_false (by omega)
   clear hlt hi
   go_wp2_with fail
   go_ret
   exact ⟨_,rfl,HO.out.cast (by rw [List.take_length]),HG.out⟩
theorem appendAll_new {B:Nat} (ls:List (List UInt8)) {v:Value} {xs:List UInt8} {w:World} (hown:Ob B w v xs) (hn:ls.length≤1000) (hl:(xs.length:Int)+(ls.flatten.length:Int)≤100000000) (g:Nat) (hg:w.heap.size=g) :
  Calls Tryz.prog 46 #[v,.slice (some ⟨g,0,none⟩) ls.length ls.length] (w.alloc (.cells (ls.map bt).toArray 9)) fun e w'=>∃ v',e = .returned v'∧Hid (Ob B w' v' (xs++ls.flatten))∧Hid (Gw v w v' w'):=by
 subst hg
 refine (appendAll_any B w.heap.size ls v xs _ (hown.nx (nx0 _ _)) (Blk.new w _ _) hn hl).mono ?_
 rintro e w' ⟨v',rfl,ho,hg⟩
 exact ⟨v',rfl,Lib.hid ho,Lib.hid ((Gw.nx (nx0 _ _) v).trans hg)⟩
theorem index_has:∀ l:List UInt8,decide (0≤Lib.indexByte l 34)=l.contains 34
 | []=>rfl
 | b :: l=>by
  have ih:=index_has l
  have hge:=Lib.indexByte_ge l 34
  rw [List.contains_cons]
  unfold Lib.indexByte
  by_cases h:b=34
  ·subst h;rfl
  ·rw [show (b == 34)=false by simpa using h,show ((34:UInt8) == b)=false by simpa using Ne.symm h,Bool.false_or,← ih]
   simp only [Bool.false_eq_true,if_false]
   split
   ·rename_i h1;rw [beq_iff_eq] at h1;rw [h1]
   ·rename_i h1
    have:Lib.indexByte l 34≠-1:=by simpa using h1
    rw [decide_eq_decide];omega
set_option maxRecDepth 100000 in
set_option maxHeartbeats 1600000 in
theorem appendQuoted_any (B:Nat) (s:ByteArray) (l:List UInt8) (v:Value) (xs:List UInt8) (w:World) (hs:Tx s l) (hown:Ob B w v xs) (hl:(xs.length:Int)+(l.length:Int)≤10000000) :
  Calls Tryz.prog 104 #[v,.string s] w fun e w'=>∃ v',e = .returned v'∧Ob B w' v' (xs++if l.contains 34 then 39 :: (l++[39]) else 34 :: (l++[34]))∧Gw v w v' w':=by
 have HOWN:=Lib.hid hown
 have HS:=Lib.hid hs
 have HL:=Lib.hid hl
 have hix:=index_has l
 rw [← show s.data.toList=l from hs] at hix
 obtain ⟨q,hq⟩:∃ q:UInt8,q=if l.contains 34 then 39 else 34:=⟨_,rfl⟩
 have hres:Hid ((if l.contains 34 then 39 :: (l++[39]) else 34 :: (l++[34]))=[[q],l,[q]].flatten):=by
  unfold Hid;rw [hq];split <;> simp
 rw [hres.out]
 obtain ⟨g,hg⟩:∃ g,w.heap.size=g:=⟨_,rfl⟩
 have hB1:=Blk.new w ([[q],l,[q]].map bt).toArray 9
 rw [hg] at hB1
 have hcall:=appendAll_any B g [[q],l,[q]] v xs (w.alloc (.cells ([[q],l,[q]].map bt).toArray 9)) (hown.nx (nx0 _ _)) hB1 (show 3≤1000 by decide) (by simp;omega)
 have HC:=Lib.hid hcall
 have hse:s=⟨l.toArray⟩:=hs.eq
 have HSE:=Lib.hid hse
 cases hc:l.contains 34 with
 | true =>
  rw [hc] at hq
  rw [show s.data.toList=l from hs,hc] at hix
  obtain rfl:q=39:=hq
  clear hs hown hl hcall hB1 hse hc
  go_enter Tryz.func104,Tryz.ntmps104
  go_wp2_with fail
  refine (Tryz.strings_Contains_one s 34 _).mono ?_;rintro e w' ⟨rfl,rfl⟩
  rw [show s.data.toList=l from HS.out,hix]
  go_wp2_with fail
  rw [HSE.out]
  refine HC.out.mono ?_;rintro e w' ⟨v1,rfl,ho,hg⟩
  have HO1:=Lib.hid ho;have HG1:=Lib.hid ((Gw.nx (nx0 _ _) v).trans hg);clear ho hg
  go_wp2_with fail
  go_ret
  exact ⟨v1,rfl,HO1.out,HG1.out⟩
 | false =>
  rw [hc] at hq
  rw [show s.data.toList=l from hs,hc] at hix
  obtain rfl:q=34:=hq
  clear hs hown hl hcall hB1 hse hc
  go_enter Tryz.func104,Tryz.ntmps104
  go_wp2_with fail
  refine (Tryz.strings_Contains_one s 34 _).mono ?_;rintro e w' ⟨rfl,rfl⟩
  rw [show s.data.toList=l from HS.out,hix]
  go_wp2_with fail
  rw [HSE.out]
  refine HC.out.mono ?_;rintro e w' ⟨v1,rfl,ho,hg⟩
  have HO1:=Lib.hid ho;have HG1:=Lib.hid ((Gw.nx (nx0 _ _) v).trans hg);clear ho hg
  go_wp2_with fail
  go_ret
  exact ⟨v1,rfl,HO1.out,HG1.out⟩
end Go.Proofs.YtjggghfekakogaaGreatDoor
