/- The document's test of fields. -/
import Derived.Test.YtjggghfekakogaaGreatDoorH30
import Derived.Test.YtjggghfekakogaaGreatDoorH15
set_option linter.unusedVariables false
set_option linter.unusedSimpArgs false
set_option linter.unnecessarySimpa false
namespace Go.Proofs.YtjggghfekakogaaGreatDoor
open Go.RowKit
set_option maxRecDepth 100000 in
set_option maxHeartbeats 12800000 in
theorem dsameFields (w:World) (v1 v2:Value) (la lb:List Fld) (h1:LF w An v1 la) (h2:LF w An v2 lb) (hla:la.length≤100000) (hco:∀ f ∈ la,lnC 13 f.ini) :
  Calls Tryz.prog 80 #[v1,v2] w fun e w'=>e = .returned (.bool (allEq eqF la lb))∧Nx w w':=by
 obtain ⟨A1,a1,zs,hv1,hzl,-,-,hrd1,hall1⟩:=h1.sl fldA_size
 obtain ⟨A2,a2,ys,hv2,hyl,-,-,hrd2,hall2⟩:=h2.sl fldA_size
 subst hv1 hv2
 have H1:=Lib.hid h1
 have H2:=Lib.hid h2
 have HCO:=Lib.hid hco
 have hlaI:(la.length:Int)≤100000:=by omega
 clear h1 h2 hco hrd1 hrd2 hall1 hall2 hzl hyl
 by_cases hlen:la.length=lb.length
 ·rw [← hlen]
  have HLE:=Lib.hid hlen
  clear hlen
  go_enter Tryz.func80,Tryz.ntmps80
  go_wp2_with fail
  go_loopw [5] (fun iv wr=>∃ (i:Nat),iv = .int .i64 (i:Int)∧i≤la.length∧Hid (∀ j (h1:j<la.length) (h2:j<lb.length),j<i→eqF la[j] lb[j]=true)∧Hid (Nx w wr)) (fun iv _=>(200000 - intOf iv).toNat)
  case atStart=>exact ⟨0,rfl,Nat.zero_le _,Lib.hid (fun j _ _ h=>absurd h (Nat.not_lt_zero _)),Lib.hid (Nx.refl _)⟩
  case round =>
   obtain ⟨i,rfl,hi,HEQ,HO⟩:=hrel
   have hiI:(i:Int)≤100000:=by omega
   by_cases hlt:i<la.length
   ·have q1:decide ((i:Int)<(la.length:Int))=true:=decide_eq_true (by omega)
    have q2:(i:Int)<(la.length:Int):=by omega
    have hltb:i<lb.length:=by have:=HLE.out;omega
    have HLTB:=Lib.hid hltb
    have hr1:LF wr An (.slice A1 la.length a1) la:=LF.lasts (mvAn HO.out) H1.out
    have hr2:LF wr An (.slice A2 lb.length a2) lb:=LF.lasts (mvAn HO.out) H2.out
    obtain ⟨A',ac',zs',hlv,hzl,hzc,hzm,hrd,hall⟩:=hr1.sl fldA_size
    injection hlv with h1 h2 h3
    subst h1 h3
    clear h2
    obtain ⟨g1,rfl,hg1,hcs⟩:=hrd (by omega)
    obtain ⟨Z,hZ⟩:∃ Z,zs'[i]'(by omega)=Z:=⟨_,rfl⟩
    have hrc:RF wr An Z la[i]:=by
     have:=hall.at_ i (by omega) hlt
     rw [hZ] at this
     exact RF.lasts ⟨fun _ _ _=>rfl,fun _ _ _=>trivial⟩ this
    obtain ⟨A'',ac'',ys',hlv,hyl,hyc,hym,hrd',hall'⟩:=hr2.sl fldA_size
    injection hlv with h1 h2 h3
    subst h1 h3
    clear h2
    obtain ⟨g2,rfl,hg2,hcs'⟩:=hrd' (by omega)
    obtain ⟨Y,hY⟩:∃ Y,ys'[i]'(by omega)=Y:=⟨_,rfl⟩
    have hrdd:RF wr An Y lb[i]:=by
     have:=hall'.at_ i (by omega) hltb
     rw [hY] at this
     exact RF.lasts ⟨fun _ _ _=>rfl,fun _ _ _=>trivial⟩ this
    obtain ⟨zh,zi,zq,zt,zn,zb,⟨zk,zm,zd,zs,zl⟩⟩:=Z
    obtain ⟨zA,zu,zc,rfl⟩:∃ A k cap,zl = .slice A k cap:=hrc.2.2.2.2.2.2.slv
    obtain ⟨yh,yi,yq,yt,yn,yb,⟨yk,ym,yd,ys,yl⟩⟩:=Y
    obtain ⟨yA,yu,yc,rfl⟩:∃ A k cap,yl = .slice A k cap:=hrdd.2.2.2.2.2.2.slv
    have hcell:∀ j,j<11→wr.cell? ⟨g1,i * 11+j,none⟩=(fldA ⟨zh,zi,zq,zt,zn,zb,⟨zk,zm,zd,zs,.slice zA zu zc⟩⟩)[j]?:=fun j hj=>by rw [hcs i (by omega) j hj,hZ]
    have hcell2:∀ j,j<11→wr.cell? ⟨g2,i * 11+j,none⟩=(fldA ⟨yh,yi,yq,yt,yn,yb,⟨yk,ym,yd,ys,.slice yA yu yc⟩⟩)[j]?:=fun j hj=>by rw [hcs' i (by omega) j hj,hY]
    have HCE:=Lib.hid hcell
    have HCE2:=Lib.hid hcell2
    obtain ⟨F,hF⟩:∃ F,la[i]=F:=⟨_,rfl⟩
    obtain ⟨G,hG⟩:∃ G,lb[i]=G:=⟨_,rfl⟩
    rw [hF] at hrc
    rw [hG] at hrdd
    obtain ⟨fh,fi,fq,ft,fn,fb,fc⟩:=F
    obtain ⟨gh,gi,gq,gt,gn,gb',gc⟩:=G
    obtain ⟨rfl,rfl,rfl,rfl,rfl,rfl,hcx⟩:zh=fh∧zi=fi∧zq=fq∧zt=ft∧zn=fn∧zb=fb∧RC 13 wr An ⟨zk,zm,zd,zs,.slice zA zu zc⟩ fc:=hrc
    obtain ⟨rfl,rfl,rfl,rfl,rfl,rfl,hcy⟩:yh=gh∧yi=gi∧yq=gq∧yt=gt∧yn=gn∧yb=gb'∧RC 13 wr An ⟨yk,ym,yd,ys,.slice yA yu yc⟩ gc:=hrdd
    have HCX:=Lib.hid hcx
    have HCY:=Lib.hid hcy
    have HLF:Hid (lnC 13 fc):=by have:=HCO.out _ (List.getElem_mem hlt);rw [hF] at this;exact this
    obtain ⟨R,hR⟩:∃ R,Hid (eqF la[i] (lb[i]'HLTB.out)=R):=⟨_,Lib.hid rfl⟩
    have HRE:Hid (R=((zh == yh) && (zi == yi) && (zq == yq) && (zt == yt) && (zn == yn) && (zb == yb) && eqC 13 fc gc)):=by unfold Hid;rw [← hR.out,hF,show lb[i]'HLTB.out=_ from hG];rfl
    have HG1:=Lib.hid hg1
    have HG2:=Lib.hid hg2
    clear hltb hcs hcs' hcell hcell2 hall hall' hr1 hr2 hZ hY hcx hcy hF hG hzl hyl hzc hzm hyc hym hrd' hrd hg1 hg2
    go_wp2_with fail
    refine RI.wp_region_X (fun ls x w'=>Two wr 59 11 #[.bool zh,.int .i64 zi,.int .i64 (zq:Int),.string ⟨zt.toArray⟩,.string ⟨zn.toArray⟩,.bool zb,.int .i64 (zk:Int),.int .i64 zm,.int .u64 (zd:Int),.string ⟨zs.toArray⟩,.slice zA zu zc] #[.bool yh,.int .i64 yi,.int .i64 (yq:Int),.string ⟨yt.toArray⟩,.string ⟨yn.toArray⟩,.bool yb,.int .i64 (yk:Int),.int .i64 ym,.int .u64 (yd:Int),.string ⟨ys.toArray⟩,.slice yA yu yc] (fun j:Nat=>match j with | 0=>some (.slice (some ⟨g1,0,none⟩) la.length a1) | 1=>some (.int .i64 (i:Int)) | 2=>some (.pointer (some ⟨g1,i * 11,none⟩)) | 3=>some (.agg #[.bool zh,.int .i64 zi,.int .i64 (zq:Int),.string ⟨zt.toArray⟩,.string ⟨zn.toArray⟩,.bool zb,.int .i64 (zk:Int),.int .i64 zm,.int .u64 (zd:Int),.string ⟨zs.toArray⟩,.slice zA zu zc]) | 4=>some (.slice (some ⟨g2,0,none⟩) la.length a2) | 5=>some (.int .i64 (i:Int)) | 6=>some (.pointer (some ⟨g2,i * 11,none⟩)) | 7=>some (.agg #[.bool yh,.int .i64 yi,.int .i64 (yq:Int),.string ⟨yt.toArray⟩,.string ⟨yn.toArray⟩,.bool yb,.int .i64 (yk:Int),.int .i64 ym,.int .u64 (yd:Int),.string ⟨ys.toArray⟩,.slice yA yu yc]) | _=>none) 8 9 10 11 (fun j=>ls.getD j false) x w') rfl (by kernel_rfl) (by kernel_rfl) (fun x=>Two.start _ _ _ _ _ _ _ _ _ _ _ _) ?_ ?_
    ·refine ⟨?_,?_,?_,?_,?_,?_,?_,?_,?_,?_,?_,?_,trivial⟩
     ·intro a x ls w' hS hsz hni hcl hin hout hd K hK
      have o:a.eval (.tmp 0) = .slice (some ⟨g1,0,none⟩) la.length a1:=hout 0 (by kernel_rfl)
      have:=hK w' (.slice (some ⟨g1,0,none⟩) la.length a1) (by refine two_upd (by rw [hsz];decide) ?_;exact hS.const rfl (by decide) (by decide) (by decide) (by decide))
      rw [← o] at this
      exact this
     ·intro a x ls w' hS hsz hni hcl hin hout hd K hK
      have o:a.eval (.tmp 5) = .int .i64 (i:Int):=hout 5 (by kernel_rfl)
      have:=hK w' (.int .i64 (i:Int)) (by refine two_upd (by rw [hsz];decide) ?_;exact hS.const rfl (by decide) (by decide) (by decide) (by decide))
      rw [← o] at this
      exact this
     ·intro a x ls w' hS hsz hni hcl hin hout hd K hK
      have y1:=hd ⟨0,.data⟩ (by simp) rfl
      have y2:=hd ⟨1,.data⟩ (by simp) rfl
      have i19:a.tmps.getD 19 undef = .slice (some ⟨g1,0,none⟩) la.length a1:=(hin 19 0 (by kernel_rfl) (show 19<75 by decide)).trans (hS.cs 0 _ rfl y1)
      have j19:=i19
      rw [Array.getD_eq_getD_getElem?] at j19
      have i20:a.tmps.getD 20 undef = .int .i64 (i:Int):=(hin 20 1 (by kernel_rfl) (show 20<75 by decide)).trans (hS.cs 1 _ rfl y2)
      have j20:=i20
      rw [Array.getD_eq_getD_getElem?] at j20
      have:=hK w' (.pointer (some ⟨g1,i * 11,none⟩)) (by refine two_upd (by rw [hsz];decide) ?_;exact hS.const rfl (by decide) (by decide) (by decide) (by decide))
      clear hin hout hd hcl hS hK
      go_simp
      exact this
     ·intro a x ls w' hS hsz hni hcl hin hout hd K hK
      have y1:=hd ⟨2,.data⟩ (by simp) rfl
      have i21:a.tmps.getD 21 undef = .pointer (some ⟨g1,i * 11,none⟩):=(hin 21 2 (by kernel_rfl) (show 21<75 by decide)).trans (hS.cs 2 _ rfl y1)
      have j21:=i21
      rw [Array.getD_eq_getD_getElem?] at j21
      have l0:w'.cell? ⟨g1,i * 11,none⟩=some (.bool zh):=(hS.nx.cell (p:=⟨g1,i * 11,none⟩) HG1.out).trans (HCE.out 0 (by decide))
      have l1:w'.cell? ⟨g1,i * 11+1,none⟩=some (.int .i64 zi):=(hS.nx.cell (p:=⟨g1,i * 11+1,none⟩) HG1.out).trans (HCE.out 1 (by decide))
      have l2:w'.cell? ⟨g1,i * 11+2,none⟩=some (.int .i64 (zq:Int)):=(hS.nx.cell (p:=⟨g1,i * 11+2,none⟩) HG1.out).trans (HCE.out 2 (by decide))
      have l3:w'.cell? ⟨g1,i * 11+3,none⟩=some (.string ⟨zt.toArray⟩):=(hS.nx.cell (p:=⟨g1,i * 11+3,none⟩) HG1.out).trans (HCE.out 3 (by decide))
      have l4:w'.cell? ⟨g1,i * 11+4,none⟩=some (.string ⟨zn.toArray⟩):=(hS.nx.cell (p:=⟨g1,i * 11+4,none⟩) HG1.out).trans (HCE.out 4 (by decide))
      have l5:w'.cell? ⟨g1,i * 11+5,none⟩=some (.bool zb):=(hS.nx.cell (p:=⟨g1,i * 11+5,none⟩) HG1.out).trans (HCE.out 5 (by decide))
      have l6:w'.cell? ⟨g1,i * 11+6,none⟩=some (.int .i64 (zk:Int)):=(hS.nx.cell (p:=⟨g1,i * 11+6,none⟩) HG1.out).trans (HCE.out 6 (by decide))
      have l7:w'.cell? ⟨g1,i * 11+7,none⟩=some (.int .i64 zm):=(hS.nx.cell (p:=⟨g1,i * 11+7,none⟩) HG1.out).trans (HCE.out 7 (by decide))
      have l8:w'.cell? ⟨g1,i * 11+8,none⟩=some (.int .u64 (zd:Int)):=(hS.nx.cell (p:=⟨g1,i * 11+8,none⟩) HG1.out).trans (HCE.out 8 (by decide))
      have l9:w'.cell? ⟨g1,i * 11+9,none⟩=some (.string ⟨zs.toArray⟩):=(hS.nx.cell (p:=⟨g1,i * 11+9,none⟩) HG1.out).trans (HCE.out 9 (by decide))
      have l10:w'.cell? ⟨g1,i * 11+10,none⟩=some (.slice zA zu zc):=(hS.nx.cell (p:=⟨g1,i * 11+10,none⟩) HG1.out).trans (HCE.out 10 (by decide))
      have:=hK w' (.agg #[.bool zh,.int .i64 zi,.int .i64 (zq:Int),.string ⟨zt.toArray⟩,.string ⟨zn.toArray⟩,.bool zb,.int .i64 (zk:Int),.int .i64 zm,.int .u64 (zd:Int),.string ⟨zs.toArray⟩,.slice zA zu zc]) (by refine two_upd (by rw [hsz];decide) ?_;exact hS.const rfl (by decide) (by decide) (by decide) (by decide))
      clear hin hout hd hcl hS hK
      go_simp
      exact this
     ·intro a x ls w' hS hsz hni hcl hin hout hd K hK
      have o:a.eval (.tmp 1) = .slice (some ⟨g2,0,none⟩) la.length a2:=hout 1 (by kernel_rfl)
      have:=hK w' (.slice (some ⟨g2,0,none⟩) la.length a2) (by refine two_upd (by rw [hsz];decide) ?_;exact hS.const rfl (by decide) (by decide) (by decide) (by decide))
      rw [← o] at this
      exact this
     ·intro a x ls w' hS hsz hni hcl hin hout hd K hK
      have o:a.eval (.tmp 5) = .int .i64 (i:Int):=hout 5 (by kernel_rfl)
      have:=hK w' (.int .i64 (i:Int)) (by refine two_upd (by rw [hsz];decide) ?_;exact hS.const rfl (by decide) (by decide) (by decide) (by decide))
      rw [← o] at this
      exact this
     ·intro a x ls w' hS hsz hni hcl hin hout hd K hK
      have y1:=hd ⟨4,.data⟩ (by simp) rfl
      have y2:=hd ⟨5,.data⟩ (by simp) rfl
      have i23:a.tmps.getD 23 undef = .slice (some ⟨g2,0,none⟩) la.length a2:=(hin 23 4 (by kernel_rfl) (show 23<75 by decide)).trans (hS.cs 4 _ rfl y1)
      have j23:=i23
      rw [Array.getD_eq_getD_getElem?] at j23
      have i24:a.tmps.getD 24 undef = .int .i64 (i:Int):=(hin 24 5 (by kernel_rfl) (show 24<75 by decide)).trans (hS.cs 5 _ rfl y2)
      have j24:=i24
      rw [Array.getD_eq_getD_getElem?] at j24
      have:=hK w' (.pointer (some ⟨g2,i * 11,none⟩)) (by refine two_upd (by rw [hsz];decide) ?_;exact hS.const rfl (by decide) (by decide) (by decide) (by decide))
      clear hin hout hd hcl hS hK
      go_simp
      exact this
     ·intro a x ls w' hS hsz hni hcl hin hout hd K hK
      have y1:=hd ⟨6,.data⟩ (by simp) rfl
      have i25:a.tmps.getD 25 undef = .pointer (some ⟨g2,i * 11,none⟩):=(hin 25 6 (by kernel_rfl) (show 25<75 by decide)).trans (hS.cs 6 _ rfl y1)
      have j25:=i25
      rw [Array.getD_eq_getD_getElem?] at j25
      have l0:w'.cell? ⟨g2,i * 11,none⟩=some (.bool yh):=(hS.nx.cell (p:=⟨g2,i * 11,none⟩) HG2.out).trans (HCE2.out 0 (by decide))
      have l1:w'.cell? ⟨g2,i * 11+1,none⟩=some (.int .i64 yi):=(hS.nx.cell (p:=⟨g2,i * 11+1,none⟩) HG2.out).trans (HCE2.out 1 (by decide))
      have l2:w'.cell? ⟨g2,i * 11+2,none⟩=some (.int .i64 (yq:Int)):=(hS.nx.cell (p:=⟨g2,i * 11+2,none⟩) HG2.out).trans (HCE2.out 2 (by decide))
      have l3:w'.cell? ⟨g2,i * 11+3,none⟩=some (.string ⟨yt.toArray⟩):=(hS.nx.cell (p:=⟨g2,i * 11+3,none⟩) HG2.out).trans (HCE2.out 3 (by decide))
      have l4:w'.cell? ⟨g2,i * 11+4,none⟩=some (.string ⟨yn.toArray⟩):=(hS.nx.cell (p:=⟨g2,i * 11+4,none⟩) HG2.out).trans (HCE2.out 4 (by decide))
      have l5:w'.cell? ⟨g2,i * 11+5,none⟩=some (.bool yb):=(hS.nx.cell (p:=⟨g2,i * 11+5,none⟩) HG2.out).trans (HCE2.out 5 (by decide))
      have l6:w'.cell? ⟨g2,i * 11+6,none⟩=some (.int .i64 (yk:Int)):=(hS.nx.cell (p:=⟨g2,i * 11+6,none⟩) HG2.out).trans (HCE2.out 6 (by decide))
      have l7:w'.cell? ⟨g2,i * 11+7,none⟩=some (.int .i64 ym):=(hS.nx.cell (p:=⟨g2,i * 11+7,none⟩) HG2.out).trans (HCE2.out 7 (by decide))
      have l8:w'.cell? ⟨g2,i * 11+8,none⟩=some (.int .u64 (yd:Int)):=(hS.nx.cell (p:=⟨g2,i * 11+8,none⟩) HG2.out).trans (HCE2.out 8 (by decide))
      have l9:w'.cell? ⟨g2,i * 11+9,none⟩=some (.string ⟨ys.toArray⟩):=(hS.nx.cell (p:=⟨g2,i * 11+9,none⟩) HG2.out).trans (HCE2.out 9 (by decide))
      have l10:w'.cell? ⟨g2,i * 11+10,none⟩=some (.slice yA yu yc):=(hS.nx.cell (p:=⟨g2,i * 11+10,none⟩) HG2.out).trans (HCE2.out 10 (by decide))
      have:=hK w' (.agg #[.bool yh,.int .i64 yi,.int .i64 (yq:Int),.string ⟨yt.toArray⟩,.string ⟨yn.toArray⟩,.bool yb,.int .i64 (yk:Int),.int .i64 ym,.int .u64 (yd:Int),.string ⟨ys.toArray⟩,.slice yA yu yc]) (by refine two_upd (by rw [hsz];decide) ?_;exact hS.const rfl (by decide) (by decide) (by decide) (by decide))
      clear hin hout hd hcl hS hK
      go_simp
      exact this
     ·intro a x ls w' hS hsz hni hcl hin hout hd K hK
      have n1:ls.getD 8 false=false:=RI.off_of (by rw [hsz];decide) hni
      have n2:ls.getD 10 false=false:=hcl.not 20 10 8 (by kernel_rfl) hni
      have:=hK (w'.alloc (.cells (#[.bool false,.int .i64 0,.int .i64 0,.string ⟨#[]⟩,.string ⟨#[]⟩,.bool false,.int .i64 0,.int .i64 0,.int .u64 0,.string ⟨#[]⟩,.slice none 0 0]:Array Value) 59)) (.pointer (some ⟨w'.heap.size,0,none⟩)) (by refine two_upd (by rw [hsz];decide) ?_;exact hS.newA (#[.bool false,.int .i64 0,.int .i64 0,.string ⟨#[]⟩,.string ⟨#[]⟩,.bool false,.int .i64 0,.int .i64 0,.int .u64 0,.string ⟨#[]⟩,.slice none 0 0]:Array Value) (by decide) rfl n2 (by decide) (by decide) (by decide))
      clear hin hout hd hcl hS hK
      go_simp
      exact this
     ·intro a x ls w' hS hsz hni hcl hin hout hd K hK
      have n1:ls.getD 9 false=false:=RI.off_of (by rw [hsz];decide) hni
      have n2:ls.getD 11 false=false:=hcl.not 20 11 9 (by kernel_rfl) hni
      have:=hK (w'.alloc (.cells (#[.bool false,.int .i64 0,.int .i64 0,.string ⟨#[]⟩,.string ⟨#[]⟩,.bool false,.int .i64 0,.int .i64 0,.int .u64 0,.string ⟨#[]⟩,.slice none 0 0]:Array Value) 59)) (.pointer (some ⟨w'.heap.size,0,none⟩)) (by refine two_upd (by rw [hsz];decide) ?_;exact hS.newB (#[.bool false,.int .i64 0,.int .i64 0,.string ⟨#[]⟩,.string ⟨#[]⟩,.bool false,.int .i64 0,.int .i64 0,.int .u64 0,.string ⟨#[]⟩,.slice none 0 0]:Array Value) (by decide) rfl n2 (by decide) (by decide) (by decide))
      clear hin hout hd hcl hS hK
      go_simp
      exact this
     ·intro a x ls w' hS hsz hni hcl hin hout hd K hK
      have y1:=hd ⟨8,.data⟩ (by simp) rfl
      have y2:=hd ⟨3,.data⟩ (by simp) rfl
      obtain ⟨g,cs,ex,hgw,hsz2,hB,-⟩:=hS.a y1
      have i6:a.tmps.getD 6 undef = .pointer (some ⟨g,0,none⟩):=(hin 6 8 (by kernel_rfl) (show 6<75 by decide)).trans ex
      have j6:=i6
      rw [Array.getD_eq_getD_getElem?] at j6
      have i22:a.tmps.getD 22 undef = .agg #[.bool zh,.int .i64 zi,.int .i64 (zq:Int),.string ⟨zt.toArray⟩,.string ⟨zn.toArray⟩,.bool zb,.int .i64 (zk:Int),.int .i64 zm,.int .u64 (zd:Int),.string ⟨zs.toArray⟩,.slice zA zu zc]:=(hin 22 3 (by kernel_rfl) (show 22<75 by decide)).trans (hS.cs 3 _ rfl y2)
      have j22:=i22
      rw [Array.getD_eq_getD_getElem?] at j22
      have d0:∀ k,k<11→w'.cell? ⟨g,k,none⟩=some cs[k]!:=by
       intro k hk
       have hk2:k<cs.size:=by omega
       rw [hB.cell k,Array.getElem?_eq_getElem hk2,getElem!_pos cs k hk2]
      have c0:=d0 0 (by decide)
      have f0:=hB.free 0
      have c1:=d0 1 (by decide)
      have f1:=hB.free 1
      have c2:=d0 2 (by decide)
      have f2:=hB.free 2
      have c3:=d0 3 (by decide)
      have f3:=hB.free 3
      have c4:=d0 4 (by decide)
      have f4:=hB.free 4
      have c5:=d0 5 (by decide)
      have f5:=hB.free 5
      have c6:=d0 6 (by decide)
      have f6:=hB.free 6
      have c7:=d0 7 (by decide)
      have f7:=hB.free 7
      have c8:=d0 8 (by decide)
      have f8:=hB.free 8
      have c9:=d0 9 (by decide)
      have f9:=hB.free 9
      have c10:=d0 10 (by decide)
      have f10:=hB.free 10
      have hO:Oth g w' (((((((((((w'.setCell ⟨g,0,none⟩ (.bool zh)).setCell ⟨g,1,none⟩ (.int .i64 zi)).setCell ⟨g,2,none⟩ (.int .i64 (zq:Int))).setCell ⟨g,3,none⟩ (.string ⟨zt.toArray⟩)).setCell ⟨g,4,none⟩ (.string ⟨zn.toArray⟩)).setCell ⟨g,5,none⟩ (.bool zb)).setCell ⟨g,6,none⟩ (.int .i64 (zk:Int))).setCell ⟨g,7,none⟩ (.int .i64 zm)).setCell ⟨g,8,none⟩ (.int .u64 (zd:Int))).setCell ⟨g,9,none⟩ (.string ⟨zs.toArray⟩)).setCell ⟨g,10,none⟩ (.slice zA zu zc)):=(((((((((((Oth.refl g w').own).own).own).own).own).own).own).own).own).own).own
      have:=hK (((((((((((w'.setCell ⟨g,0,none⟩ (.bool zh)).setCell ⟨g,1,none⟩ (.int .i64 zi)).setCell ⟨g,2,none⟩ (.int .i64 (zq:Int))).setCell ⟨g,3,none⟩ (.string ⟨zt.toArray⟩)).setCell ⟨g,4,none⟩ (.string ⟨zn.toArray⟩)).setCell ⟨g,5,none⟩ (.bool zb)).setCell ⟨g,6,none⟩ (.int .i64 (zk:Int))).setCell ⟨g,7,none⟩ (.int .i64 zm)).setCell ⟨g,8,none⟩ (.int .u64 (zd:Int))).setCell ⟨g,9,none⟩ (.string ⟨zs.toArray⟩)).setCell ⟨g,10,none⟩ (.slice zA zu zc)) (undef) (by refine two_upd (by rw [hsz];decide) ?_;exact hS.putA (cs:=cs) ex hgw hO (hB.put11 hsz2) rfl rfl y1 (by decide) (by decide) (by decide))
      clear d0 hO
      clear hin hout hd hcl hS hK
      go_simp
      exact this
     ·intro a x ls w' hS hsz hni hcl hin hout hd K hK
      have y1:=hd ⟨9,.data⟩ (by simp) rfl
      have y2:=hd ⟨7,.data⟩ (by simp) rfl
      obtain ⟨g,cs,ex,hgw,hsz2,hB,-⟩:=hS.b y1
      have i7:a.tmps.getD 7 undef = .pointer (some ⟨g,0,none⟩):=(hin 7 9 (by kernel_rfl) (show 7<75 by decide)).trans ex
      have j7:=i7
      rw [Array.getD_eq_getD_getElem?] at j7
      have i26:a.tmps.getD 26 undef = .agg #[.bool yh,.int .i64 yi,.int .i64 (yq:Int),.string ⟨yt.toArray⟩,.string ⟨yn.toArray⟩,.bool yb,.int .i64 (yk:Int),.int .i64 ym,.int .u64 (yd:Int),.string ⟨ys.toArray⟩,.slice yA yu yc]:=(hin 26 7 (by kernel_rfl) (show 26<75 by decide)).trans (hS.cs 7 _ rfl y2)
      have j26:=i26
      rw [Array.getD_eq_getD_getElem?] at j26
      have d0:∀ k,k<11→w'.cell? ⟨g,k,none⟩=some cs[k]!:=by
       intro k hk
       have hk2:k<cs.size:=by omega
       rw [hB.cell k,Array.getElem?_eq_getElem hk2,getElem!_pos cs k hk2]
      have c0:=d0 0 (by decide)
      have f0:=hB.free 0
      have c1:=d0 1 (by decide)
      have f1:=hB.free 1
      have c2:=d0 2 (by decide)
      have f2:=hB.free 2
      have c3:=d0 3 (by decide)
      have f3:=hB.free 3
      have c4:=d0 4 (by decide)
      have f4:=hB.free 4
      have c5:=d0 5 (by decide)
      have f5:=hB.free 5
      have c6:=d0 6 (by decide)
      have f6:=hB.free 6
      have c7:=d0 7 (by decide)
      have f7:=hB.free 7
      have c8:=d0 8 (by decide)
      have f8:=hB.free 8
      have c9:=d0 9 (by decide)
      have f9:=hB.free 9
      have c10:=d0 10 (by decide)
      have f10:=hB.free 10
      have hO:Oth g w' (((((((((((w'.setCell ⟨g,0,none⟩ (.bool yh)).setCell ⟨g,1,none⟩ (.int .i64 yi)).setCell ⟨g,2,none⟩ (.int .i64 (yq:Int))).setCell ⟨g,3,none⟩ (.string ⟨yt.toArray⟩)).setCell ⟨g,4,none⟩ (.string ⟨yn.toArray⟩)).setCell ⟨g,5,none⟩ (.bool yb)).setCell ⟨g,6,none⟩ (.int .i64 (yk:Int))).setCell ⟨g,7,none⟩ (.int .i64 ym)).setCell ⟨g,8,none⟩ (.int .u64 (yd:Int))).setCell ⟨g,9,none⟩ (.string ⟨ys.toArray⟩)).setCell ⟨g,10,none⟩ (.slice yA yu yc)):=(((((((((((Oth.refl g w').own).own).own).own).own).own).own).own).own).own).own
      have:=hK (((((((((((w'.setCell ⟨g,0,none⟩ (.bool yh)).setCell ⟨g,1,none⟩ (.int .i64 yi)).setCell ⟨g,2,none⟩ (.int .i64 (yq:Int))).setCell ⟨g,3,none⟩ (.string ⟨yt.toArray⟩)).setCell ⟨g,4,none⟩ (.string ⟨yn.toArray⟩)).setCell ⟨g,5,none⟩ (.bool yb)).setCell ⟨g,6,none⟩ (.int .i64 (yk:Int))).setCell ⟨g,7,none⟩ (.int .i64 ym)).setCell ⟨g,8,none⟩ (.int .u64 (yd:Int))).setCell ⟨g,9,none⟩ (.string ⟨ys.toArray⟩)).setCell ⟨g,10,none⟩ (.slice yA yu yc)) (undef) (by refine two_upd (by rw [hsz];decide) ?_;exact hS.putB (cs:=cs) ex hgw hO (hB.put11 hsz2) rfl rfl y1 (by decide) (by decide) (by decide))
      clear d0 hO
      clear hin hout hd hcl hS hK
      go_simp
      exact this
    ·intro A' x ls w' hS hall hin hout hA
     have hxs:=And.intro (hS.cs 0 _ rfl (hall 0 (by decide))) <| And.intro (hS.cs 1 _ rfl (hall 1 (by decide))) <| And.intro (hS.cs 2 _ rfl (hall 2 (by decide))) <| And.intro (hS.cs 3 _ rfl (hall 3 (by decide))) <| And.intro (hS.cs 4 _ rfl (hall 4 (by decide))) <| And.intro (hS.cs 5 _ rfl (hall 5 (by decide))) <| And.intro (hS.cs 6 _ rfl (hall 6 (by decide))) (hS.cs 7 _ rfl (hall 7 (by decide)))
     obtain ⟨ga,ca,ea,-,-,hBA,hva⟩:=hS.a (hall 8 (by decide))
     obtain ⟨gb,cb,eb,-,-,hBB,hvb⟩:=hS.b (hall 9 (by decide))
     obtain rfl:=hva (hall 10 (by decide))
     obtain rfl:=hvb (hall 11 (by decide))
     obtain ⟨x0,x1,x2,x3,x4,x5,x6,x7⟩:=hxs
     have hA2:=hA.out
     clear hA hin hout hall hva hvb
     simp only [RI.setAll,List.toList_toArray,List.set_cons_succ,List.set_cons_zero,Nat.reduceAdd] at hA2
     rw [x0,x1,x2,x3,x4,x5,x6,x7,ea,eb] at hA2
     subst hA2
     have HBX:=Lib.hid hBA
     have HBY:=Lib.hid hBB
     have HWR:=Lib.hid hS.nx
     have HWX:=Lib.hid (HO.out.trans hS.nx)
     clear hS x0 x1 x2 x3 x4 x5 x6 x7 ea eb hBA hBB
     have gx0:w'.cell? ⟨ga,0,none⟩=some (.bool zh):=HBX.out.cell 0
     have gx1:w'.cell? ⟨ga,1,none⟩=some (.int .i64 zi):=HBX.out.cell 1
     have gx2:w'.cell? ⟨ga,2,none⟩=some (.int .i64 (zq:Int)):=HBX.out.cell 2
     have gx3:w'.cell? ⟨ga,3,none⟩=some (.string ⟨zt.toArray⟩):=HBX.out.cell 3
     have gx4:w'.cell? ⟨ga,4,none⟩=some (.string ⟨zn.toArray⟩):=HBX.out.cell 4
     have gx5:w'.cell? ⟨ga,5,none⟩=some (.bool zb):=HBX.out.cell 5
     have gx6:w'.cell? ⟨ga,6,none⟩=some (.int .i64 (zk:Int)):=HBX.out.cell 6
     have gx7:w'.cell? ⟨ga,7,none⟩=some (.int .i64 zm):=HBX.out.cell 7
     have gx8:w'.cell? ⟨ga,8,none⟩=some (.int .u64 (zd:Int)):=HBX.out.cell 8
     have gx9:w'.cell? ⟨ga,9,none⟩=some (.string ⟨zs.toArray⟩):=HBX.out.cell 9
     have gx10:w'.cell? ⟨ga,10,none⟩=some (.slice zA zu zc):=HBX.out.cell 10
     have gy0:w'.cell? ⟨gb,0,none⟩=some (.bool yh):=HBY.out.cell 0
     have gy1:w'.cell? ⟨gb,1,none⟩=some (.int .i64 yi):=HBY.out.cell 1
     have gy2:w'.cell? ⟨gb,2,none⟩=some (.int .i64 (yq:Int)):=HBY.out.cell 2
     have gy3:w'.cell? ⟨gb,3,none⟩=some (.string ⟨yt.toArray⟩):=HBY.out.cell 3
     have gy4:w'.cell? ⟨gb,4,none⟩=some (.string ⟨yn.toArray⟩):=HBY.out.cell 4
     have gy5:w'.cell? ⟨gb,5,none⟩=some (.bool yb):=HBY.out.cell 5
     have gy6:w'.cell? ⟨gb,6,none⟩=some (.int .i64 (yk:Int)):=HBY.out.cell 6
     have gy7:w'.cell? ⟨gb,7,none⟩=some (.int .i64 ym):=HBY.out.cell 7
     have gy8:w'.cell? ⟨gb,8,none⟩=some (.int .u64 (yd:Int)):=HBY.out.cell 8
     have gy9:w'.cell? ⟨gb,9,none⟩=some (.string ⟨ys.toArray⟩):=HBY.out.cell 9
     have gy10:w'.cell? ⟨gb,10,none⟩=some (.slice yA yu yc):=HBY.out.cell 10
     by_cases h0:zh=yh
     ·subst h0
      by_cases h1:zi=yi
      ·subst h1
       by_cases h2:zq=yq
       ·subst h2
        by_cases h3:zt=yt
        ·subst h3
         by_cases h4:zn=yn
         ·subst h4
          by_cases h5:zb=yb
          ·subst h5
           obtain ⟨R6,hR6⟩:∃ R6,Hid (eqC 13 fc gc=R6):=⟨_,Lib.hid rfl⟩
           have hcall:=dsameConst 13 w' ⟨zk,zm,zd,zs,.slice zA zu zc⟩ ⟨yk,ym,yd,ys,.slice yA yu yc⟩ fc gc (RC.lasts 13 (mvAn HWR.out) HCX.out) (RC.lasts 13 (mvAn HWR.out) HCY.out) HLF.out
           rw [hR6.out] at hcall
           have HC:=Lib.hid hcall
           clear hcall
           go_wp2_with fail
           refine HC.out.mono ?_;rintro e w5 ⟨rfl,hn5⟩
           have HWX:=Lib.hid (HWX.out.trans hn5)
           clear hn5 HC gx0 gy0 gx1 gy1 gx2 gy2 gx3 gy3 gx4 gy4 gx5 gy5 gx6 gy6 gx7 gy7 gx8 gy8 gx9 gy9 gx10 gy10
           cases R6 with
           | true =>
            have HRF:Hid (R=true):=by unfold Hid;rw [HRE.out];simp [hR6.out]
            go_wp2_with fail
            go_roundw
            case rel=>exact ⟨i+1,by go_num,hlt,Lib.hid (fun j a b h=>by
             rcases Nat.lt_or_ge j i with h' | h'
             ·exact HEQ.out j a b h'
             ·obtain rfl:j=i:=by omega
              exact hR.out.trans HRF.out),HWX⟩
            case measure=>simp [intOf];omega
           | false =>
            have HRF:Hid (R=false):=by unfold Hid;rw [HRE.out];simp [hR6.out]
            go_wp2_with fail
            go_ret
            have HF:Hid (allEq eqF la lb=false):=allEq_false i hlt HLTB.out (by rw [hR.out,HRF.out])
            rw [HF.out]
            exact ⟨rfl,HWX.out⟩
          ·have HRF:Hid (R=false):=by unfold Hid;rw [HRE.out];simp [h5]
           have t5:(zb == yb)=false:=by rw [beq_eq_false_iff_ne];exact h5
           have t5':¬ zb=yb:=h5
           have t5'':(zb != yb)=true:=by rw [bne_iff_ne];exact h5
           clear h5
           go_wp2_with fail
           go_ret
           have HF:Hid (allEq eqF la lb=false):=allEq_false i hlt HLTB.out (by rw [hR.out,HRF.out])
           rw [HF.out]
           exact ⟨rfl,HWX.out⟩
         ·have HRF:Hid (R=false):=by unfold Hid;rw [HRE.out];simp [h4]
          obtain ⟨S,hS⟩:∃ S:ByteArray,(⟨zn.toArray⟩:ByteArray)=S:=⟨_,rfl⟩
          obtain ⟨T,hT⟩:∃ T:ByteArray,(⟨yn.toArray⟩:ByteArray)=T:=⟨_,rfl⟩
          have hst:S.toList≠T.toList:=by rw [← hS,← hT,(Tx.of zn).toL,(Tx.of yn).toL];exact h4
          have hst1:¬ S.toList=T.toList:=hst
          have hst2:(S.toList == T.toList)=false:=by rw [beq_eq_false_iff_ne];exact hst
          have hst4:(S.toList != T.toList)=true:=by rw [bne_iff_ne];exact hst
          have hst3:¬ S=T:=fun e=>hst (by rw [e])
          rw [hS] at gx4
          rw [hT] at gy4
          clear h4 hst hS hT
          go_wp2_with fail
          go_ret
          have HF:Hid (allEq eqF la lb=false):=allEq_false i hlt HLTB.out (by rw [hR.out,HRF.out])
          rw [HF.out]
          exact ⟨rfl,HWX.out⟩
        ·have HRF:Hid (R=false):=by unfold Hid;rw [HRE.out];simp [h3]
         obtain ⟨S,hS⟩:∃ S:ByteArray,(⟨zt.toArray⟩:ByteArray)=S:=⟨_,rfl⟩
         obtain ⟨T,hT⟩:∃ T:ByteArray,(⟨yt.toArray⟩:ByteArray)=T:=⟨_,rfl⟩
         have hst:S.toList≠T.toList:=by rw [← hS,← hT,(Tx.of zt).toL,(Tx.of yt).toL];exact h3
         have hst1:¬ S.toList=T.toList:=hst
         have hst2:(S.toList == T.toList)=false:=by rw [beq_eq_false_iff_ne];exact hst
         have hst4:(S.toList != T.toList)=true:=by rw [bne_iff_ne];exact hst
         have hst3:¬ S=T:=fun e=>hst (by rw [e])
         rw [hS] at gx3
         rw [hT] at gy3
         clear h3 hst hS hT
         go_wp2_with fail
         go_ret
         have HF:Hid (allEq eqF la lb=false):=allEq_false i hlt HLTB.out (by rw [hR.out,HRF.out])
         rw [HF.out]
         exact ⟨rfl,HWX.out⟩
       ·have HRF:Hid (R=false):=by unfold Hid;rw [HRE.out];simp [h2]
        have t2:((zq:Int) == (yq:Int))=false:=by rw [beq_eq_false_iff_ne];omega
        have t2':¬ (zq:Int)=(yq:Int):=by omega
        have t2'':((zq:Int) != (yq:Int))=true:=by rw [bne_iff_ne];omega
        clear h2
        go_wp2_with fail
        go_ret
        have HF:Hid (allEq eqF la lb=false):=allEq_false i hlt HLTB.out (by rw [hR.out,HRF.out])
        rw [HF.out]
        exact ⟨rfl,HWX.out⟩
      ·have HRF:Hid (R=false):=by unfold Hid;rw [HRE.out];simp [h1]
       have t1:((zi:Int) == (yi:Int))=false:=by rw [beq_eq_false_iff_ne];omega
       have t1':¬ (zi:Int)=(yi:Int):=by omega
       have t1'':((zi:Int) != (yi:Int))=true:=by rw [bne_iff_ne];omega
       clear h1
       go_wp2_with fail
       go_ret
       have HF:Hid (allEq eqF la lb=false):=allEq_false i hlt HLTB.out (by rw [hR.out,HRF.out])
       rw [HF.out]
       exact ⟨rfl,HWX.out⟩
     ·have HRF:Hid (R=false):=by unfold Hid;rw [HRE.out];simp [h0]
      have t0:(zh == yh)=false:=by rw [beq_eq_false_iff_ne];exact h0
      have t0':¬ zh=yh:=h0
      have t0'':(zh != yh)=true:=by rw [bne_iff_ne];exact h0
      clear h0
      go_wp2_with fail
      go_ret
      have HF:Hid (allEq eqF la lb=false):=allEq_false i hlt HLTB.out (by rw [hR.out,HRF.out])
      rw [HF.out]
      exact ⟨rfl,HWX.out⟩
   ·obtain rfl:i=la.length:=by omega
    have q1:decide ((la.length:Int)<(la.length:Int))=false:=decide_eq_false (by omega)
    have HF:Hid (allEq eqF la lb=true):=allEq_true HLE.out fun j a b=>HEQ.out j a b a
    clear hlt hi
    go_wp2_with fail
    go_ret
    rw [HF.out]
    exact ⟨rfl,HO.out⟩
 ·have b1:((la.length:Int) != (lb.length:Int))=true:=by rw [bne_iff_ne];omega
  have b1':¬ (la.length:Int)=(lb.length:Int):=by omega
  have hf:allEq eqF la lb=false:=allEq_len hlen
  rw [hf]
  clear hlen
  go_enter Tryz.func80,Tryz.ntmps80
  go_wp2_with fail
  go_ret
  exact ⟨rfl,Nx.refl _⟩
end Go.Proofs.YtjggghfekakogaaGreatDoor
