/- The document's test of files. -/
import Derived.Test.YtjggghfekakogaaGreatDoorH32
import Derived.BigQuiet
import Derived.Deep.QuietTactic
set_option linter.unusedVariables false
set_option linter.unusedSimpArgs false
set_option linter.unnecessarySimpa false
namespace Go.Proofs.YtjggghfekakogaaGreatDoor
open Go.RowKit
def lnFil (f:Fil):Prop:=f.incs.length≤100000∧f.spaces.length≤100000∧f.defs.length≤100000∧∀ d ∈ f.defs,lnD d
set_option maxRecDepth 100000 in
set_option maxHeartbeats 25600000 in
theorem dSame (w:World) (x y:FilS) (f g:Fil) (hx:RFile w An x f) (hy:RFile w An y g) (hco:lnFil f) :
  Calls Tryz.prog 13 #[.agg (filA x),.agg (filA y)] w fun e w'=>e = .returned (.bool (eqFil f g))∧Nx w w':=by
 obtain ⟨zl,zp,zr⟩:=x
 obtain ⟨yl,yp,yr⟩:=y
 obtain ⟨fi,fs,fd⟩:=f
 obtain ⟨gi,gs,gd⟩:=g
 obtain ⟨hxi,hxs,hxd⟩:LT w An zl fi∧LS w An zp fs∧LD w An zr fd:=hx
 obtain ⟨hyi,hys,hyd⟩:LT w An yl gi∧LS w An yp gs∧LD w An yr gd:=hy
 obtain ⟨zA,zc,-,rfl,-⟩:=hxi.sl strA_size
 obtain ⟨zB,zg,-,rfl,-⟩:=hxs.sl spcA_size
 obtain ⟨zD,zj,-,rfl,-⟩:=hxd.sl dfnA_size
 obtain ⟨yA,yc,-,rfl,-⟩:=hyi.sl strA_size
 obtain ⟨yB,yg,-,rfl,-⟩:=hys.sl spcA_size
 obtain ⟨yD,yj,-,rfl,-⟩:=hyd.sl dfnA_size
 have HXI:=Lib.hid hxi
 have HXS:=Lib.hid hxs
 have HXD:=Lib.hid hxd
 have HCO:=Lib.hid hco
 obtain ⟨R,hR⟩:∃ R,Hid (eqFil ⟨fi,fs,fd⟩ ⟨gi,gs,gd⟩=R):=⟨_,Lib.hid rfl⟩
 rw [hR.out]
 have hRe:R=(allEq (fun x y=>x == y) fi gi && allEq eqS fs gs && allEq eqD fd gd):=hR.out.symm
 have HRE:=Lib.hid hRe
 clear hxi hxs hxd hRe hR hco
 by_cases h1:fi.length=gi.length
 ·have HLI:=Lib.hid h1
  rw [← h1] at hyi ⊢
  by_cases h2:fs.length=gs.length
  ·have HLS:=Lib.hid h2
   rw [← h2] at hys ⊢
   by_cases h3:fd.length=gd.length
   ·have HLD:=Lib.hid h3
    rw [← h3] at hyd ⊢
    have HYI:Hid (LT w An (.slice yA fi.length yc) gi):=hyi
    have HYS:Hid (LS w An (.slice yB fs.length yg) gs):=hys
    have HYD:Hid (LD w An (.slice yD fd.length yj) gd):=hyd
    clear h1 h2 h3 hyi hys hyd
    obtain ⟨gx,hgx⟩:∃ g,w.heap.size=g:=⟨_,rfl⟩
    have hBx:=Blk.new w #[.slice zA fi.length zc,.slice zB fs.length zg,.slice zD fd.length zj] 27
    rw [hgx] at hBx
    have hn1:Nx w (w.alloc (.cells #[.slice zA fi.length zc,.slice zB fs.length zg,.slice zD fd.length zj] 27)):=nx0 _ _
    have hs1:(w.alloc (.cells #[.slice zA fi.length zc,.slice zB fs.length zg,.slice zD fd.length zj] 27)).heap.size=w.heap.size+1:=by simp
    rw [hgx] at hs1
    obtain ⟨gy,hgy⟩:∃ g,gx+1=g:=⟨_,rfl⟩
    rw [hgy] at hs1
    have HBX:=Lib.hid hBx
    have HN1:=Lib.hid hn1
    clear hBx hn1
    show Calls _ _ #[.agg #[.slice zA fi.length zc,.slice zB fs.length zg,.slice zD fd.length zj],.agg #[.slice yA fi.length yc,.slice yB fs.length yg,.slice yD fd.length yj]] _ _
    go_enter Tryz.func13,Tryz.ntmps13
    go_upto_region 1 with fail
    generalize hW1:World.alloc w _=W1 at *
    have hBy:=Blk.new W1 #[.slice yA fi.length yc,.slice yB fs.length yg,.slice yD fd.length yj] 27
    have hn2:Nx W1 (W1.alloc (.cells #[.slice yA fi.length yc,.slice yB fs.length yg,.slice yD fd.length yj] 27)):=nx0 _ _
    rw [hs1] at hBy
    have hBx:=HBX.out.below hn2
    generalize World.alloc W1 _=W at *
    have HBX:=Lib.hid hBx
    have HBY:=Lib.hid hBy
    have HWX:=Lib.hid (HN1.out.trans hn2)
    have HWC:Hid (Nx W W):=Nx.refl _
    clear hW1 hBx hBy hn2 hs1 hgx hgy HN1
    have gx0:W.cell? ⟨gx,0,none⟩=some (.slice zA fi.length zc):=HBX.out.cell 0
    have gx1:W.cell? ⟨gx,1,none⟩=some (.slice zB fs.length zg):=HBX.out.cell 1
    have gx2:W.cell? ⟨gx,2,none⟩=some (.slice zD fd.length zj):=HBX.out.cell 2
    have gy0:W.cell? ⟨gy,0,none⟩=some (.slice yA fi.length yc):=HBY.out.cell 0
    have gy1:W.cell? ⟨gy,1,none⟩=some (.slice yB fs.length yg):=HBY.out.cell 1
    have gy2:W.cell? ⟨gy,2,none⟩=some (.slice yD fd.length yj):=HBY.out.cell 2
    go_wp2_with fail
    clear gx0 gx1 gx2 gy0 gy1 gy2
    go_loopw [5] (fun iv wr=>∃ (i:Nat),iv = .int .i64 (i:Int)∧i≤fi.length∧Hid (∀ j (h1:j<fi.length) (h2:j<gi.length),j<i→(fun x y=>x == y) fi[j] gi[j]=true)∧Hid (Nx W wr)) (fun iv _=>(200000 - intOf iv).toNat)
    case atStart=>exact ⟨0,rfl,Nat.zero_le _,Lib.hid (fun j _ _ h=>absurd h (Nat.not_lt_zero _)),Lib.hid (Nx.refl _)⟩
    case round =>
     obtain ⟨i,rfl,hi,HEQ,HO⟩:=hrel
     have hiI:(i:Int)≤100000:=by have:fi.length≤100000:=HCO.out.1;omega
     have k1:wr.cell? ⟨gx,0,none⟩=some (.slice zA fi.length zc):=(HBX.out.below (HWC.out.trans HO.out)).cell 0
     by_cases hlt:i<fi.length
     ·have q1:decide ((i:Int)<(fi.length:Int))=true:=decide_eq_true (by omega)
      have q2:(i:Int)<(fi.length:Int):=by omega
      have hltb:i<gi.length:=by have:=HLI.out;omega
      have HLTB:=Lib.hid hltb
      have hr1:LT wr An (.slice zA fi.length zc) fi:=LT.lasts (mvAn (HWX.out.trans HO.out)) HXI.out
      have hr2:LT wr An (.slice yA fi.length yc) gi:=LT.lasts (mvAn (HWX.out.trans HO.out)) HYI.out
      obtain ⟨A',ac',zs',hlv,hzl,hzc,hzm,hrd,hall⟩:=hr1.sl strA_size
      injection hlv with h1 h2 h3
      subst h1 h3
      clear h2
      obtain ⟨g1,rfl,hg1,hcs⟩:=hrd (by omega)
      obtain ⟨Z,hZ⟩:∃ Z,zs'[i]'(by omega)=Z:=⟨_,rfl⟩
      have hrc:(REq (α:=List UInt8)) wr An Z fi[i]:=by
       have:=hall.at_ i (by omega) hlt
       rw [hZ] at this
       exact this
      obtain ⟨A'',ac'',ys',hlv,hyl,hyc,hym,hrd',hall'⟩:=hr2.sl strA_size
      injection hlv with h1 h2 h3
      subst h1 h3
      clear h2
      obtain ⟨g2,rfl,hg2,hcs'⟩:=hrd' (by have:=HLI.out;omega)
      obtain ⟨Y,hY⟩:∃ Y,ys'[i]'(by have:=HLI.out;omega)=Y:=⟨_,rfl⟩
      have hrdd:(REq (α:=List UInt8)) wr An Y gi[i]:=by
       have:=hall'.at_ i (by have:=HLI.out;omega) hltb
       rw [hY] at this
       exact this
      have hcell:∀ j,j<1→wr.cell? ⟨g1,i * 1+j,none⟩=(strA Z)[j]?:=fun j hj=>by rw [hcs i (by omega) j hj,hZ]
      have hcell2:∀ j,j<1→wr.cell? ⟨g2,i * 1+j,none⟩=(strA Y)[j]?:=fun j hj=>by rw [hcs' i (by have:=HLI.out;omega) j hj,hY]
      have k2:wr.cell? ⟨gy,0,none⟩=some (.slice (some ⟨g2,0,none⟩) fi.length yc):=(HBY.out.below (HWC.out.trans HO.out)).cell 0
      have e0:wr.cell? ⟨g1,i,none⟩=some (.string ⟨Z.toArray⟩):=by have:=hcell 0 (by decide);rw [show i * 1+0=i by omega] at this;exact this
      have f0:wr.cell? ⟨g2,i,none⟩=some (.string ⟨Y.toArray⟩):=by have:=hcell2 0 (by decide);rw [show i * 1+0=i by omega] at this;exact this
      have HZ:Hid (Z=fi[i]):=hrc
      have HY:Hid (Y=gi[i]'HLTB.out):=hrdd
      clear hltb hcs hcs' hcell hcell2 hall hall' hr1 hr2 hZ hY hzl hyl hzc hzm hyc hym hrd' hrd hrc hrdd hg1 hg2
      go_upto_region 6 with fail
      by_cases h0:Z=Y
      ·subst h0
       go_quiet (fail)
       clear k1 k2 e0 f0
       go_wp2_with fail
       go_roundw
       case rel=>exact ⟨i+1,by go_num,hlt,Lib.hid (fun j a b h=>by
        rcases Nat.lt_or_ge j i with h' | h'
        ·exact HEQ.out j a b h'
        ·obtain rfl:j=i:=by omega
         exact by rw [← HZ.out,show gi[j]'b=Z from HY.out.symm];exact beq_self_eq_true _),Lib.hid (HO.out.trans (nx_drew _ _))⟩
       case measure=>simp [intOf];omega
      ·have HRF:Hid (R=false):=by unfold Hid;rw [HRE.out];simp [allEq_false (f:=fun x y=>x == y) i hlt HLTB.out (by rw [← HZ.out,← HY.out];exact beq_eq_false_iff_ne.2 h0)]
       obtain ⟨S,hS⟩:∃ S:ByteArray,(⟨Z.toArray⟩:ByteArray)=S:=⟨_,rfl⟩
       obtain ⟨T,hT⟩:∃ T:ByteArray,(⟨Y.toArray⟩:ByteArray)=T:=⟨_,rfl⟩
       have hst:S.toList≠T.toList:=by rw [← hS,← hT,(Tx.of Z).toL,(Tx.of Y).toL];exact h0
       have hst1:¬ S.toList=T.toList:=hst
       have hst2:(S.toList == T.toList)=false:=by rw [beq_eq_false_iff_ne];exact hst
       have hst4:(S.toList != T.toList)=true:=by rw [bne_iff_ne];exact hst
       have hst3:¬ S=T:=fun e=>hst (by rw [e])
       rw [hS] at e0
       rw [hT] at f0
       clear h0 hst hS hT
       go_quiet (fail)
       clear k1 k2 e0 f0
       go_wp2_with fail
       go_ret
       rw [HRF.out]
       exact ⟨rfl,(HWX.out.trans HO.out).trans (nx_drew _ _)⟩
     ·obtain rfl:i=fi.length:=by omega
      have q1:decide ((fi.length:Int)<(fi.length:Int))=false:=decide_eq_false (by omega)
      have HM1:Hid (allEq (fun x y=>x == y) fi gi=true):=allEq_true HLI.out fun j a b=>HEQ.out j a b a
      have HWX:=Lib.hid (HWX.out.trans HO.out)
      have HWC:=Lib.hid (HWC.out.trans HO.out)
      clear hlt hi HEQ HO hiI
      go_wp2_with fail
      clear k1 q1
      generalize wr=CW2 at *
      go_loopw [6] (fun iv wr=>∃ (i:Nat),iv = .int .i64 (i:Int)∧i≤fs.length∧Hid (∀ j (h1:j<fs.length) (h2:j<gs.length),j<i→(eqS) fs[j] gs[j]=true)∧Hid (Nx CW2 wr)) (fun iv _=>(200000 - intOf iv).toNat)
      case atStart=>exact ⟨0,rfl,Nat.zero_le _,Lib.hid (fun j _ _ h=>absurd h (Nat.not_lt_zero _)),Lib.hid (Nx.refl _)⟩
      case round =>
       obtain ⟨i,rfl,hi,HEQ,HO⟩:=hrel
       have hiI:(i:Int)≤100000:=by have:fs.length≤100000:=HCO.out.2.1;omega
       have k1:wr.cell? ⟨gx,1,none⟩=some (.slice zB fs.length zg):=(HBX.out.below (HWC.out.trans HO.out)).cell 1
       by_cases hlt:i<fs.length
       ·have q1:decide ((i:Int)<(fs.length:Int))=true:=decide_eq_true (by omega)
        have q2:(i:Int)<(fs.length:Int):=by omega
        have hltb:i<gs.length:=by have:=HLS.out;omega
        have HLTB:=Lib.hid hltb
        have hr1:LS wr An (.slice zB fs.length zg) fs:=LS.lasts (mvAn (HWX.out.trans HO.out)) HXS.out
        have hr2:LS wr An (.slice yB fs.length yg) gs:=LS.lasts (mvAn (HWX.out.trans HO.out)) HYS.out
        obtain ⟨A',ac',zs',hlv,hzl,hzc,hzm,hrd,hall⟩:=hr1.sl spcA_size
        injection hlv with h1 h2 h3
        subst h1 h3
        clear h2
        obtain ⟨g1,rfl,hg1,hcs⟩:=hrd (by omega)
        obtain ⟨Z,hZ⟩:∃ Z,zs'[i]'(by omega)=Z:=⟨_,rfl⟩
        have hrc:(REq (α:=Spc)) wr An Z fs[i]:=by
         have:=hall.at_ i (by omega) hlt
         rw [hZ] at this
         exact this
        obtain ⟨A'',ac'',ys',hlv,hyl,hyc,hym,hrd',hall'⟩:=hr2.sl spcA_size
        injection hlv with h1 h2 h3
        subst h1 h3
        clear h2
        obtain ⟨g2,rfl,hg2,hcs'⟩:=hrd' (by have:=HLS.out;omega)
        obtain ⟨Y,hY⟩:∃ Y,ys'[i]'(by have:=HLS.out;omega)=Y:=⟨_,rfl⟩
        have hrdd:(REq (α:=Spc)) wr An Y gs[i]:=by
         have:=hall'.at_ i (by have:=HLS.out;omega) hltb
         rw [hY] at this
         exact this
        obtain ⟨po,pn⟩:=Z
        obtain ⟨qo,qn⟩:=Y
        have hcell:∀ j,j<2→wr.cell? ⟨g1,i * 2+j,none⟩=(spcA ⟨po,pn⟩)[j]?:=fun j hj=>by rw [hcs i (by omega) j hj,hZ]
        have hcell2:∀ j,j<2→wr.cell? ⟨g2,i * 2+j,none⟩=(spcA ⟨qo,qn⟩)[j]?:=fun j hj=>by rw [hcs' i (by have:=HLS.out;omega) j hj,hY]
        have k2:wr.cell? ⟨gy,1,none⟩=some (.slice (some ⟨g2,0,none⟩) fs.length yg):=(HBY.out.below (HWC.out.trans HO.out)).cell 1
        have e0:wr.cell? ⟨g1,i * 2,none⟩=some (.string ⟨po.toArray⟩):=hcell 0 (by decide)
        have e1:wr.cell? ⟨g1,i * 2+1,none⟩=some (.string ⟨pn.toArray⟩):=hcell 1 (by decide)
        have f0:wr.cell? ⟨g2,i * 2,none⟩=some (.string ⟨qo.toArray⟩):=hcell2 0 (by decide)
        have f1:wr.cell? ⟨g2,i * 2+1,none⟩=some (.string ⟨qn.toArray⟩):=hcell2 1 (by decide)
        obtain ⟨RM',hRM⟩:∃ R,Hid (eqS ⟨po,pn⟩ ⟨qo,qn⟩=R):=⟨_,Lib.hid rfl⟩
        have HRR:Hid (eqS fs[i] (gs[i]'HLTB.out)=RM'):=by
         have e1:(⟨po,pn⟩:Spc)=fs[i]:=hrc
         have e2:(⟨qo,qn⟩:Spc)=gs[i]:=hrdd
         have a:=hRM.out
         rw [e1,e2] at a;exact a
        have hne':∀ w,Sem.run Tryz.prog (binOp .neq 50 (.agg #[.string ⟨po.toArray⟩,.string ⟨pn.toArray⟩]) (.agg #[.string ⟨qo.toArray⟩,.string ⟨qn.toArray⟩])) w = .ok (.bool (!RM')) w:=fun w=>by have:=neqSp.1 ⟨po,pn⟩ ⟨qo,qn⟩ w;rw [hRM.out] at this;exact this
        have hgd':∀ (op:BinOp) (a b:Operand) (w:World),Sem.run Tryz.prog (eqGuard op 50 a b (.agg #[.string ⟨po.toArray⟩,.string ⟨pn.toArray⟩]) (.agg #[.string ⟨qo.toArray⟩,.string ⟨qn.toArray⟩])) w = .ok () w:=fun op a b w=>neqSp.2 op a b ⟨po,pn⟩ ⟨qo,qn⟩ w
        clear hltb hcs hcs' hcell hcell2 hall hall' hr1 hr2 hZ hY hzl hyl hzc hzm hyc hym hrd' hrd hrc hrdd hg1 hg2
        go_upto_region 11 with fail
        cases RM' with
        | false =>
         go_quiet (fail)
         clear hne' hgd' k1 k2 e0 e1 f0 f1
         have HRF:Hid (R=false):=by unfold Hid;rw [HRE.out];simp [allEq_false i hlt HLTB.out HRR.out]
         go_wp2_with fail
         go_ret
         rw [HRF.out]
         exact ⟨rfl,(HWX.out.trans HO.out).trans (nx_drew _ _)⟩
        | true =>
         go_quiet (fail)
         clear hne' hgd' k1 k2 e0 e1 f0 f1
         go_wp2_with fail
         go_roundw
         case rel=>exact ⟨i+1,by go_num,hlt,Lib.hid (fun j a b h=>by
          rcases Nat.lt_or_ge j i with h' | h'
          ·exact HEQ.out j a b h'
          ·obtain rfl:j=i:=by omega
           exact HRR.out),Lib.hid (HO.out.trans (nx_drew _ _))⟩
         case measure=>simp [intOf];omega
       ·obtain rfl:i=fs.length:=by omega
        have q1:decide ((fs.length:Int)<(fs.length:Int))=false:=decide_eq_false (by omega)
        have HM2:Hid (allEq (eqS) fs gs=true):=allEq_true HLS.out fun j a b=>HEQ.out j a b a
        have HWX:=Lib.hid (HWX.out.trans HO.out)
        have HWC:=Lib.hid (HWC.out.trans HO.out)
        clear hlt hi HEQ HO hiI
        go_wp2_with fail
        clear k1 q1
        generalize wr=CW3 at *
        go_loopw [7] (fun iv wr=>∃ (i:Nat),iv = .int .i64 (i:Int)∧i≤fd.length∧Hid (∀ j (h1:j<fd.length) (h2:j<gd.length),j<i→(eqD) fd[j] gd[j]=true)∧Hid (Nx CW3 wr)) (fun iv _=>(200000 - intOf iv).toNat)
        case atStart=>exact ⟨0,rfl,Nat.zero_le _,Lib.hid (fun j _ _ h=>absurd h (Nat.not_lt_zero _)),Lib.hid (Nx.refl _)⟩
        case round =>
         obtain ⟨i,rfl,hi,HEQ,HO⟩:=hrel
         have hiI:(i:Int)≤100000:=by have:fd.length≤100000:=HCO.out.2.2.1;omega
         have k1:wr.cell? ⟨gx,2,none⟩=some (.slice zD fd.length zj):=(HBX.out.below (HWC.out.trans HO.out)).cell 2
         by_cases hlt:i<fd.length
         ·have q1:decide ((i:Int)<(fd.length:Int))=true:=decide_eq_true (by omega)
          have q2:(i:Int)<(fd.length:Int):=by omega
          have hltb:i<gd.length:=by have:=HLD.out;omega
          have HLTB:=Lib.hid hltb
          have hr1:LD wr An (.slice zD fd.length zj) fd:=LD.lasts (mvAn (HWX.out.trans HO.out)) HXD.out
          have hr2:LD wr An (.slice yD fd.length yj) gd:=LD.lasts (mvAn (HWX.out.trans HO.out)) HYD.out
          obtain ⟨A',ac',zs',hlv,hzl,hzc,hzm,hrd,hall⟩:=hr1.sl dfnA_size
          injection hlv with h1 h2 h3
          subst h1 h3
          clear h2
          obtain ⟨g1,rfl,hg1,hcs⟩:=hrd (by omega)
          obtain ⟨Z,hZ⟩:∃ Z,zs'[i]'(by omega)=Z:=⟨_,rfl⟩
          have hrc:RD wr An Z fd[i]:=by
           have:=hall.at_ i (by omega) hlt
           rw [hZ] at this
           exact RD.lasts ⟨fun _ _ _=>rfl,fun _ _ _=>trivial⟩ this
          obtain ⟨A'',ac'',ys',hlv,hyl,hyc,hym,hrd',hall'⟩:=hr2.sl dfnA_size
          injection hlv with h1 h2 h3
          subst h1 h3
          clear h2
          obtain ⟨g2,rfl,hg2,hcs'⟩:=hrd' (by have:=HLD.out;omega)
          obtain ⟨Y,hY⟩:∃ Y,ys'[i]'(by have:=HLD.out;omega)=Y:=⟨_,rfl⟩
          have hrdd:RD wr An Y gd[i]:=by
           have:=hall'.at_ i (by have:=HLD.out;omega) hltb
           rw [hY] at this
           exact RD.lasts ⟨fun _ _ _=>rfl,fun _ _ _=>trivial⟩ this
          obtain ⟨uk,un,ut,⟨ui,um,ud,us,ul⟩,up,uq,ue,ur⟩:=Z
          obtain ⟨uA,uu,uc,rfl⟩:∃ A k cap,ul = .slice A k cap:=hrc.2.2.2.1.slv
          obtain ⟨uB,uv,ug,rfl⟩:∃ A k cap,up = .slice A k cap:=by
           obtain ⟨A,c,-,e,-⟩:=hrc.2.2.2.2.1.sl fldA_size
           exact ⟨A,_,c,e⟩
          obtain ⟨uC,uw,uh,rfl⟩:∃ A k cap,uq = .slice A k cap:=by
           obtain ⟨A,c,-,e,-⟩:=hrc.2.2.2.2.2.1.sl memA_size
           exact ⟨A,_,c,e⟩
          obtain ⟨uD,ux,uj,rfl⟩:∃ A k cap,ur = .slice A k cap:=by
           obtain ⟨A,c,-,e,-⟩:=hrc.2.2.2.2.2.2.2.sl metA_size
           exact ⟨A,_,c,e⟩
          obtain ⟨vk,vn,vt,⟨vi,vm,vd,vs,vl⟩,vp,vq,ve,vr⟩:=Y
          obtain ⟨vA,vu,vc,rfl⟩:∃ A k cap,vl = .slice A k cap:=hrdd.2.2.2.1.slv
          obtain ⟨vB,vv,vg,rfl⟩:∃ A k cap,vp = .slice A k cap:=by
           obtain ⟨A,c,-,e,-⟩:=hrdd.2.2.2.2.1.sl fldA_size
           exact ⟨A,_,c,e⟩
          obtain ⟨vC,vw,vh,rfl⟩:∃ A k cap,vq = .slice A k cap:=by
           obtain ⟨A,c,-,e,-⟩:=hrdd.2.2.2.2.2.1.sl memA_size
           exact ⟨A,_,c,e⟩
          obtain ⟨vD,vx,vj,rfl⟩:∃ A k cap,vr = .slice A k cap:=by
           obtain ⟨A,c,-,e,-⟩:=hrdd.2.2.2.2.2.2.2.sl metA_size
           exact ⟨A,_,c,e⟩
          have hcell:∀ j,j<12→wr.cell? ⟨g1,i * 12+j,none⟩=(dfnA ⟨uk,un,ut,⟨ui,um,ud,us,.slice uA uu uc⟩,.slice uB uv ug,.slice uC uw uh,ue,.slice uD ux uj⟩)[j]?:=fun j hj=>by rw [hcs i (by omega) j hj,hZ]
          have hcell2:∀ j,j<12→wr.cell? ⟨g2,i * 12+j,none⟩=(dfnA ⟨vk,vn,vt,⟨vi,vm,vd,vs,.slice vA vu vc⟩,.slice vB vv vg,.slice vC vw vh,ve,.slice vD vx vj⟩)[j]?:=fun j hj=>by rw [hcs' i (by have:=HLD.out;omega) j hj,hY]
          have e0:∀ y:Gr wr,y.1.cell? ⟨g1,i * 12,none⟩=some (.int .i64 (uk:Int)):=fun y=>((y.2:Nx wr y.1).cell (p:=⟨g1,i * 12,none⟩) hg1).trans (hcell 0 (by decide))
          have e1:∀ y:Gr wr,y.1.cell? ⟨g1,i * 12+1,none⟩=some (.string ⟨un.toArray⟩):=fun y=>((y.2:Nx wr y.1).cell (p:=⟨g1,i * 12+1,none⟩) hg1).trans (hcell 1 (by decide))
          have e2:∀ y:Gr wr,y.1.cell? ⟨g1,i * 12+2,none⟩=some (.string ⟨ut.toArray⟩):=fun y=>((y.2:Nx wr y.1).cell (p:=⟨g1,i * 12+2,none⟩) hg1).trans (hcell 2 (by decide))
          have e3:∀ y:Gr wr,y.1.cell? ⟨g1,i * 12+3,none⟩=some (.int .i64 (ui:Int)):=fun y=>((y.2:Nx wr y.1).cell (p:=⟨g1,i * 12+3,none⟩) hg1).trans (hcell 3 (by decide))
          have e4:∀ y:Gr wr,y.1.cell? ⟨g1,i * 12+4,none⟩=some (.int .i64 um):=fun y=>((y.2:Nx wr y.1).cell (p:=⟨g1,i * 12+4,none⟩) hg1).trans (hcell 4 (by decide))
          have e5:∀ y:Gr wr,y.1.cell? ⟨g1,i * 12+5,none⟩=some (.int .u64 (ud:Int)):=fun y=>((y.2:Nx wr y.1).cell (p:=⟨g1,i * 12+5,none⟩) hg1).trans (hcell 5 (by decide))
          have e6:∀ y:Gr wr,y.1.cell? ⟨g1,i * 12+6,none⟩=some (.string ⟨us.toArray⟩):=fun y=>((y.2:Nx wr y.1).cell (p:=⟨g1,i * 12+6,none⟩) hg1).trans (hcell 6 (by decide))
          have e7:∀ y:Gr wr,y.1.cell? ⟨g1,i * 12+7,none⟩=some (.slice uA uu uc):=fun y=>((y.2:Nx wr y.1).cell (p:=⟨g1,i * 12+7,none⟩) hg1).trans (hcell 7 (by decide))
          have e8:∀ y:Gr wr,y.1.cell? ⟨g1,i * 12+8,none⟩=some (.slice uB uv ug):=fun y=>((y.2:Nx wr y.1).cell (p:=⟨g1,i * 12+8,none⟩) hg1).trans (hcell 8 (by decide))
          have e9:∀ y:Gr wr,y.1.cell? ⟨g1,i * 12+9,none⟩=some (.slice uC uw uh):=fun y=>((y.2:Nx wr y.1).cell (p:=⟨g1,i * 12+9,none⟩) hg1).trans (hcell 9 (by decide))
          have e10:∀ y:Gr wr,y.1.cell? ⟨g1,i * 12+10,none⟩=some (.string ⟨ue.toArray⟩):=fun y=>((y.2:Nx wr y.1).cell (p:=⟨g1,i * 12+10,none⟩) hg1).trans (hcell 10 (by decide))
          have e11:∀ y:Gr wr,y.1.cell? ⟨g1,i * 12+11,none⟩=some (.slice uD ux uj):=fun y=>((y.2:Nx wr y.1).cell (p:=⟨g1,i * 12+11,none⟩) hg1).trans (hcell 11 (by decide))
          have f0:∀ y:Gr wr,y.1.cell? ⟨g2,i * 12,none⟩=some (.int .i64 (vk:Int)):=fun y=>((y.2:Nx wr y.1).cell (p:=⟨g2,i * 12,none⟩) hg2).trans (hcell2 0 (by decide))
          have f1:∀ y:Gr wr,y.1.cell? ⟨g2,i * 12+1,none⟩=some (.string ⟨vn.toArray⟩):=fun y=>((y.2:Nx wr y.1).cell (p:=⟨g2,i * 12+1,none⟩) hg2).trans (hcell2 1 (by decide))
          have f2:∀ y:Gr wr,y.1.cell? ⟨g2,i * 12+2,none⟩=some (.string ⟨vt.toArray⟩):=fun y=>((y.2:Nx wr y.1).cell (p:=⟨g2,i * 12+2,none⟩) hg2).trans (hcell2 2 (by decide))
          have f3:∀ y:Gr wr,y.1.cell? ⟨g2,i * 12+3,none⟩=some (.int .i64 (vi:Int)):=fun y=>((y.2:Nx wr y.1).cell (p:=⟨g2,i * 12+3,none⟩) hg2).trans (hcell2 3 (by decide))
          have f4:∀ y:Gr wr,y.1.cell? ⟨g2,i * 12+4,none⟩=some (.int .i64 vm):=fun y=>((y.2:Nx wr y.1).cell (p:=⟨g2,i * 12+4,none⟩) hg2).trans (hcell2 4 (by decide))
          have f5:∀ y:Gr wr,y.1.cell? ⟨g2,i * 12+5,none⟩=some (.int .u64 (vd:Int)):=fun y=>((y.2:Nx wr y.1).cell (p:=⟨g2,i * 12+5,none⟩) hg2).trans (hcell2 5 (by decide))
          have f6:∀ y:Gr wr,y.1.cell? ⟨g2,i * 12+6,none⟩=some (.string ⟨vs.toArray⟩):=fun y=>((y.2:Nx wr y.1).cell (p:=⟨g2,i * 12+6,none⟩) hg2).trans (hcell2 6 (by decide))
          have f7:∀ y:Gr wr,y.1.cell? ⟨g2,i * 12+7,none⟩=some (.slice vA vu vc):=fun y=>((y.2:Nx wr y.1).cell (p:=⟨g2,i * 12+7,none⟩) hg2).trans (hcell2 7 (by decide))
          have f8:∀ y:Gr wr,y.1.cell? ⟨g2,i * 12+8,none⟩=some (.slice vB vv vg):=fun y=>((y.2:Nx wr y.1).cell (p:=⟨g2,i * 12+8,none⟩) hg2).trans (hcell2 8 (by decide))
          have f9:∀ y:Gr wr,y.1.cell? ⟨g2,i * 12+9,none⟩=some (.slice vC vw vh):=fun y=>((y.2:Nx wr y.1).cell (p:=⟨g2,i * 12+9,none⟩) hg2).trans (hcell2 9 (by decide))
          have f10:∀ y:Gr wr,y.1.cell? ⟨g2,i * 12+10,none⟩=some (.string ⟨ve.toArray⟩):=fun y=>((y.2:Nx wr y.1).cell (p:=⟨g2,i * 12+10,none⟩) hg2).trans (hcell2 10 (by decide))
          have f11:∀ y:Gr wr,y.1.cell? ⟨g2,i * 12+11,none⟩=some (.slice vD vx vj):=fun y=>((y.2:Nx wr y.1).cell (p:=⟨g2,i * 12+11,none⟩) hg2).trans (hcell2 11 (by decide))
          have k3:∀ y:Gr wr,y.1.cell? ⟨gx,2,none⟩=some (.slice (some ⟨g1,0,none⟩) fd.length zj):=fun y=>(HBX.out.below ((HWC.out.trans HO.out).trans y.2)).cell 2
          have k4:∀ y:Gr wr,y.1.cell? ⟨gy,2,none⟩=some (.slice (some ⟨g2,0,none⟩) fd.length yj):=fun y=>(HBY.out.below ((HWC.out.trans HO.out).trans y.2)).cell 2
          obtain ⟨R',hR'⟩:∃ R',Hid (eqD fd[i] (gd[i]'HLTB.out)=R'):=⟨_,Lib.hid rfl⟩
          have hcall:∀ w4,Nx wr w4→Calls Tryz.prog 34 #[.agg #[.int .i64 (uk:Int),.string ⟨un.toArray⟩,.string ⟨ut.toArray⟩,.int .i64 (ui:Int),.int .i64 um,.int .u64 (ud:Int),.string ⟨us.toArray⟩,.slice uA uu uc,.slice uB uv ug,.slice uC uw uh,.string ⟨ue.toArray⟩,.slice uD ux uj],.agg #[.int .i64 (vk:Int),.string ⟨vn.toArray⟩,.string ⟨vt.toArray⟩,.int .i64 (vi:Int),.int .i64 vm,.int .u64 (vd:Int),.string ⟨vs.toArray⟩,.slice vA vu vc,.slice vB vv vg,.slice vC vw vh,.string ⟨ve.toArray⟩,.slice vD vx vj]] w4 fun e w'=>e = .returned (.bool R')∧Nx w4 w':=fun w4 h4=>by
           have:=dsameDef w4 ⟨uk,un,ut,⟨ui,um,ud,us,.slice uA uu uc⟩,.slice uB uv ug,.slice uC uw uh,ue,.slice uD ux uj⟩ ⟨vk,vn,vt,⟨vi,vm,vd,vs,.slice vA vu vc⟩,.slice vB vv vg,.slice vC vw vh,ve,.slice vD vx vj⟩ (fd[i]'hlt) (gd[i]'HLTB.out) (RD.lasts (mvAn h4) hrc) (RD.lasts (mvAn h4) hrdd) (HCO.out.2.2.2 _ (List.getElem_mem hlt))
           rw [hR'.out] at this;exact this
          have HC:=Lib.hid hcall
          clear hcall hltb hcs hcs' hcell hcell2 hall hall' hr1 hr2 hZ hY hzl hyl hzc hzm hyc hym hrd' hrd hrc hrdd hg1 hg2
          go_wp2_with fail
          refine wp_region_hyb [(0,true),(1,true),(2,true),(3,true),(4,true),(5,true),(6,true),(7,true),(8,true),(9,true),(10,false),(11,true)] (by kernel_rfl) (by kernel_rfl) ?_
          iterate 10 (refine hyb_calm rfl (fun K hK=>?_);go_simp;refine hK _ ?_;clear hK K)
          refine hyb_alone rfl (fun w4 hn4 K hK=>?_)
          go_simp
          refine (HC.out w4 hn4).mono ?_;rintro e w5 ⟨rfl,hn5⟩
          refine hK _ _ hn5 ?_
          clear hK K
          iterate 1 (refine hyb_calm rfl (fun K hK=>?_);go_simp;refine hK _ ?_;clear hK K)
          refine hyb_nil (fun w8 hn8=>?_)
          have HNN:=Lib.hid (((HO.out.trans hn4).trans hn5).trans hn8)
          clear hn4 hn5 hn8 k1 k3 k4 HC e0 f0 e1 f1 e2 f2 e3 f3 e4 f4 e5 f5 e6 f6 e7 f7 e8 f8 e9 f9 e10 f10 e11 f11
          cases R' with
          | true =>
           go_wp2_with fail
           go_roundw
           case rel=>exact ⟨i+1,by go_num,hlt,Lib.hid (fun j a b h=>by
            rcases Nat.lt_or_ge j i with h' | h'
            ·exact HEQ.out j a b h'
            ·obtain rfl:j=i:=by omega
             exact hR'.out),HNN⟩
           case measure=>simp [intOf];omega
          | false =>
           have HRF:Hid (R=false):=by unfold Hid;rw [HRE.out];simp [allEq_false i hlt HLTB.out hR'.out]
           go_wp2_with fail
           go_ret
           rw [HRF.out]
           exact ⟨rfl,HWX.out.trans HNN.out⟩
         ·obtain rfl:i=fd.length:=by omega
          have q1:decide ((fd.length:Int)<(fd.length:Int))=false:=decide_eq_false (by omega)
          have HM3:Hid (allEq (eqD) fd gd=true):=allEq_true HLD.out fun j a b=>HEQ.out j a b a
          have HRF:Hid (R=true):=by unfold Hid;rw [HRE.out];simp [HM1.out,HM2.out,HM3.out]
          clear hlt hi
          go_wp2_with fail
          go_ret
          rw [HRF.out]
          exact ⟨rfl,HWX.out.trans HO.out⟩
   ·have HNE:Hid (allEq eqD fd gd=false):=allEq_len h3
    have t9:((fd.length:Int) != (gd.length:Int))=true:=by rw [bne_iff_ne];omega
    have t9':¬ (fd.length:Int)=(gd.length:Int):=by omega
    clear h1 h2 h3 hyi hys hyd
    obtain ⟨gx,hgx⟩:∃ g,w.heap.size=g:=⟨_,rfl⟩
    have hBx:=Blk.new w #[.slice zA fi.length zc,.slice zB fs.length zg,.slice zD fd.length zj] 27
    rw [hgx] at hBx
    have hn1:Nx w (w.alloc (.cells #[.slice zA fi.length zc,.slice zB fs.length zg,.slice zD fd.length zj] 27)):=nx0 _ _
    have hs1:(w.alloc (.cells #[.slice zA fi.length zc,.slice zB fs.length zg,.slice zD fd.length zj] 27)).heap.size=w.heap.size+1:=by simp
    rw [hgx] at hs1
    obtain ⟨gy,hgy⟩:∃ g,gx+1=g:=⟨_,rfl⟩
    rw [hgy] at hs1
    have HBX:=Lib.hid hBx
    have HN1:=Lib.hid hn1
    clear hBx hn1
    show Calls _ _ #[.agg #[.slice zA fi.length zc,.slice zB fs.length zg,.slice zD fd.length zj],.agg #[.slice yA fi.length yc,.slice yB fs.length yg,.slice yD gd.length yj]] _ _
    go_enter Tryz.func13,Tryz.ntmps13
    go_upto_region 1 with fail
    generalize hW1:World.alloc w _=W1 at *
    have hBy:=Blk.new W1 #[.slice yA fi.length yc,.slice yB fs.length yg,.slice yD gd.length yj] 27
    have hn2:Nx W1 (W1.alloc (.cells #[.slice yA fi.length yc,.slice yB fs.length yg,.slice yD gd.length yj] 27)):=nx0 _ _
    rw [hs1] at hBy
    have hBx:=HBX.out.below hn2
    generalize World.alloc W1 _=W at *
    have HBX:=Lib.hid hBx
    have HBY:=Lib.hid hBy
    have HWX:=Lib.hid (HN1.out.trans hn2)
    have HWC:Hid (Nx W W):=Nx.refl _
    clear hW1 hBx hBy hn2 hs1 hgx hgy HN1
    have gx0:W.cell? ⟨gx,0,none⟩=some (.slice zA fi.length zc):=HBX.out.cell 0
    have gx1:W.cell? ⟨gx,1,none⟩=some (.slice zB fs.length zg):=HBX.out.cell 1
    have gx2:W.cell? ⟨gx,2,none⟩=some (.slice zD fd.length zj):=HBX.out.cell 2
    have gy0:W.cell? ⟨gy,0,none⟩=some (.slice yA fi.length yc):=HBY.out.cell 0
    have gy1:W.cell? ⟨gy,1,none⟩=some (.slice yB fs.length yg):=HBY.out.cell 1
    have gy2:W.cell? ⟨gy,2,none⟩=some (.slice yD gd.length yj):=HBY.out.cell 2
    go_wp2_with fail
    go_ret
    have HRF:Hid (R=false):=by unfold Hid;rw [HRE.out];simp [HNE.out]
    rw [HRF.out]
    exact ⟨rfl,HWX.out⟩
  ·have HNE:Hid (allEq eqS fs gs=false):=allEq_len h2
   have t9:((fs.length:Int) != (gs.length:Int))=true:=by rw [bne_iff_ne];omega
   have t9':¬ (fs.length:Int)=(gs.length:Int):=by omega
   clear h1 h2 hyi hys hyd
   obtain ⟨gx,hgx⟩:∃ g,w.heap.size=g:=⟨_,rfl⟩
   have hBx:=Blk.new w #[.slice zA fi.length zc,.slice zB fs.length zg,.slice zD fd.length zj] 27
   rw [hgx] at hBx
   have hn1:Nx w (w.alloc (.cells #[.slice zA fi.length zc,.slice zB fs.length zg,.slice zD fd.length zj] 27)):=nx0 _ _
   have hs1:(w.alloc (.cells #[.slice zA fi.length zc,.slice zB fs.length zg,.slice zD fd.length zj] 27)).heap.size=w.heap.size+1:=by simp
   rw [hgx] at hs1
   obtain ⟨gy,hgy⟩:∃ g,gx+1=g:=⟨_,rfl⟩
   rw [hgy] at hs1
   have HBX:=Lib.hid hBx
   have HN1:=Lib.hid hn1
   clear hBx hn1
   show Calls _ _ #[.agg #[.slice zA fi.length zc,.slice zB fs.length zg,.slice zD fd.length zj],.agg #[.slice yA fi.length yc,.slice yB gs.length yg,.slice yD gd.length yj]] _ _
   go_enter Tryz.func13,Tryz.ntmps13
   go_upto_region 1 with fail
   generalize hW1:World.alloc w _=W1 at *
   have hBy:=Blk.new W1 #[.slice yA fi.length yc,.slice yB gs.length yg,.slice yD gd.length yj] 27
   have hn2:Nx W1 (W1.alloc (.cells #[.slice yA fi.length yc,.slice yB gs.length yg,.slice yD gd.length yj] 27)):=nx0 _ _
   rw [hs1] at hBy
   have hBx:=HBX.out.below hn2
   generalize World.alloc W1 _=W at *
   have HBX:=Lib.hid hBx
   have HBY:=Lib.hid hBy
   have HWX:=Lib.hid (HN1.out.trans hn2)
   have HWC:Hid (Nx W W):=Nx.refl _
   clear hW1 hBx hBy hn2 hs1 hgx hgy HN1
   have gx0:W.cell? ⟨gx,0,none⟩=some (.slice zA fi.length zc):=HBX.out.cell 0
   have gx1:W.cell? ⟨gx,1,none⟩=some (.slice zB fs.length zg):=HBX.out.cell 1
   have gx2:W.cell? ⟨gx,2,none⟩=some (.slice zD fd.length zj):=HBX.out.cell 2
   have gy0:W.cell? ⟨gy,0,none⟩=some (.slice yA fi.length yc):=HBY.out.cell 0
   have gy1:W.cell? ⟨gy,1,none⟩=some (.slice yB gs.length yg):=HBY.out.cell 1
   have gy2:W.cell? ⟨gy,2,none⟩=some (.slice yD gd.length yj):=HBY.out.cell 2
   go_wp2_with fail
   go_ret
   have HRF:Hid (R=false):=by unfold Hid;rw [HRE.out];simp [HNE.out]
   rw [HRF.out]
   exact ⟨rfl,HWX.out⟩
 ·have HNE:Hid (allEq (fun x y=>x == y) fi gi=false):=allEq_len h1
  have t9:((fi.length:Int) != (gi.length:Int))=true:=by rw [bne_iff_ne];omega
  have t9':¬ (fi.length:Int)=(gi.length:Int):=by omega
  clear h1 hyi hys hyd
  obtain ⟨gx,hgx⟩:∃ g,w.heap.size=g:=⟨_,rfl⟩
  have hBx:=Blk.new w #[.slice zA fi.length zc,.slice zB fs.length zg,.slice zD fd.length zj] 27
  rw [hgx] at hBx
  have hn1:Nx w (w.alloc (.cells #[.slice zA fi.length zc,.slice zB fs.length zg,.slice zD fd.length zj] 27)):=nx0 _ _
  have hs1:(w.alloc (.cells #[.slice zA fi.length zc,.slice zB fs.length zg,.slice zD fd.length zj] 27)).heap.size=w.heap.size+1:=by simp
  rw [hgx] at hs1
  obtain ⟨gy,hgy⟩:∃ g,gx+1=g:=⟨_,rfl⟩
  rw [hgy] at hs1
  have HBX:=Lib.hid hBx
  have HN1:=Lib.hid hn1
  clear hBx hn1
  show Calls _ _ #[.agg #[.slice zA fi.length zc,.slice zB fs.length zg,.slice zD fd.length zj],.agg #[.slice yA gi.length yc,.slice yB gs.length yg,.slice yD gd.length yj]] _ _
  go_enter Tryz.func13,Tryz.ntmps13
  go_upto_region 1 with fail
  generalize hW1:World.alloc w _=W1 at *
  have hBy:=Blk.new W1 #[.slice yA gi.length yc,.slice yB gs.length yg,.slice yD gd.length yj] 27
  have hn2:Nx W1 (W1.alloc (.cells #[.slice yA gi.length yc,.slice yB gs.length yg,.slice yD gd.length yj] 27)):=nx0 _ _
  rw [hs1] at hBy
  have hBx:=HBX.out.below hn2
  generalize World.alloc W1 _=W at *
  have HBX:=Lib.hid hBx
  have HBY:=Lib.hid hBy
  have HWX:=Lib.hid (HN1.out.trans hn2)
  have HWC:Hid (Nx W W):=Nx.refl _
  clear hW1 hBx hBy hn2 hs1 hgx hgy HN1
  have gx0:W.cell? ⟨gx,0,none⟩=some (.slice zA fi.length zc):=HBX.out.cell 0
  have gx1:W.cell? ⟨gx,1,none⟩=some (.slice zB fs.length zg):=HBX.out.cell 1
  have gx2:W.cell? ⟨gx,2,none⟩=some (.slice zD fd.length zj):=HBX.out.cell 2
  have gy0:W.cell? ⟨gy,0,none⟩=some (.slice yA gi.length yc):=HBY.out.cell 0
  have gy1:W.cell? ⟨gy,1,none⟩=some (.slice yB gs.length yg):=HBY.out.cell 1
  have gy2:W.cell? ⟨gy,2,none⟩=some (.slice yD gd.length yj):=HBY.out.cell 2
  go_wp2_with fail
  go_ret
  have HRF:Hid (R=false):=by unfold Hid;rw [HRE.out];simp [HNE.out]
  rw [HRF.out]
  exact ⟨rfl,HWX.out⟩
end Go.Proofs.YtjggghfekakogaaGreatDoor
