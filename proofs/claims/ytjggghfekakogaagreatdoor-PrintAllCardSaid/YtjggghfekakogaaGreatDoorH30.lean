/- The document's test of constants. Two variables made at once, 'x, y := a[i], b[i]', in whatever order that may be done. Plain lemmas. -/
import Derived.Test.YtjggghfekakogaaGreatDoorH21
import Derived.Test.YtjggghfekakogaaGreatDoorH02
import Derived.Test.YtjggghfekakogaaGreatDoorH25
set_option linter.unusedVariables false
set_option linter.unusedSimpArgs false
set_option linter.unnecessarySimpa false
namespace Go.Proofs.YtjggghfekakogaaGreatDoor
open Go.RowKit
def lnC:Nat→Con→Prop
 | 0,_=>False
 | n+1,.mk _ _ _ _ l=>l.length≤100000∧∀ y ∈ l,lnC n y
set_option maxRecDepth 100000 in
set_option maxHeartbeats 12800000 in
theorem dsameConst:∀ (n:Nat) (w:World) (x y:ConS) (c d:Con),RC n w An x c→RC n w An y d→lnC n c →
  Calls Tryz.prog 79 #[.agg (conA x),.agg (conA y)] w fun e w'=>e = .returned (.bool (eqC n c d))∧Nx w w'
 | 0=>fun _ _ _ _ _ h=>h.elim
 | n+1=>by
  intro w x y c d hx hy hln
  have HIH:=Lib.hid (dsameConst n)
  obtain ⟨xk,xi,xd,xs,xl⟩:=x
  obtain ⟨yk,yi,yd,ys,yl⟩:=y
  obtain ⟨la,rfl,hxl⟩:=hx.of
  obtain ⟨lb,rfl,hyl⟩:=hy.of
  dsimp only at hxl hyl hln ⊢
  obtain ⟨A1,a1,-,hv1,-⟩:=hxl.sl conA_size
  obtain ⟨A2,a2,-,hv2,-⟩:=hyl.sl conA_size
  subst hv1 hv2
  have HXL:Hid (LC n w An (.slice A1 la.length a1) la):=hxl
  have HLEN:Hid (la.length≤100000):=hln.1
  have HLN:Hid (∀ y ∈ la,lnC n y):=hln.2
  by_cases h4:la.length=lb.length
  ·have H4:=Lib.hid h4
   rw [← h4]
   rw [← h4] at hyl
   have HYL:Hid (LC n w An (.slice A2 la.length a2) lb):=hyl
   clear h4
   obtain ⟨R,hR⟩:∃ R,Hid (eqC (n+1) (.mk xk xi xd xs la) (.mk yk yi yd ys lb)=R):=⟨_,Lib.hid rfl⟩
   rw [hR.out]
   have hRe:R=((xk == yk) && (xi == yi) && (xd == yd) && (xs == ys) && allEq (eqC n) la lb):=hR.out.symm
   have HRE:=Lib.hid hRe
   obtain ⟨gx,hgx⟩:∃ g,w.heap.size=g:=⟨_,rfl⟩
   have hBx:=Blk.new w #[.int .i64 (xk:Int),.int .i64 xi,.int .u64 (xd:Int),.string ⟨xs.toArray⟩,.slice A1 la.length a1] 48
   rw [hgx] at hBx
   have hn1:Nx w (w.alloc (.cells #[.int .i64 (xk:Int),.int .i64 xi,.int .u64 (xd:Int),.string ⟨xs.toArray⟩,.slice A1 la.length a1] 48)):=nx0 _ _
   have hs1:(w.alloc (.cells #[.int .i64 (xk:Int),.int .i64 xi,.int .u64 (xd:Int),.string ⟨xs.toArray⟩,.slice A1 la.length a1] 48)).heap.size=w.heap.size+1:=by simp
   rw [hgx] at hs1
   obtain ⟨gy,hgy⟩:∃ g,gx+1=g:=⟨_,rfl⟩
   rw [hgy] at hs1
   have HBX:=Lib.hid hBx
   have HN1:=Lib.hid hn1
   clear hR hRe hBx hn1 hx hy hxl hyl hln
   show Calls _ _ #[.agg #[.int .i64 (xk:Int),.int .i64 xi,.int .u64 (xd:Int),.string ⟨xs.toArray⟩,.slice A1 la.length a1],.agg #[.int .i64 (yk:Int),.int .i64 yi,.int .u64 (yd:Int),.string ⟨ys.toArray⟩,.slice A2 la.length a2]] _ _
   go_enter Tryz.func79,Tryz.ntmps79
   go_upto_region 1 with fail
   generalize hW1:World.alloc w _=W1 at *
   have hBy:=Blk.new W1 #[.int .i64 (yk:Int),.int .i64 yi,.int .u64 (yd:Int),.string ⟨ys.toArray⟩,.slice A2 la.length a2] 48
   have hn2:Nx W1 (W1.alloc (.cells #[.int .i64 (yk:Int),.int .i64 yi,.int .u64 (yd:Int),.string ⟨ys.toArray⟩,.slice A2 la.length a2] 48)):=nx0 _ _
   rw [hs1] at hBy
   have hBx:=HBX.out.below hn2
   generalize World.alloc W1 _=W at *
   have HBX:=Lib.hid hBx
   have HBY:=Lib.hid hBy
   have HWX:=Lib.hid (HN1.out.trans hn2)
   clear hW1 hBx hBy hn2 hs1 hgx hgy HN1
   have gx0:W.cell? ⟨gx,0,none⟩=some (.int .i64 (xk:Int)):=HBX.out.cell 0
   have gx1:W.cell? ⟨gx,1,none⟩=some (.int .i64 xi):=HBX.out.cell 1
   have gx2:W.cell? ⟨gx,2,none⟩=some (.int .u64 (xd:Int)):=HBX.out.cell 2
   have gx3:W.cell? ⟨gx,3,none⟩=some (.string ⟨xs.toArray⟩):=HBX.out.cell 3
   have gx4:W.cell? ⟨gx,4,none⟩=some (.slice A1 la.length a1):=HBX.out.cell 4
   have gy0:W.cell? ⟨gy,0,none⟩=some (.int .i64 (yk:Int)):=HBY.out.cell 0
   have gy1:W.cell? ⟨gy,1,none⟩=some (.int .i64 yi):=HBY.out.cell 1
   have gy2:W.cell? ⟨gy,2,none⟩=some (.int .u64 (yd:Int)):=HBY.out.cell 2
   have gy3:W.cell? ⟨gy,3,none⟩=some (.string ⟨ys.toArray⟩):=HBY.out.cell 3
   have gy4:W.cell? ⟨gy,4,none⟩=some (.slice A2 la.length a2):=HBY.out.cell 4
   by_cases h0:xk=yk
   ·subst h0
    by_cases h1:xi=yi
    ·subst h1
     by_cases h2:xd=yd
     ·subst h2
      by_cases h3:xs=ys
      ·subst h3
       go_wp2_with fail
       clear gx0 gy0 gx1 gy1 gx2 gy2 gx3 gy3 gx4 gy4
       go_loopw [5] (fun iv wr=>∃ (i:Nat),iv = .int .i64 (i:Int)∧i≤la.length∧Hid (∀ j (h1:j<la.length) (h2:j<lb.length),j<i→eqC n la[j] lb[j]=true)∧Hid (Nx W wr)) (fun iv _=>(200000 - intOf iv).toNat)
       case atStart=>exact ⟨0,rfl,Nat.zero_le _,Lib.hid (fun j _ _ h=>absurd h (Nat.not_lt_zero _)),Lib.hid (Nx.refl _)⟩
       case round =>
        obtain ⟨i,rfl,hi,HEQ,HO⟩:=hrel
        have hiI:(i:Int)≤100000:=by have:=HLEN.out;omega
        have gx4:wr.cell? ⟨gx,4,none⟩=some (.slice A1 la.length a1):=(HBX.out.below HO.out).cell 4
        by_cases hlt:i<la.length
        ·have q1:decide ((i:Int)<(la.length:Int))=true:=decide_eq_true (by omega)
         have q2:(i:Int)<(la.length:Int):=by omega
         have hltb:i<lb.length:=by have:=H4.out;omega
         have HLTB:=Lib.hid hltb
         have hr1:LC n wr An (.slice A1 la.length a1) la:=LC.lasts n (mvAn (HWX.out.trans HO.out)) HXL.out
         have hr2:LC n wr An (.slice A2 la.length a2) lb:=LC.lasts n (mvAn (HWX.out.trans HO.out)) HYL.out
         obtain ⟨A',ac',zs,hlv,hzl,hzc,hzm,hrd,hall⟩:=hr1.sl conA_size
         injection hlv with h1 h2 h3
         subst h1 h3
         clear h2
         obtain ⟨g1,rfl,hg1,hcs⟩:=hrd (by omega)
         obtain ⟨Z,hZ⟩:∃ Z,zs[i]'(by omega)=Z:=⟨_,rfl⟩
         have hrc:RC n wr An Z la[i]:=by
          have:=hall.at_ i (by omega) hlt
          rw [hZ] at this
          exact RC.lasts n ⟨fun _ _ _=>rfl,fun _ _ _=>trivial⟩ this
         obtain ⟨A'',ac'',ys',hlv,hyl',hyc,hym,hrd',hall'⟩:=hr2.sl conA_size
         injection hlv with h1 h2 h3
         subst h1 h3
         clear h2
         obtain ⟨g2,rfl,hg2,hcs'⟩:=hrd' (by have:=H4.out;omega)
         obtain ⟨V,hV⟩:∃ V,ys'[i]'(by have:=H4.out;omega)=V:=⟨_,rfl⟩
         have hrv:RC n wr An V lb[i]:=by
          have:=hall'.at_ i (by have:=H4.out;omega) hltb
          rw [hV] at this
          exact RC.lasts n ⟨fun _ _ _=>rfl,fun _ _ _=>trivial⟩ this
         obtain ⟨zk,zi,zd,zs',zl⟩:=Z
         obtain ⟨zA,zu,zc,rfl⟩:∃ A k cap,zl = .slice A k cap:=hrc.slv
         obtain ⟨vk,vi,vd,vs,vl⟩:=V
         obtain ⟨vA,vu,vc,rfl⟩:∃ A k cap,vl = .slice A k cap:=hrv.slv
         have hcell:∀ j,j<5→wr.cell? ⟨g1,i * 5+j,none⟩=(conA ⟨zk,zi,zd,zs',.slice zA zu zc⟩)[j]?:=fun j hj=>by rw [hcs i (by omega) j hj,hZ]
         have hcell2:∀ j,j<5→wr.cell? ⟨g2,i * 5+j,none⟩=(conA ⟨vk,vi,vd,vs,.slice vA vu vc⟩)[j]?:=fun j hj=>by rw [hcs' i (by have:=H4.out;omega) j hj,hV]
         have e0:∀ y:Gr wr,y.1.cell? ⟨g1,i * 5,none⟩=some (.int .i64 (zk:Int)):=fun y=>((y.2:Nx wr y.1).cell (p:=⟨g1,i * 5,none⟩) hg1).trans (hcell 0 (by decide))
         have e1:∀ y:Gr wr,y.1.cell? ⟨g1,i * 5+1,none⟩=some (.int .i64 zi):=fun y=>((y.2:Nx wr y.1).cell (p:=⟨g1,i * 5+1,none⟩) hg1).trans (hcell 1 (by decide))
         have e2:∀ y:Gr wr,y.1.cell? ⟨g1,i * 5+2,none⟩=some (.int .u64 (zd:Int)):=fun y=>((y.2:Nx wr y.1).cell (p:=⟨g1,i * 5+2,none⟩) hg1).trans (hcell 2 (by decide))
         have e3:∀ y:Gr wr,y.1.cell? ⟨g1,i * 5+3,none⟩=some (.string ⟨zs'.toArray⟩):=fun y=>((y.2:Nx wr y.1).cell (p:=⟨g1,i * 5+3,none⟩) hg1).trans (hcell 3 (by decide))
         have e4:∀ y:Gr wr,y.1.cell? ⟨g1,i * 5+4,none⟩=some (.slice zA zu zc):=fun y=>((y.2:Nx wr y.1).cell (p:=⟨g1,i * 5+4,none⟩) hg1).trans (hcell 4 (by decide))
         have f0:∀ y:Gr wr,y.1.cell? ⟨g2,i * 5,none⟩=some (.int .i64 (vk:Int)):=fun y=>((y.2:Nx wr y.1).cell (p:=⟨g2,i * 5,none⟩) hg2).trans (hcell2 0 (by decide))
         have f1:∀ y:Gr wr,y.1.cell? ⟨g2,i * 5+1,none⟩=some (.int .i64 vi):=fun y=>((y.2:Nx wr y.1).cell (p:=⟨g2,i * 5+1,none⟩) hg2).trans (hcell2 1 (by decide))
         have f2:∀ y:Gr wr,y.1.cell? ⟨g2,i * 5+2,none⟩=some (.int .u64 (vd:Int)):=fun y=>((y.2:Nx wr y.1).cell (p:=⟨g2,i * 5+2,none⟩) hg2).trans (hcell2 2 (by decide))
         have f3:∀ y:Gr wr,y.1.cell? ⟨g2,i * 5+3,none⟩=some (.string ⟨vs.toArray⟩):=fun y=>((y.2:Nx wr y.1).cell (p:=⟨g2,i * 5+3,none⟩) hg2).trans (hcell2 3 (by decide))
         have f4:∀ y:Gr wr,y.1.cell? ⟨g2,i * 5+4,none⟩=some (.slice vA vu vc):=fun y=>((y.2:Nx wr y.1).cell (p:=⟨g2,i * 5+4,none⟩) hg2).trans (hcell2 4 (by decide))
         have k1:∀ y:Gr wr,y.1.cell? ⟨gx,4,none⟩=some (.slice (some ⟨g1,0,none⟩) la.length a1):=fun y=>((HBX.out.below HO.out).below y.2).cell 4
         have k2:∀ y:Gr wr,y.1.cell? ⟨gy,4,none⟩=some (.slice (some ⟨g2,0,none⟩) la.length a2):=fun y=>((HBY.out.below HO.out).below y.2).cell 4
         obtain ⟨R',hR'⟩:∃ R',Hid (eqC n la[i] (lb[i]'HLTB.out)=R'):=⟨_,Lib.hid rfl⟩
         have hcall:∀ w4,Nx wr w4→Calls Tryz.prog 79 #[.agg #[.int .i64 (zk:Int),.int .i64 zi,.int .u64 (zd:Int),.string ⟨zs'.toArray⟩,.slice zA zu zc],.agg #[.int .i64 (vk:Int),.int .i64 vi,.int .u64 (vd:Int),.string ⟨vs.toArray⟩,.slice vA vu vc]] w4 fun e w'=>e = .returned (.bool R')∧Nx w4 w':=fun w4 h4=>by
          have:=HIH.out w4 ⟨zk,zi,zd,zs',.slice zA zu zc⟩ ⟨vk,vi,vd,vs,.slice vA vu vc⟩ (la[i]'hlt) (lb[i]'HLTB.out) (RC.lasts n (mvAn h4) hrc) (RC.lasts n (mvAn h4) hrv) (HLN.out _ (List.getElem_mem hlt))
          rw [hR'.out] at this;exact this
         have HC:=Lib.hid hcall
         clear hcall hltb hcs hcs' hcell hcell2 hall hall' hr1 hr2 hZ hV hrc hrv hzl hyl' hzc hzm hyc hym hrd' hrd hg1 hg2
         go_wp2_with fail
         refine wp_region_hyb [(0,true),(1,true),(2,true),(3,true),(4,true),(5,true),(6,true),(7,true),(8,true),(9,true),(10,false),(11,true)] (by kernel_rfl) (by kernel_rfl) ?_
         iterate 10 (refine hyb_calm rfl (fun K hK=>?_);go_simp;refine hK _ ?_;clear hK K)
         refine hyb_alone rfl (fun w4 hn4 K hK=>?_)
         go_simp
         refine (HC.out w4 hn4).mono ?_;rintro e w5 ⟨rfl,hn5⟩
         refine hK _ _ hn5 ?_
         clear hK K
         iterate 1 (refine hyb_calm rfl (fun K hK=>?_);go_simp;refine hK _ ?_;clear hK K)
         refine hyb_nil (fun w8 hn8=>?_)
         have HNN:=Lib.hid (((HO.out.trans hn4).trans hn5).trans hn8)
         clear hn4 hn5 hn8 k1 k2 gx4 HC e0 e1 e2 e3 e4 f0 f1 f2 f3 f4
         cases R' with
         | true =>
          go_wp2_with fail
          go_roundw
          case rel=>exact ⟨i+1,by go_num,hlt,Lib.hid (fun j a b h=>by
           rcases Nat.lt_or_ge j i with h' | h'
           ·exact HEQ.out j a b h'
           ·obtain rfl:j=i:=by omega
            exact hR'.out),HNN⟩
          case measure=>simp [intOf];omega
         | false =>
          have HRF:Hid (R=false):=by unfold Hid;rw [HRE.out];simp [allEq_false i hlt HLTB.out hR'.out]
          go_wp2_with fail
          go_ret
          rw [HRF.out]
          exact ⟨rfl,HWX.out.trans HNN.out⟩
        ·obtain rfl:i=la.length:=by omega
         have q1:decide ((la.length:Int)<(la.length:Int))=false:=decide_eq_false (by omega)
         have HRF:Hid (R=true):=by unfold Hid;rw [HRE.out];simp [allEq_true H4.out fun j a b=>HEQ.out j a b a]
         clear hlt hi
         go_wp2_with fail
         go_ret
         rw [HRF.out]
         exact ⟨rfl,HWX.out.trans HO.out⟩
      ·have HRF:Hid (R=false):=by unfold Hid;rw [HRE.out];simp [h3]
       obtain ⟨S,hS⟩:∃ S:ByteArray,(⟨xs.toArray⟩:ByteArray)=S:=⟨_,rfl⟩
       obtain ⟨T,hT⟩:∃ T:ByteArray,(⟨ys.toArray⟩:ByteArray)=T:=⟨_,rfl⟩
       have hst:S.toList≠T.toList:=by rw [← hS,← hT,(Tx.of xs).toL,(Tx.of ys).toL];exact h3
       have hst1:¬ S.toList=T.toList:=hst
       have hst2:(S.toList == T.toList)=false:=by rw [beq_eq_false_iff_ne];exact hst
       have hst4:(S.toList != T.toList)=true:=by rw [bne_iff_ne];exact hst
       have hst3:¬ S=T:=fun e=>hst (by rw [e])
       rw [hS] at gx3
       rw [hT] at gy3
       clear h3 hst hS hT
       go_wp2_with fail
       go_ret
       rw [HRF.out]
       exact ⟨rfl,HWX.out⟩
     ·have HRF:Hid (R=false):=by unfold Hid;rw [HRE.out];simp [h2]
      have t2:((xd:Int) == (yd:Int))=false:=by rw [beq_eq_false_iff_ne];omega
      have t2':¬ (xd:Int)=(yd:Int):=by omega
      have t2'':((xd:Int) != (yd:Int))=true:=by rw [bne_iff_ne];omega
      clear h2
      go_wp2_with fail
      go_ret
      rw [HRF.out]
      exact ⟨rfl,HWX.out⟩
    ·have HRF:Hid (R=false):=by unfold Hid;rw [HRE.out];simp [h1]
     have t1:((xi:Int) == (yi:Int))=false:=by rw [beq_eq_false_iff_ne];omega
     have t1':¬ (xi:Int)=(yi:Int):=by omega
     have t1'':((xi:Int) != (yi:Int))=true:=by rw [bne_iff_ne];omega
     clear h1
     go_wp2_with fail
     go_ret
     rw [HRF.out]
     exact ⟨rfl,HWX.out⟩
   ·have HRF:Hid (R=false):=by unfold Hid;rw [HRE.out];simp [h0]
    have t0:((xk:Int) == (yk:Int))=false:=by rw [beq_eq_false_iff_ne];omega
    have t0':¬ (xk:Int)=(yk:Int):=by omega
    have t0'':((xk:Int) != (yk:Int))=true:=by rw [bne_iff_ne];omega
    clear h0
    go_wp2_with fail
    go_ret
    rw [HRF.out]
    exact ⟨rfl,HWX.out⟩
  ·have H4:Hid (¬ la.length=lb.length):=h4
   clear h4
   obtain ⟨R,hR⟩:∃ R,Hid (eqC (n+1) (.mk xk xi xd xs la) (.mk yk yi yd ys lb)=R):=⟨_,Lib.hid rfl⟩
   rw [hR.out]
   have hRe:R=((xk == yk) && (xi == yi) && (xd == yd) && (xs == ys) && allEq (eqC n) la lb):=hR.out.symm
   have HRE:=Lib.hid hRe
   obtain ⟨gx,hgx⟩:∃ g,w.heap.size=g:=⟨_,rfl⟩
   have hBx:=Blk.new w #[.int .i64 (xk:Int),.int .i64 xi,.int .u64 (xd:Int),.string ⟨xs.toArray⟩,.slice A1 la.length a1] 48
   rw [hgx] at hBx
   have hn1:Nx w (w.alloc (.cells #[.int .i64 (xk:Int),.int .i64 xi,.int .u64 (xd:Int),.string ⟨xs.toArray⟩,.slice A1 la.length a1] 48)):=nx0 _ _
   have hs1:(w.alloc (.cells #[.int .i64 (xk:Int),.int .i64 xi,.int .u64 (xd:Int),.string ⟨xs.toArray⟩,.slice A1 la.length a1] 48)).heap.size=w.heap.size+1:=by simp
   rw [hgx] at hs1
   obtain ⟨gy,hgy⟩:∃ g,gx+1=g:=⟨_,rfl⟩
   rw [hgy] at hs1
   have HBX:=Lib.hid hBx
   have HN1:=Lib.hid hn1
   clear hR hRe hBx hn1 hx hy hxl hyl hln
   show Calls _ _ #[.agg #[.int .i64 (xk:Int),.int .i64 xi,.int .u64 (xd:Int),.string ⟨xs.toArray⟩,.slice A1 la.length a1],.agg #[.int .i64 (yk:Int),.int .i64 yi,.int .u64 (yd:Int),.string ⟨ys.toArray⟩,.slice A2 lb.length a2]] _ _
   go_enter Tryz.func79,Tryz.ntmps79
   go_upto_region 1 with fail
   generalize hW1:World.alloc w _=W1 at *
   have hBy:=Blk.new W1 #[.int .i64 (yk:Int),.int .i64 yi,.int .u64 (yd:Int),.string ⟨ys.toArray⟩,.slice A2 lb.length a2] 48
   have hn2:Nx W1 (W1.alloc (.cells #[.int .i64 (yk:Int),.int .i64 yi,.int .u64 (yd:Int),.string ⟨ys.toArray⟩,.slice A2 lb.length a2] 48)):=nx0 _ _
   rw [hs1] at hBy
   have hBx:=HBX.out.below hn2
   generalize World.alloc W1 _=W at *
   have HBX:=Lib.hid hBx
   have HBY:=Lib.hid hBy
   have HWX:=Lib.hid (HN1.out.trans hn2)
   clear hW1 hBx hBy hn2 hs1 hgx hgy HN1
   have gx0:W.cell? ⟨gx,0,none⟩=some (.int .i64 (xk:Int)):=HBX.out.cell 0
   have gx1:W.cell? ⟨gx,1,none⟩=some (.int .i64 xi):=HBX.out.cell 1
   have gx2:W.cell? ⟨gx,2,none⟩=some (.int .u64 (xd:Int)):=HBX.out.cell 2
   have gx3:W.cell? ⟨gx,3,none⟩=some (.string ⟨xs.toArray⟩):=HBX.out.cell 3
   have gx4:W.cell? ⟨gx,4,none⟩=some (.slice A1 la.length a1):=HBX.out.cell 4
   have gy0:W.cell? ⟨gy,0,none⟩=some (.int .i64 (yk:Int)):=HBY.out.cell 0
   have gy1:W.cell? ⟨gy,1,none⟩=some (.int .i64 yi):=HBY.out.cell 1
   have gy2:W.cell? ⟨gy,2,none⟩=some (.int .u64 (yd:Int)):=HBY.out.cell 2
   have gy3:W.cell? ⟨gy,3,none⟩=some (.string ⟨ys.toArray⟩):=HBY.out.cell 3
   have gy4:W.cell? ⟨gy,4,none⟩=some (.slice A2 lb.length a2):=HBY.out.cell 4
   by_cases h0:xk=yk
   ·subst h0
    by_cases h1:xi=yi
    ·subst h1
     by_cases h2:xd=yd
     ·subst h2
      by_cases h3:xs=ys
      ·subst h3
       have HRF:Hid (R=false):=by unfold Hid;rw [HRE.out];simp [allEq_len H4.out]
       have t9:((la.length:Int) != (lb.length:Int))=true:=by have:=H4.out;rw [bne_iff_ne];omega
       have t9':¬ (la.length:Int)=(lb.length:Int):=by have:=H4.out;omega
       go_wp2_with fail
       go_ret
       rw [HRF.out]
       exact ⟨rfl,HWX.out⟩
      ·have HRF:Hid (R=false):=by unfold Hid;rw [HRE.out];simp [h3]
       obtain ⟨S,hS⟩:∃ S:ByteArray,(⟨xs.toArray⟩:ByteArray)=S:=⟨_,rfl⟩
       obtain ⟨T,hT⟩:∃ T:ByteArray,(⟨ys.toArray⟩:ByteArray)=T:=⟨_,rfl⟩
       have hst:S.toList≠T.toList:=by rw [← hS,← hT,(Tx.of xs).toL,(Tx.of ys).toL];exact h3
       have hst1:¬ S.toList=T.toList:=hst
       have hst2:(S.toList == T.toList)=false:=by rw [beq_eq_false_iff_ne];exact hst
       have hst4:(S.toList != T.toList)=true:=by rw [bne_iff_ne];exact hst
       have hst3:¬ S=T:=fun e=>hst (by rw [e])
       rw [hS] at gx3
       rw [hT] at gy3
       clear h3 hst hS hT
       go_wp2_with fail
       go_ret
       rw [HRF.out]
       exact ⟨rfl,HWX.out⟩
     ·have HRF:Hid (R=false):=by unfold Hid;rw [HRE.out];simp [h2]
      have t2:((xd:Int) == (yd:Int))=false:=by rw [beq_eq_false_iff_ne];omega
      have t2':¬ (xd:Int)=(yd:Int):=by omega
      have t2'':((xd:Int) != (yd:Int))=true:=by rw [bne_iff_ne];omega
      clear h2
      go_wp2_with fail
      go_ret
      rw [HRF.out]
      exact ⟨rfl,HWX.out⟩
    ·have HRF:Hid (R=false):=by unfold Hid;rw [HRE.out];simp [h1]
     have t1:((xi:Int) == (yi:Int))=false:=by rw [beq_eq_false_iff_ne];omega
     have t1':¬ (xi:Int)=(yi:Int):=by omega
     have t1'':((xi:Int) != (yi:Int))=true:=by rw [bne_iff_ne];omega
     clear h1
     go_wp2_with fail
     go_ret
     rw [HRF.out]
     exact ⟨rfl,HWX.out⟩
   ·have HRF:Hid (R=false):=by unfold Hid;rw [HRE.out];simp [h0]
    have t0:((xk:Int) == (yk:Int))=false:=by rw [beq_eq_false_iff_ne];omega
    have t0':¬ (xk:Int)=(yk:Int):=by omega
    have t0'':((xk:Int) != (yk:Int))=true:=by rw [bne_iff_ne];omega
    clear h0
    go_wp2_with fail
    go_ret
    rw [HRF.out]
    exact ⟨rfl,HWX.out⟩
end Go.Proofs.YtjggghfekakogaaGreatDoor
namespace Go.Proofs.YtjggghfekakogaaGreatDoor
open Go.RowKit
structure Two (W:World) (T:TypeId) (K:Nat) (vz vv:Array Value) (c:Nat→Option Value) (ia ib sa sb:Nat) (q:Nat→Bool) (x:Nat→Value) (w:World):Prop where
 nx:Nx W w
 cs:∀ j v,c j=some v→q j=true→x j=v
 a:q ia=true→∃ g cs,x ia = .pointer (some ⟨g,0,none⟩)∧W.heap.size≤g∧cs.size=K∧Blk w g g cs T∧(q sa=true→cs=vz)
 b:q ib=true→∃ g cs,x ib = .pointer (some ⟨g,0,none⟩)∧W.heap.size≤g∧cs.size=K∧Blk w g g cs T∧(q sb=true→cs=vv)
 ne:q ia=true→q ib=true→∀ g,x ia = .pointer (some ⟨g,0,none⟩)→x ib≠.pointer (some ⟨g,0,none⟩)
section
variable {W:World} {T:TypeId} {K:Nat} {vz vv:Array Value} {c:Nat→Option Value} {ia ib sa sb:Nat} {q:Nat→Bool} {x:Nat→Value} {w:World}
theorem updB_ne {q:Nat→Bool} {i j:Nat} (h:j≠i):updB q i j=q j:=by unfold updB;rw [if_neg h]
theorem Two.cs_upd (h:Two W T K vz vv c ia ib sa sb q x w) (i:Nat) (u:Value) (hi:c i=none∨c i=some u):∀ j v,c j=some v→updB q i j=true→RI.upd x i u j=v:=by
 intro j v hj hq
 by_cases e:j=i
 ·subst e
  rcases hi with hi | hi
  ·rw [hi] at hj;cases hj
  ·rw [hi] at hj;cases hj;exact RI.upd_same _ _ _
 ·rw [updB_ne e] at hq
  rw [RI.upd_ne _ _ _ _ e];exact h.cs j v hj hq
theorem Two.const (h:Two W T K vz vv c ia ib sa sb q x w) {j:Nat} {v:Value} (hj:c j=some v) (h1:ia≠j) (h2:ib≠j) (h3:sa≠j) (h4:sb≠j):Two W T K vz vv c ia ib sa sb (updB q j) (RI.upd x j v) w where
 nx:=h.nx
 cs:=h.cs_upd j v (.inr hj)
 a:=by rw [updB_ne h1,updB_ne h3,RI.upd_ne _ _ _ _ h1];exact h.a
 b:=by rw [updB_ne h2,updB_ne h4,RI.upd_ne _ _ _ _ h2];exact h.b
 ne:=by rw [updB_ne h1,updB_ne h2,RI.upd_ne _ _ _ _ h1,RI.upd_ne _ _ _ _ h2];exact h.ne
theorem Two.newA (h:Two W T K vz vv c ia ib sa sb q x w) (z:Array Value) (hz:z.size=K) (hc:c ia=none) (hq:q sa=false) (h1:ib≠ia) (h2:sa≠ia) (h3:sb≠ia) :
  Two W T K vz vv c ia ib sa sb (updB q ia) (RI.upd x ia (.pointer (some ⟨w.heap.size,0,none⟩))) (w.alloc (.cells z T)) where
 nx:=Nx.trans h.nx (nx0 _ _)
 cs:=h.cs_upd _ _ (.inl hc)
 a:=fun _=>⟨w.heap.size,z,RI.upd_same _ _ _,h.nx.size,hz,Blk.new w z T,fun e=>by rw [updB_ne h2,hq] at e;cases e⟩
 b:=by
  rw [updB_ne h1,updB_ne h3,RI.upd_ne _ _ _ _ h1]
  intro e
  obtain ⟨g,cs,e1,e2,e3,e4,e5⟩:=h.b e
  exact ⟨g,cs,e1,e2,e3,e4.alloc _,e5⟩
 ne:=by
  rw [updB_ne h1,RI.upd_ne _ _ _ _ h1,RI.upd_same]
  intro _ e g eg
  obtain ⟨g',cs,e1,e2,e3,e4,e5⟩:=h.b e
  rw [e1]
  have:=e4.lt
  intro e6
  cases eg;cases e6
  omega
theorem Two.newB (h:Two W T K vz vv c ia ib sa sb q x w) (z:Array Value) (hz:z.size=K) (hc:c ib=none) (hq:q sb=false) (h1:ia≠ib) (h2:sb≠ib) (h3:sa≠ib) :
  Two W T K vz vv c ia ib sa sb (updB q ib) (RI.upd x ib (.pointer (some ⟨w.heap.size,0,none⟩))) (w.alloc (.cells z T)) where
 nx:=Nx.trans h.nx (nx0 _ _)
 cs:=h.cs_upd _ _ (.inl hc)
 b:=fun _=>⟨w.heap.size,z,RI.upd_same _ _ _,h.nx.size,hz,Blk.new w z T,fun e=>by rw [updB_ne h2,hq] at e;cases e⟩
 a:=by
  rw [updB_ne h1,updB_ne h3,RI.upd_ne _ _ _ _ h1]
  intro e
  obtain ⟨g,cs,e1,e2,e3,e4,e5⟩:=h.a e
  exact ⟨g,cs,e1,e2,e3,e4.alloc _,e5⟩
 ne:=by
  rw [updB_ne h1,RI.upd_ne _ _ _ _ h1,RI.upd_same]
  intro e _ g eg
  obtain ⟨g',cs,e1,e2,e3,e4,e5⟩:=h.a e
  rw [e1] at eg
  have:=e4.lt
  intro e6
  cases eg;cases e6
  omega
theorem Two.putA (h:Two W T K vz vv c ia ib sa sb q x w) {g:Nat} {cs:Array Value} {w':World} {u:Value} (hx:x ia = .pointer (some ⟨g,0,none⟩)) (hg:W.heap.size≤g) (ho:Oth g w w') (hb:Blk w' g g vz T) (hz:vz.size=K) (hc:c sa=none) (hq:q ia=true) (h1:ia≠sa) (h2:ib≠sa) (h3:sb≠sa) :
  Two W T K vz vv c ia ib sa sb (updB q sa) (RI.upd x sa u) w' where
 nx:=ho.to h.nx hg
 cs:=h.cs_upd _ _ (.inl hc)
 a:=fun _=>⟨g,vz,by rw [RI.upd_ne _ _ _ _ h1];exact hx,hg,hz,hb,fun _=>rfl⟩
 b:=by
  rw [updB_ne h2,updB_ne h3,RI.upd_ne _ _ _ _ h2]
  intro e
  obtain ⟨g',cs,e1,e2,e3,e4,e5⟩:=h.b e
  refine ⟨g',cs,e1,e2,e3,ho.blk e4 ?_,e5⟩
  rintro rfl
  exact h.ne hq e _ hx e1
 ne:=by rw [updB_ne h1,updB_ne h2,RI.upd_ne _ _ _ _ h1,RI.upd_ne _ _ _ _ h2];exact h.ne
theorem Two.putB (h:Two W T K vz vv c ia ib sa sb q x w) {g:Nat} {cs:Array Value} {w':World} {u:Value} (hx:x ib = .pointer (some ⟨g,0,none⟩)) (hg:W.heap.size≤g) (ho:Oth g w w') (hb:Blk w' g g vv T) (hz:vv.size=K) (hc:c sb=none) (hq:q ib=true) (h1:ib≠sb) (h2:ia≠sb) (h3:sa≠sb) :
  Two W T K vz vv c ia ib sa sb (updB q sb) (RI.upd x sb u) w' where
 nx:=ho.to h.nx hg
 cs:=h.cs_upd _ _ (.inl hc)
 b:=fun _=>⟨g,vv,by rw [RI.upd_ne _ _ _ _ h1];exact hx,hg,hz,hb,fun _=>rfl⟩
 a:=by
  rw [updB_ne h2,updB_ne h3,RI.upd_ne _ _ _ _ h2]
  intro e
  obtain ⟨g',cs,e1,e2,e3,e4,e5⟩:=h.a e
  refine ⟨g',cs,e1,e2,e3,ho.blk e4 ?_,e5⟩
  rintro rfl
  exact h.ne e hq _ e1 hx
 ne:=by rw [updB_ne h1,updB_ne h2,RI.upd_ne _ _ _ _ h1,RI.upd_ne _ _ _ _ h2];exact h.ne
theorem Two.start (W:World) (T:TypeId) (K:Nat) (vz vv:Array Value) (c:Nat→Option Value) (ia ib sa sb:Nat) (x:Nat→Value) (n:Nat):Two W T K vz vv c ia ib sa sb (fun j=>(Array.replicate n false).getD j false) x { W with drawn:=W.drawn+1 }:=by
 have e:(fun j=>(Array.replicate n false).getD j false)=fun _=>false:=by
  funext j
  rw [Array.getD_eq_getD_getElem?]
  cases h:(Array.replicate n false)[j]? with
  | none=>rfl
  | some b =>
   obtain ⟨h1,h2⟩:=Array.getElem?_eq_some_iff.1 h
   simp at h2
   simp [← h2]
 rw [e]
 exact ⟨Nx.drawn _,(fun _ _ _ h=>by cases h),(fun h=>by cases h),(fun h=>by cases h),(fun h=>by cases h)⟩
theorem two_upd {ls:Array Bool} {i:Nat} (hi:i<ls.size) (h:Two W T K vz vv c ia ib sa sb (updB (fun j=>ls.getD j false) i) x w):Two W T K vz vv c ia ib sa sb (fun j=>(ls.setIfInBounds i true).getD j false) x w:=by
 rw [getD_upd hi];exact h
end
end Go.Proofs.YtjggghfekakogaaGreatDoor
