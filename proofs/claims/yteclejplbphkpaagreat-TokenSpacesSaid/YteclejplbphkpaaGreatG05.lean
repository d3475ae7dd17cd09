/- The contract of big: quotients, the walk. The contracts of big over numbers that are read, whatever noughts stand behind; the laws' own first question. A region that draws its order, holds calls that make memory, and ends in a store: the walk of Hyb, the store aside. Plain. The contracts of dec's numbers over one another (what is plain of it). -/
import Derived.Test.YteclejplbphkpaaGreatG03
import Derived.Test.YteclejplbphkpaaGreatG04
import Derived.Test.YteclejplbphkpaaGreatG01
import Derived.Test.YteclejplbphkpaaGreatG02
import Derived.Laws.Rows
set_option linter.unusedVariables false
set_option linter.unusedSimpArgs false
set_option linter.unnecessarySimpa false
namespace Go.Proofs.YteclejplbphkpaaGreat
open Go.RowKit
theorem shiftDown_n (A:Option Addr) (xs:List UInt32) (n c e s:Nat) (w:World) (hn:Hid (xs.length=n)) (hr:Rd uv w A xs) (hc:xs.length≤c) (hl:(xs.length:Int)≤100000) (he:(e:Int)≤100000) (hs:(s:Int)≤31) :
  Calls Tryz.prog 108 #[.slice A n c,.int .i64 e,.int .i64 s] w fun e' w'=>∃ v',e' = .returned v'∧IsNum w' v' (val xs / 4294967296 ^ e / 2 ^ s)∧Below w.heap.size w w':=by
 have:=hn.out;subst this;exact shiftDown_any A xs c e s w hr hc hl he hs
set_option maxRecDepth 100000 in
set_option maxHeartbeats 3200000 in
theorem div_any (A:Option Addr) (xs:List UInt32) (c:Nat) (B:Option Addr) (ys:List UInt32) (d:Nat) (w:World) (hr:Rd uv w A xs) (hc:xs.length≤c) (hl:(xs.length:Int)≤50000) (hs:Rd uv w B ys) (hd:ys.length≤d) (hm2:d≤maxLen) (hl2:(ys.length:Int)≤50000) :
  Calls Tryz.prog 105 #[.slice A xs.length c,.slice B ys.length d] w fun e w'=>∃ q r ok,e = .returned (.tuple #[q,r,.bool ok])∧DivN w' (val xs) (val ys) q r ok∧Below w.heap.size w w':=by
 by_cases hy0:val ys=0
 ·have HY:=Lib.hid hy0
  clear hy0
  go_enter Tryz.func105,Tryz.ntmps105
  go_wp2_with fail
  refine (trim_any B ys d _ hs hd hm2 (by omega)).mono ?_;rintro e w1 ⟨v1,rfl,hn1,rfl⟩
  obtain ⟨A1,c1,ns,rfl,-,-,-,-,HN,-⟩:=hn1.open_ ys.length (val_lt ys)
  have hd:((ns.length:Int) == 0)=true:=by rw [HN.out,HY.out];rfl
  clear hn1
  go_wp2_with fail
  go_ret3
  refine ⟨_,_,_,rfl,?_,Below.refl _ _⟩
  unfold DivN
  rw [if_pos HY.out]
  exact ⟨rfl,rfl,rfl⟩
 ·have HY:=Lib.hid hy0
  clear hy0
  go_enter Tryz.func105,Tryz.ntmps105
  go_wp2_with fail
  refine (trim_any B ys d _ hs hd hm2 (by omega)).mono ?_;rintro e w1 ⟨v1,rfl,hn1,rfl⟩
  obtain ⟨A1,c1,ns,rfl,hr1,hc1,hm1,hl1,HN,HVN⟩:=hn1.open_ ys.length (val_lt ys)
  clear hn1
  have hpos:ns.length≠0:=by
   intro h
   apply HY.out
   rw [← HVN.out,List.eq_nil_of_length_eq_zero h];rfl
  obtain ⟨m,hm⟩:∃ m,ns.length=m+1:=⟨ns.length - 1,by omega⟩
  have hlm:(limbs (val ys)).length=m+1:=by rw [← HN.out];exact hm
  obtain ⟨tp,HTP⟩:∃ tp,Hid (ent ns m=tp):=⟨_,rfl⟩
  have ltp:(tp:Int)≤4294967295:=by rw [← HTP.out];exact ent_le ns m
  have htp0:tp≠0:=by rw [← HTP.out,HN.out];exact limbs_top _ _ hlm
  obtain ⟨bl,HBL⟩:∃ bl,Hid (blen tp=bl):=⟨_,rfl⟩
  have hbl1:bl≤32:=by rw [← HBL.out];exact blen_le tp ltp
  have hbl0:1≤bl:=by rw [← HBL.out];unfold blen;rw [if_neg htp0];omega
  obtain ⟨s,hsb⟩:∃ s,bl+s=32:=⟨32 - bl,by omega⟩
  have hnorm:=div_norm (val ys) m s hlm (by rw [← HN.out,HTP.out,HBL.out];exact hsb)
  have HNORM:=Lib.hid hnorm
  have b0:((ns.length:Int) == 0)=false:=by rw [beq_eq_false_iff_ne];omega
  have i1:((ns.length:Int) - 1)=(m:Int):=by omega
  have i2:(32:Int) - (bl:Int)=(s:Int):=by omega
  have hs31:(s:Int)≤31:=by omega
  have hnm1:ns.length≤m+1:=by omega
  have hnm2:m+1≤ns.length:=by omega
  have hm3:(m:Int)≤50000:=by omega
  have hnl:(ns.length:Int)≤50000:=by omega
  obtain ⟨bx,offx,rfl,hbx,hcx⟩:=rd_cell hr1 (i:=m) (by omega) HTP
  have hmn:m<ns.length:=by omega
  clear hnorm hlm hm hpos hsb htp0
  go_wp2_with fail
  refine (length_any tp _ ltp).mono ?_;rintro e w' ⟨rfl,rfl⟩
  rw [HBL.out]
  go_wp2_with fail
  refine (shiftUp_any _ ns c1 0 s _ hr1 hc1 (by omega) (by omega) hs31).mono ?_;rintro e w2 ⟨v2,rfl,hk2,hb2⟩
  obtain ⟨Dv,dc,ds,rfl,hrd,hdc,hdm,hdl,HDS,HVD⟩:=(hk2.cast (show _=val ys * 2 ^ s from by rw [HVN.out,Nat.pow_zero,Nat.one_mul])).open_ (m+1) HNORM.out.1
  have hds:ds.length=m+1:=by rw [HDS.out];exact HNORM.out.2.2
  have hds1:ds.length≤m+1:=by omega
  have hds2:m+1≤ds.length:=by omega
  have htop:Hid (ent ds m≠0):=by unfold Hid;rw [HDS.out];exact limbs_top _ _ HNORM.out.2.2
  have hD0:Hid (0<val ds):=by
   unfold Hid;rw [HVD.out];exact Nat.mul_pos (Nat.pos_of_ne_zero HY.out) (Nat.pow_pos (by decide))
  clear hk2 hds hdl hcx hr1 hbx i1 i2
  have hrw2:=hr.below hb2
  go_wp2_with (at_make;go_must (refine wpList_mkw _ uT uZ rfl _ _ rfl _ _ ((xs.length:Int)+1) rfl rfl (by omega) (by omega) (by omega) ?_;intro gr offr w3 zs HBLK HZ hz1 hz2 hb3 hgr))
  have hb3':=hb3
  have hrw3:=hrw2.below hb3
  refine (shiftUp_any A xs c 0 s _ hrw3 hc (by omega) (by omega) hs31).mono ?_;rintro e w4 ⟨v4,rfl,hk4,hb4⟩
  obtain ⟨A4,c4,vs,rfl,hr4,hc4,hm4,hl4,HVS,HVV⟩:=(hk4.cast (show _=val xs * 2 ^ s from by rw [Nat.pow_zero,Nat.one_mul])).open_ (xs.length+1) (by
   have h1:=val_lt xs
   have h2:2 ^ s≤2 ^ 31:=Nat.pow_le_pow_right (by decide) (by omega)
   rw [Nat.pow_succ]
   exact Nat.lt_of_lt_of_le (Nat.mul_lt_mul_of_pos_right h1 (Nat.pow_pos (by decide))) (Nat.mul_le_mul_left _ (by omega)))
  clear hk4
  have hgr3:gr<w3.heap.size:=by
   rcases Nat.lt_or_ge gr w3.heap.size with h | h
   ·exact h
   ·have:=HBLK.out.2;rw [Array.getElem?_eq_none h] at this;cases this
  have hblk4:w4.heap[gr]? = some (.cells (zs.map uv).toArray 85 (0,0)):=(hb4.block gr hgr3).trans HBLK.out.2
  have HB4:=Lib.hid hblk4
  have hb24:Below w2.heap.size w2 w4:=nx hb3 hb4
  have hvz:vs.length≤zs.length:=by omega
  clear hblk4
  obtain ⟨M,hM,hM1,hM2,hMx⟩:∃ M:Nat,(if (xs.length:Int) - ns.length+1<0 then (0:Int) else (xs.length:Int) - ns.length+1)=(M:Int)∧(xs.length≤M+m)∧(M=0∨M+m≤xs.length)∧max ((xs.length:Int) - ns.length+1) 0=(M:Int):=by
   by_cases h:(xs.length:Int) - ns.length+1<0
   ·exact ⟨0,by rw [if_pos h];rfl,by omega,by omega,by omega⟩
   ·exact ⟨xs.length - m,by rw [if_neg h];omega,by omega,by omega,by omega⟩
  have hMl:(M:Int)≤50000:=by omega
  have HCN:Hid ((vs.map uv).length=Nat.min vs.length zs.length):=by unfold Hid;rw [List.length_map];exact (Nat.min_eq_left hvz).symm
  have HCP:Hid (0<(vs.map uv).length→some (⟨gr,offr,none⟩:Addr)=some ⟨gr,0,none⟩∧∃ ad,A4=some ad∧∀ j v,(vs.map uv)[j]? = some v→w4.cell? (ad.add j)=some v):=by
   intro hp
   rw [List.length_map] at hp
   obtain ⟨b',off',e1,e2,e3⟩:=hr4 hp
   refine ⟨by rw [HBLK.out.1],_,e1,fun j v hv=>?_⟩
   have hj:j<vs.length:=by
    rcases Nat.lt_or_ge j vs.length with h | h
    ·exact h
    ·rw [List.getElem?_eq_none (by simpa using h)] at hv;cases hv
   have hv':v=uv vs[j]:=by simpa [hj] using hv.symm
   rw [Addr.add_lit,hv'];exact e3 j hj
  have HCF:Hid (0+(vs.map uv).length≤(zs.map uv).length):=by unfold Hid;simpa using hvz
  have HC1:Hid (∀ v ∈ vs.map uv,v.oneCell'=true):=by
   intro v hv;obtain ⟨x,_,rfl⟩:=List.mem_map.1 hv;rfl
  go_wp2_with (first
   | ((with_reducible show wpList _ _ _ _ _ _);refine wpList_copy_splice (o:=⟨some 35,_,_,_,_,_⟩) rfl (.tmp 31) (.tmp 34) 83 83 rfl 85 Tryz.underlying83 (by kernel_rfl) _ _ _ _ _ _ rfl rfl gr 0 (zs.map uv) 85 HB4.out (vs.map uv) HCN.out HCP.out HCF.out HC1.out w2.heap.size w2 hb24 hgr ?_;intro w5 HG5 hb5)
   | (at_make;go_must (refine wpList_mkw _ uT uZ rfl _ _ rfl _ _ (M:Int) rfl rfl (by omega) (by omega) (by omega) ?_;intro gq offq w6 zq HBQ HZQ hq1 hq2 hb6 hgq)))
  clear hM hMx
  obtain ⟨rs0,HRS⟩:∃ rs0,Hid (vs++zs.drop vs.length=rs0):=⟨_,rfl⟩
  have HRL:Hid (rs0.length=zs.length):=by
   unfold Hid;rw [← HRS.out,List.length_append,List.length_drop];omega
  have HRV:Hid (val rs0=val xs * 2 ^ s):=by
   unfold Hid
   have h0:val (zs.drop vs.length)=0:=by rw [HZ.out,List.drop_replicate,val_zeros]
   rw [← HRS.out,val_append,h0,HVV.out];simp
  have hblk5:w5.heap[gr]? = some (.cells (rs0.map uv).toArray 85 (0,0)):=by
   have h:=HG5.out
   unfold splice at h
   rw [← HRS.out,List.map_append,List.map_drop]
   simpa using h
  have hrowR5:Row w5 w2.heap.size gr offr zs.length rs0:=by
   have h:=Row.of_block hblk5 hgr (by rw [HRL.out];unfold maxLen;omega)
   rw [HRL.out] at h
   rw [HBLK.out.1];exact h
  have hne:gq≠gr:=by have:=hrowR5.hg;omega
  have HR6:=Lib.hid (hrowR5.below hb6)
  have hrow6:Row w6 w2.heap.size gq offq zq.length zq:=by
   have h:=Row.of_block HBQ.out.2 (B:=w2.heap.size) (Nat.le_trans hb5.size hgq) (by unfold maxLen;omega)
   rw [HBQ.out.1];exact h
  have HQ6:=Lib.hid hrow6
  have hb26:Below w2.heap.size w2 w6:=nx hb5 hb6
  have hzl:zs.length≤xs.length+1:=by omega
  have hzl2:xs.length+1≤zs.length:=by omega
  have hqM1:zq.length≤M:=by omega
  have hqM2:M≤zq.length:=by omega
  clear hblk5 hrowR5 hrow6 hq1 hq2 hz1 hz2 hgr3 hb24 hb3' hrw3 hr4 hc4 hm4 hl4 hvz hgq
  go_wp2_with fail
  go_loopw [10] (fun v wr=>∃ (k:Nat) (rs qs:List UInt32),v = .int .i64 ((k:Int) - 1)∧k≤zq.length∧Hid (rs.length=zs.length)∧Hid (qs.length=zq.length)∧Hid (val rs+val ds * val qs=val xs * 2 ^ s)∧Hid (val (rs.drop k)<val ds)∧Hid (∀ j,j<k→ent qs j=0) ∧
   Row wr w2.heap.size gr offr zs.length rs∧Row wr w2.heap.size gq offq zq.length qs∧Below w2.heap.size w2 wr) (fun v _=>(intOf v+1).toNat)
  case atStart =>
   refine ⟨zq.length,rs0,zq,rfl,Nat.le_refl _,HRL,rfl,?_,?_,?_,HR6.out,HQ6.out,hb26⟩
   ·unfold Hid;rw [HZQ.out,val_zeros,HRV.out];simp
   ·unfold Hid;rw [HVD.out]
    exact div_start rs0 (val xs) (val ys) s xs.length zq.length m HRV.out (val_lt xs) HNORM.out.2.1 (by omega)
   ·intro j _;rw [HZQ.out];exact ent_zeros _ _
  case round =>
   obtain ⟨k,rs,qs,rfl,hk,HRSL,HQL,HV,HLT,HE,hrowR,hrowQ,hbel⟩:=hrel
   rcases k with _ | k
   ·have hfin:Hid (val qs=val xs / val ys∧val rs / 4294967296 ^ 0 / 2 ^ s=val xs % val ys):=by
     have h:=HV.out
     have h2:=HLT.out
     rw [List.drop_zero] at h2
     have h3:val qs=val xs * 2 ^ s / val ds:=by
      rw [← h,Nat.add_mul_div_left _ _ hD0.out,Nat.div_eq_of_lt h2,Nat.zero_add]
     have h4:val rs=val xs * 2 ^ s % val ds:=by
      rw [← h,Nat.add_mul_mod_self_left,Nat.mod_eq_of_lt h2]
     have hp:0<2 ^ s:=Nat.pow_pos (by decide)
     unfold Hid
     rw [h3,h4,HVD.out,Nat.mul_div_mul_right _ _ hp,Nat.mul_mod_mul_right,Nat.pow_zero,Nat.div_one,Nat.mul_div_cancel _ hp]
     exact ⟨rfl,rfl⟩
    have hbw:Below w.heap.size w wr:=nx hb2 hbel
    go_wp2_with fail
    refine (trim_n _ qs _ zq.length _ HQL hrowQ.rd hrowQ.hn hrowQ.hm (by have:=HQL.out;omega)).mono ?_;rintro e w7 ⟨v7,rfl,hn7,rfl⟩
    rw [hfin.out.1] at hn7
    go_wp2_with fail
    refine (shiftDown_n _ rs _ zs.length 0 s _ HRSL hrowR.rd hrowR.hn (by have:=HRSL.out;omega) (by omega) hs31).mono ?_;rintro e w8 ⟨v8,rfl,hn8,hb8⟩
    rw [hfin.out.2] at hn8
    have hn78:=hn7.below hb8
    go_wp2_with fail
    go_ret3
    refine ⟨_,_,_,rfl,?_,nx hbw hb8⟩
    unfold DivN
    rw [if_neg HY.out]
    exact ⟨hn78,hn8,rfl⟩
   ·have hwin:=div_round rs (val ds) k m (ns.length+1) (by omega) (by rw [HVD.out];exact HNORM.out.1) HLT.out
    obtain ⟨us,HUS⟩:∃ us,Hid ((rs.take (k+(ns.length+1))).drop k=us):=⟨_,rfl⟩
    rw [HUS.out] at hwin
    have HWIN:=Lib.hid hwin
    have hkl:k+(ns.length+1)≤zs.length:=by omega
    have hcut:=hrowR.cut (l:=k) (m:=ns.length+1) (by rw [HRSL.out];exact hkl) (by omega)
    rw [HUS.out] at hcut
    have HUL:Hid (us.length=ns.length+1):=by
     unfold Hid;rw [← HUS.out,List.length_drop,List.length_take,HRSL.out];omega
    have hrx:=hrd.rdx hbel hgr
    have hkq:k<zq.length:=by omega
    have hkqs:k<qs.length:=by have:=HQL.out;omega
    clear hwin
    go_wp2_with ((with_reducible show wpList _ _ _ _ _ _);refine wpList_slR (o:=⟨some 60,_,_,_,_,_⟩) _ uT rfl (.tmp 53) (.tmp 54) (.tmp 59) rfl gr offr zs.length zs.length rfl (Nat.le_refl _) k (ns.length+1) _ _ _ _ rfl rfl (by omega) (by omega) (by omega) hkl ?_)
    refine (digit_any w2.heap.size gr (offr+k) (ns.length+1) (zs.length - k) m us Dv ds dc _ hcut HUL (by omega) (by omega) hrx hdc (by omega) hds1 hds2 htop HWIN.out.1).mono ?_;rintro e w7 ⟨us',rfl,HUL',hrowU,honly,HUV⟩
    obtain ⟨dg,HDG⟩:∃ dg,Hid (val us / val ds=dg):=⟨_,rfl⟩
    have hdg:(dg:Int)≤4294967295:=by
     have h:=HWIN.out.1
     have:val us / val ds<4294967296:=Nat.div_lt_of_lt_mul (by rw [Nat.mul_comm];exact h)
     rw [HDG.out] at this;omega
    rw [HDG.out]
    have hrowR7:=hrowR.splice (l:=k) (m:=ns.length+1) (by rw [HRSL.out];exact hkl) honly hrowU HUL'.out
    have hrowQ7:=hrowQ.only honly hne
    have hb7:=honly.below hgr hbel.size
    have hbel7:=hbel.trans hb7
    have hq0:Hid (ent qs k=0):=HE.out k (Nat.lt_succ_self k)
    have hcq:=hrowQ7.cell hkqs hq0
    have hfq:=hrowQ7.free hkqs
    have hst:=hrowQ7.put hkqs dg
    have HST:=Lib.hid hst
    have HRR:=Lib.hid ((hrowR7.only (g':=gq) (lo:=offq+k) (hi:=offq+k+1) ((Only.refl gq (offq+k) (offq+k+1) w7).setCell (i:=offq+k) (Nat.le_refl _) (by omega) (uv (UInt32.ofNat dg))) (Ne.symm hne)))
    have HBS:=Lib.hid (hbel7.setCell (p:=⟨gq,offq+k,none⟩) hrowQ7.hB (uv (UInt32.ofNat dg)))
    clear hrowR hrowQ hcut hrowU hrowR7 hrowQ7 hst hrx hb7 hbel7 honly
    go_wp2_with fail
    go_roundw
    case rel =>
     rw [uv_ofNat dg (dg:Int) (by omega)]
     have hnx:=div_next rs us' (val ds) k (ns.length+1) (val qs) (val xs * 2 ^ s) (val us) (by have:=HRSL.out;omega) (by rw [HUS.out]) HWIN.out.2 HUL'.out HUV.out hD0.out HV.out
     rw [HDG.out] at hnx
     refine ⟨k,rs.take k++(us'++rs.drop (k+(ns.length+1))),qs.set k (UInt32.ofNat dg),by go_num,by omega,?_,?_,?_,hnx.2,?_,HRR.out,HST.out,HBS.out⟩
     ·have h1:=HRSL.out
      have h2:=HUL'.out
      unfold Hid
      simp only [List.length_append,List.length_take,List.length_drop];omega
     ·unfold Hid;rw [List.length_set];exact HQL.out
     ·unfold Hid
      rw [set_zero qs k dg hkqs hq0.out,Nat.mod_eq_of_lt (by omega)]
      exact hnx.1
     ·intro j hj
      rw [ent_set_ne _ _ _ _ (by omega)]
      exact HE.out j (by omega)
    case measure=>simp [intOf]
end Go.Proofs.YteclejplbphkpaaGreat
namespace Go.Proofs.YteclejplbphkpaaGreat
open Go.RowKit
theorem add_n (v u:Value) (a b K:Nat) (w:World) (h:Num w v a K) (g:Num w u b K) (hK:(K:Int)≤5000) :
  Calls Tryz.prog 91 #[v,u] w fun e w'=>∃ v',e = .returned v'∧IsNum w' v' (a+b)∧Below w.heap.size w w':=by
 obtain ⟨A,c,xs,rfl,h2,h3,h4,h5,rfl⟩:=h
 obtain ⟨B,d,ys,rfl,g2,g3,g4,g5,rfl⟩:=g
 exact add_any A xs c B ys d w h2 h3 (by omega) g2 g3 (by omega)
theorem mul_n (v u:Value) (a b K:Nat) (w:World) (h:Num w v a K) (g:Num w u b K) (hK:(K:Int)≤5000) :
  Calls Tryz.prog 92 #[v,u] w fun e w'=>∃ v',e = .returned v'∧IsNum w' v' (a * b)∧Below w.heap.size w w':=by
 obtain ⟨A,c,xs,rfl,h2,h3,h4,h5,rfl⟩:=h
 obtain ⟨B,d,ys,rfl,g2,g3,g4,g5,rfl⟩:=g
 exact mul_any A xs c B ys d w h2 h3 (by omega) g2 g3 (by omega)
theorem div_n (v u:Value) (a b K:Nat) (w:World) (h:Num w v a K) (g:Num w u b K) (hK:(K:Int)≤5000) :
  Calls Tryz.prog 105 #[v,u] w fun e w'=>∃ q r ok,e = .returned (.tuple #[q,r,.bool ok])∧DivN w' a b q r ok∧Below w.heap.size w w':=by
 obtain ⟨A,c,xs,rfl,h2,h3,h4,h5,rfl⟩:=h
 obtain ⟨B,d,ys,rfl,g2,g3,g4,g5,rfl⟩:=g
 exact div_any A xs c B ys d w h2 h3 (by omega) g2 g3 g4 (by omega)
theorem cmp_n (v u:Value) (a b K:Nat) (w:World) (h:Num w v a K) (g:Num w u b K) (hK:(K:Int)≤5000) :
  Calls Tryz.prog 107 #[v,u] w fun e w'=>e = .returned (.int .i64 (cmpI a b))∧Below w.heap.size w w':=by
 obtain ⟨A,c,xs,rfl,h2,h3,h4,h5,rfl⟩:=h
 obtain ⟨B,d,ys,rfl,g2,g3,g4,g5,rfl⟩:=g
 exact cmp_any A xs c B ys d w h2 h3 h4 (by omega) g2 g3 g4 (by omega)
theorem shl_n (v:Value) (a K:Nat) (n:Int) (w:World) (h:Num w v a K) (hK:(K:Int)≤5000) (hn1 : -100000≤n) (hn2:n≤100000) :
  Calls Tryz.prog 104 #[v,.int .i64 n] w fun e w'=>∃ v',e = .returned v'∧IsNum w' v' (shV a n)∧Below w.heap.size w w':=by
 obtain ⟨A,c,xs,rfl,h2,h3,h4,h5,rfl⟩:=h
 exact shl_any A xs c n w h2 h3 h4 (by omega) hn1 hn2
theorem bits_n (v:Value) (a K:Nat) (w:World) (h:Num w v a K) (hK:(K:Int)≤5000) :
  Calls Tryz.prog 94 #[v] w fun e w'=>e = .returned (.int .i64 (blen a:Nat))∧w=w':=by
 obtain ⟨A,c,xs,rfl,h2,h3,h4,h5,rfl⟩:=h
 exact bits_any A xs c w h2 h3 h4 (by omega)
theorem low_n (v:Value) (a K:Nat) (w:World) (h:Num w v a K) (hK:(K:Int)≤5000) :
  Calls Tryz.prog 106 #[v] w fun e w'=>e = .returned (.int .u64 (a % 18446744073709551616:Nat))∧w=w':=by
 obtain ⟨A,c,xs,rfl,h2,h3,h4,h5,rfl⟩:=h
 exact low_any A xs c w h2 h3 (by omega)
end Go.Proofs.YteclejplbphkpaaGreat
namespace Go.Proofs.YteclejplbphkpaaGreat
open Go.RowKit
def NoU (cs:Array Value):Prop:=∀ (i:Nat) (x:UInt32),cs[i]?≠some (uv x)
theorem NoU.put {cs:Array Value} (h:NoU cs) (i:Nat) (v:Value) (hv:∀ x,v≠uv x):NoU (cs.setIfInBounds i v):=by
 intro j x hj
 rw [Array.getElem?_setIfInBounds] at hj
 split at hj
 ·split at hj
  ·exact hv x (Option.some.inj hj)
  ·cases hj
 ·exact h j x hj
theorem IsNum.put {w:World} {v:Value} {n:Nat} (hn:IsNum w v n) {B e:Nat} {cs:Array Value} {T:TypeId} (hb:Blk w B e cs T) (hc:NoU cs) (i:Nat) (u:Value):IsNum (w.setCell ⟨e,i,none⟩ u) v n:=by
 obtain ⟨A,c,ys,h1,h2,h3,h4,h5⟩:=hn
 refine ⟨A,c,ys,h1,fun hy=>?_,h3,h4,h5⟩
 obtain ⟨b,off,e1,e2,e3⟩:=h2 hy
 have hne:b≠e:=by
  rintro rfl
  have:=e3 0 hy
  rw [hb.cell] at this
  exact hc _ _ this
 refine ⟨b,off,e1,by simpa [World.setCell] using e2,fun j hj=>?_⟩
 rw [← e3 j hj]
 unfold World.cell?
 rw [Below.heap_setCell _ _ _ _ hne]
theorem two_slices (A:Option Addr) (l c:Nat) (A':Option Addr) (l' c':Nat):NoU #[.slice A l c,.slice A' l' c']:=by
 intro i x h
 rcases i with _ | _ | i
 ·cases h
 ·cases h
 ·simp at h
namespace E
section
variable {st:Nat} {P:Program} {ops:Array Oper} {md:Region.Mode}
def GA (st:Nat) (P:Program) (md:Region.Mode) (ops:Array Oper) (Q:Act→World→Prop):Nat→Array Bool→Act→World→Prop
 | 0,listed,a,w=>Region.ready md ops listed=[]∧∀ w1,Nx w w1→Q a w1
 | f+1,listed,a,w=>∀ w1,Nx w w1→(Region.ready md ops listed=[]→Q a w1) ∧
   ∀ i ∈ Region.ready md ops listed,gOp P ops i (fun a' w'=>(i=st∨Nx w1 w')∧GA st P md ops Q f (listed.setIfInBounds i true) a' w') a w1
theorem GA.grow {Q:Act→World→Prop} {f:Nat} {listed:Array Bool} {a:Act} {w w1:World} (h:GA st P md ops Q f listed a w) (hn:Nx w w1):GA st P md ops Q f listed a w1:=by
 cases f with
 | zero=>exact ⟨h.1,fun w2 h2=>h.2 w2 (hn.trans h2)⟩
 | succ f=>exact fun w2 h2=>h w2 (hn.trans h2)
theorem wpAny_of_GA {Q:Act→World→Prop} {Q':Exit→Act→World→Prop} (hQ:∀ a w,Q a w→Q' .normal a w):∀ (f:Nat) (listed:Array Bool) (a:Act) (w:World),
  GA st P md ops Q f listed a w→wpAny P md ops Q' f listed a w
 | 0,_,_,w,h=>⟨h.1,hQ _ _ (h.2 w (Nx.refl w))⟩
 | f+1,listed,a,w,h=>by
  refine ⟨fun h0=>hQ _ _ ((h w (Nx.refl w)).1 h0),fun i hi=>?_⟩
  have:=(h w (Nx.refl w)).2 i hi
  unfold gOp at this
  unfold wpOp
  split
  ·rename_i ho;simp only [ho] at this;exact wpAny_of_GA hQ f _ _ _ this.2
  ·rename_i o ho
   simp only [ho] at this
   split
   ·rename_i hw;simp only [hw,if_true] at this;exact .inl (wp_mono_both (fun a' w' h'=>wpAny_of_GA hQ f _ _ _ h'.2) this trivial)
   ·rename_i hw;simp only [hw] at this;exact wpAny_of_GA hQ f _ _ _ this.2
theorem GA_first {Q:Act→World→Prop} {i:Nat} {oi:Oper} {v:Value} (hi:ops[i]? = some oi) (hsel:∀ (j:Nat) (o:Oper) cs b,ops[j]? = some o→o.op≠.select cs b)
  (hst:∀ o,ops[st]? = some o→∃ e ∈ o.after,Region.binds md e=true∧e.on=i) :
  ∀ (f:Nat) (listed:Array Bool) (a:Act) (w:World),
   (∀ j oj,ops[j]? = some oj→j≠i→listed.getD j true=false→(∀ e ∈ oj.after,Region.binds md e=true→e.on≠i)→oi.apart ops oj=true) →
   i ∈ Region.ready md ops listed→YG P ops w oi v a →
   GA st P md ops Q f (listed.setIfInBounds i true) (a.put oi.dst v) w→GA st P md ops Q (f+1) listed a w:=by
 intro f
 induction f with
 | zero =>
  intro listed a w _ hr hy H w1 hn
  refine ⟨fun h=>(by rw [h] at hr;cases hr),fun j hj=>?_⟩
  by_cases hji:j=i
  ·subst hji;exact (hy.grow hn).gOp hi ⟨.inr (Nx.refl _),H.grow hn⟩
  ·have:=ready_mono hj hji
   rw [H.1] at this
   cases this
 | succ f ih =>
  intro listed a w hfree hr hy H w1 hn
  refine ⟨fun h=>(by rw [h] at hr;cases hr),fun j hj=>?_⟩
  by_cases hji:j=i
  ·subst hji;exact (hy.grow hn).gOp hi ⟨.inr (Nx.refl _),H.grow hn⟩
  ·have h1:=(H w1 hn).2 j (ready_mono hj hji)
   obtain ⟨hjun,oj,hoj,hall⟩:=mem_ready.1 hj
   have hnot:∀ e ∈ oj.after,Region.binds md e=true→e.on≠i:=fun e he hb heq=>by
    have h1:=hall e he hb
    have h0:=(mem_ready.1 hr).1
    rw [heq] at h1
    rcases Nat.lt_or_ge i listed.size with h' | h'
    ·simp [h'] at h0 h1;rw [h0] at h1;cases h1
    ·simp [Array.getElem?_eq_none h'] at h1
   have h2:=gOp_put hoj (hfree j oj hoj hji hjun hnot) (fun cs b=>hsel i oi cs b hi) (fun cs b=>hsel j oj cs b hoj) (hy.grow hn) h1
   have hfree':∀ k ok,ops[k]? = some ok→k≠i→(listed.setIfInBounds j true).getD k true=false →
     (∀ e ∈ ok.after,Region.binds md e=true→e.on≠i)→oi.apart ops ok=true:=fun k ok hk hki hun hno=>by
    refine hfree k ok hk hki ?_ hno
    by_cases hjk:j=k
    ·subst hjk;exact hjun
    ·rw [getD_set_ne true hjk] at hun;exact hun
   have hjst:j≠st:=by
    rintro rfl
    obtain ⟨e,he,hb,heq⟩:=hst oj hoj
    exact hnot e he hb heq
   refine gOp_mono (fun a' w' h3=>have hN:=h3.2.1.resolve_left hjst;⟨.inr hN,ih (listed.setIfInBounds j true) a' w' hfree' (ready_mono hr (Ne.symm hji)) (h3.1.grow hN) ?_⟩) h2
   rw [Array.setIfInBounds_comm _ _ hji]
   exact h3.2.2
def wpHyb (st:Nat) (P:Program) (ops:Array Oper) (Q:Act→World→Prop):List (Nat×Bool)→Act→World→Prop
 | [],a,w=>∀ w1,Nx w w1→Q a w1
 | (k,true) :: rest,a,w=>match ops[k]? with
  | none=>False
  | some o=>if Region.wanted o (yielded ops a.tmps) then calm P o a w (fun a'=>wpHyb st P ops Q rest a' w) else wpHyb st P ops Q rest (a.put o.dst undef) w
 | (k,false) :: rest,a,w=>∀ w1,Nx w w1→match ops[k]? with
  | none=>False
  | some o=>if Region.wanted o (yielded ops a.tmps) then o.wp P a w1 (fun a' w'=>(k=st∨Nx w1 w')∧wpHyb st P ops Q rest a' w') (fun _ _ _=>False) else wpHyb st P ops Q rest (a.put o.dst undef) w1
def edge (st:Nat) (md:Region.Mode) (ops:Array Oper) (k:Nat):Bool:=match ops[st]? with
 | some o=>o.after.any (fun e=>Region.binds md e && e.on == k)
 | none=>true
theorem edge_spec {st k:Nat} (h:edge st md ops k=true):∀ o,ops[st]? = some o→∃ e ∈ o.after,Region.binds md e=true∧e.on=k:=by
 intro o ho
 unfold edge at h
 rw [ho] at h
 obtain ⟨e,he,hb⟩:=Array.any_eq_true'.1 h
 simp only [Bool.and_eq_true,beq_iff_eq] at hb
 exact ⟨e,he,hb.1,hb.2⟩
def hybFrom (st:Nat) (md:Region.Mode) (ops:Array Oper):List (Nat×Bool)→Array Bool→Bool
 | [],listed=>(Region.ready md ops listed).isEmpty
 | (k,true) :: rest,listed=>(Region.ready md ops listed).contains k && Region.free md ops listed k && edge st md ops k && hybFrom st md ops rest (listed.setIfInBounds k true)
 | (k,false) :: rest,listed=>Region.ready md ops listed == [k] && hybFrom st md ops rest (listed.setIfInBounds k true)
def hybB (st:Nat) (md:Region.Mode) (ops:Array Oper) (s:List (Nat×Bool)):Bool:=Region.noSelect ops && s.length == ops.size && hybFrom st md ops s (Array.replicate ops.size false)
theorem GA_hyb {Q:Act→World→Prop} (hs:Region.noSelect ops=true):∀ (s:List (Nat×Bool)) (listed:Array Bool) (a:Act) (w:World),
  hybFrom st md ops s listed=true→wpHyb st P ops Q s a w→GA st P md ops Q s.length listed a w
 | [],listed,a,w,hB,h=>⟨by simpa [hybFrom] using hB,h⟩
 | (k,true) :: rest,listed,a,w,hB,h=>by
  simp only [hybFrom,Bool.and_eq_true] at hB
  obtain ⟨⟨⟨hr,hf⟩,hed⟩,hB'⟩:=hB
  have hr':k ∈ Region.ready md ops listed:=by simpa using hr
  obtain ⟨_,o,ho,_⟩:=mem_ready.1 hr'
  simp only [wpHyb,ho] at h
  by_cases hw:Region.wanted o (yielded ops a.tmps)=true
  ·simp only [hw,if_true] at h
   obtain ⟨v,h1,h2⟩:=h
   exact GA_first ho (Region.noSelect_spec hs) (edge_spec hed) rest.length listed a w (Region.free_spec ho hf) hr' (.inl ⟨hw,h1⟩) (GA_hyb hs rest _ _ _ hB' h2)
  ·simp only [hw] at h
   exact GA_first ho (Region.noSelect_spec hs) (edge_spec hed) rest.length listed a w (Region.free_spec ho hf) hr' (.inr ⟨by simpa using hw,rfl⟩) (GA_hyb hs rest _ _ _ hB' h)
 | (k,false) :: rest,listed,a,w,hB,h=>by
  simp only [hybFrom,Bool.and_eq_true,beq_iff_eq] at hB
  obtain ⟨hr,hB'⟩:=hB
  intro w1 hn
  refine ⟨fun h0=>(by rw [hr] at h0;cases h0),fun i hi=>?_⟩
  rw [hr] at hi
  obtain rfl:i=k:=by simpa using hi
  have h:=h w1 hn
  unfold gOp
  cases ho:ops[i]? with
  | none=>rw [ho] at h;exact h.elim
  | some o =>
   rw [ho] at h
   simp only at h ⊢
   by_cases hw:Region.wanted o (yielded ops a.tmps)=true
   ·simp only [hw,if_true] at h ⊢
    exact wp_mono_both (fun a' w' h'=>⟨h'.1,GA_hyb hs rest _ _ _ hB' h'.2⟩) h trivial
   ·simp only [hw] at h ⊢
    exact ⟨.inr (Nx.refl _),GA_hyb hs rest _ _ _ hB' h⟩
structure Hyb (st:Nat) (P:Program) (ops:Array Oper) (Q:Act→World→Prop) (s:List (Nat×Bool)) (a:Act) (w:World):Prop where
 out:wpHyb st P ops Q s a w
theorem wp_region_hyb {id:Nat} {Q:Exit→Act→World→Prop} {a:Act} {w:World} {l:List Oper} (s:List (Nat×Bool)) (hm:P.follows .mixedOrders=true) (hB:hybB st .any l.toArray s=true)
  (h:Hyb st P l.toArray (fun a w=>Q .normal a w) s a w):(Code.region id l.toArray true).wp P Q a w:=by
 simp only [hybB,Bool.and_eq_true,beq_iff_eq] at hB
 obtain ⟨⟨h1,h2⟩,h3⟩:=hB
 refine wp_region_any hm (wpAny_of_GA (st:=st) (Q:=fun a w=>Q .normal a w) (fun _ _ h=>h) _ _ _ _ ?_)
 have:=GA_hyb (st:=st) (md:=.any) h1 s _ _ _ h3 h.out
 rw [h2] at this
 exact this.grow (Nx.drawn w)
theorem hyb_calm {Q:Act→World→Prop} {k:Nat} {o:Oper} {rest:List (Nat×Bool)} {a:Act} {w:World} (ho:ops[k]? = some o)
  (h:∀ K:Act→Prop,(∀ a,Hyb st P ops Q rest a w→K a)→if Region.wanted o (yielded ops a.tmps) then calm P o a w K else K (a.put o.dst undef)):Hyb st P ops Q ((k,true) :: rest) a w:=by
 refine ⟨?_⟩
 simp only [wpHyb,ho]
 exact h _ (fun _ h=>h.out)
theorem hyb_alone {Q:Act→World→Prop} {k:Nat} {o:Oper} {rest:List (Nat×Bool)} {a:Act} {w:World} (ho:ops[k]? = some o)
  (h:∀ w1,Nx w w1→∀ K:Act→World→Prop,(∀ a' w',(k=st∨Nx w1 w')→Hyb st P ops Q rest a' w'→K a' w')→if Region.wanted o (yielded ops a.tmps) then o.wp P a w1 K (fun _ _ _=>False) else K (a.put o.dst undef) w1):Hyb st P ops Q ((k,false) :: rest) a w:=by
 refine ⟨?_⟩
 intro w1 hn
 simp only [ho]
 have:=h w1 hn (fun a' w'=>(k=st∨Nx w1 w')∧wpHyb st P ops Q rest a' w') (fun a' w' h1 h2=>⟨h1,h2.out⟩)
 split
 ·rename_i hw;simpa [hw] using this
 ·rename_i hw;simp [hw] at this;exact this.2
theorem hyb_nil {Q:Act→World→Prop} {a:Act} {w:World} (h:∀ w1,Nx w w1→Q a w1):Hyb st P ops Q [] a w:=⟨h⟩
end
end E
end Go.Proofs.YteclejplbphkpaaGreat
namespace Go.Proofs.YteclejplbphkpaaGreat
open Go.RowKit
def KB:Nat:=4800
theorem KB_le:(KB:Int)≤5000:=by decide
theorem pow_KB (j:Nat) (hj:j≤150000):2 ^ j≤4294967296 ^ KB:=by
 have hk:KB=4800:=rfl
 generalize KB=K at *
 rw [show (4294967296:Nat)=2 ^ 32 from rfl,← Nat.pow_mul]
 exact Nat.pow_le_pow_right (by decide) (by omega)
theorem IsNum.few {w:World} {v:Value} {n j:Nat} (h:IsNum w v n) (hn:n<2 ^ j) (hj:j≤150000):Num w v n KB :=
 h.num (Nat.lt_of_lt_of_le hn (pow_KB j hj))
theorem IsNum.sl {w:World} {v:Value} {n:Nat} (h:IsNum w v n):∃ A l c,v = .slice A l c:=by
 obtain ⟨A,c,ys,h1,_⟩:=h
 exact ⟨A,_,c,h1⟩
def Ra (w:World) (r:Value) (x y j:Nat):Prop:=∃ v u,r = .agg #[v,u]∧IsNum w v x∧IsNum w u y∧x<2 ^ j∧y<2 ^ j
theorem Ra.below {w w':World} {r:Value} {x y j:Nat} (h:Ra w r x y j) (hb:Below w.heap.size w w'):Ra w' r x y j:=by
 obtain ⟨v,u,h1,h2,h3,h4,h5⟩:=h
 exact ⟨v,u,h1,h2.below hb,h3.below hb,h4,h5⟩
theorem wrap64 (x:Int) (h1 : -9223372036854775808≤x) (h2:x≤9223372036854775807):IntKind.i64.wrap x=x:=by
 rw [IntKind.wrap_i64];omega
theorem ten_two (k:Nat):10 ^ k≤2 ^ (4 * k):=by
 rw [Nat.pow_mul];exact Nat.pow_le_pow_left (by decide) k
theorem ten_two' (x j k:Nat) (h:x<2 ^ j):x * 10 ^ k<2 ^ (j+4 * k):=by
 rw [Nat.pow_add]
 exact Nat.lt_of_lt_of_le (Nat.mul_lt_mul_of_pos_right h (Nat.pow_pos (by decide))) (Nat.mul_le_mul_left _ (ten_two k))
theorem two_two' (x j k:Nat) (h:x<2 ^ j):x * 2 ^ k<2 ^ (j+k):=by
 rw [Nat.pow_add]
 exact Nat.mul_lt_mul_of_pos_right h (Nat.pow_pos (by decide))
theorem more_two (x j k:Nat) (h:x<2 ^ j):x<2 ^ (j+k):=Nat.lt_of_lt_of_le h (Nat.pow_le_pow_right (by decide) (by omega))
end Go.Proofs.YteclejplbphkpaaGreat
