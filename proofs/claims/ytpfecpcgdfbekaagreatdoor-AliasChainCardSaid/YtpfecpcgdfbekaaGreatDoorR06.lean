/- AlD AlE -/
import Derived.Test.YtpfecpcgdfbekaaGreatDoorR05
set_option linter.unusedVariables false
set_option linter.unusedSimpArgs false
set_option linter.unnecessarySimpa false
set_option linter.unusedSectionVars false
namespace Go.Proofs.YtpfecpcgdfbekaaGreatDoor
open Go.RowKit
set_option maxRecDepth 100000 in
set_option maxHeartbeats 6400000 in
theorem container_any {W:World} {nA fA:Option Addr} {n nc fc gm:Nat} {rec:Vis→List UInt8→List UInt8→Alo} (hr:AlC W nA fA n nc fc gm rec) (hrs:∀ vis file t,rsB (rec vis file t).r=true) (ht:TabK W)
  (w:World) (vis:Vis) (file ta tb:List UInt8) (k:Nat) (hk:k=15∨k=14∨k=13) (hs:AlS W w gm vis) (h99:(conW rec vis file k ta tb).e≠99) :
  Calls Tryz.prog 39 #[.agg #[.slice nA n nc,.slice fA n fc,.map (some gm)],.string ⟨file.toArray⟩,.int .i64 (k:Int),.string ⟨ta.toArray⟩,.string ⟨tb.toArray⟩] w (AlR gm (conW rec vis file k ta tb) w):=by
 have HR:=Lib.hid hr
 have HRS:=Lib.hid hrs
 have HS:=Lib.hid hs
 have HT:=Lib.hid ht
 have H99:=Lib.hid h99
 obtain ⟨g1,hg1⟩:∃ g,w.heap.size=g:=⟨_,rfl⟩
 obtain ⟨g2,hg2⟩:∃ g,g1+1=g:=⟨_,rfl⟩
 obtain ⟨w1,hw⟩:∃ w1,(w.alloc (.cells #[.slice nA n nc,.slice fA n fc,.map (some gm)] 80)).alloc (.cells #[.string ⟨#[]⟩,.int .i64 0,.int .i64 0] 82)=w1:=⟨_,rfl⟩
 have hs1:(w.alloc (.cells #[.slice nA n nc,.slice fA n fc,.map (some gm)] 80)).heap.size=g2:=by simp;omega
 have hba:Blk w1 g1 g1 #[.slice nA n nc,.slice fA n fc,.map (some gm)] 80:=by rw [← hw,← hg1];exact (Blk.new w _ _).alloc _
 have hbr:Blk w1 g2 g2 #[.string ⟨#[]⟩,.int .i64 0,.int .i64 0] 82:=by rw [← hw,← hs1];exact Blk.new _ _ _
 have hn1:Nx w w1:=by rw [← hw];exact Nx.al (nx0 w _) _
 have hlt:gm<g1:=by rw [← hg1];exact hs.mp.lt
 have HG:Hid (w.heap.size=g1∧gm<g1∧g1<g2):=by unfold Hid;omega
 have HN1:=Lib.hid hn1
 have HBA:=Lib.hid hba
 have HBR:=Lib.hid hbr
 have a0:w1.cell? ⟨g1,0,none⟩=some (.slice nA n nc):=hba.cell 0
 have a1:w1.cell? ⟨g1,1,none⟩=some (.slice fA n fc):=hba.cell 1
 have a2:w1.cell? ⟨g1,2,none⟩=some (.map (some gm)):=hba.cell 2
 obtain ⟨A,hA⟩:∃ A,rec vis file ta=A:=⟨_,rfl⟩
 clear hr hrs hs ht h99 hs1 hba hbr hn1 hlt
 rcases hk with rfl | rfl | rfl
 ·have HCO:Hid (conW rec vis file 15 ta tb=if A.e≠0 then noAl A.e A.vis else if 15≠15∧isK A.r.k=false then noAl 11 A.vis else if 15=13 then (if (rec A.vis file tb).e≠0 then noAl (rec A.vis file tb).e (rec A.vis file tb).vis else ⟨0,aroP 15 A.r (rec A.vis file tb).r,(rec A.vis file tb).vis⟩) else ⟨0,aroP 15 A.r rs0,A.vis⟩):=by
   unfold Hid conW;rw [hA]
  have HA9:Hid (A.e≠99):=by
   unfold Hid;have h:=H99.out;rw [HCO.out] at h
   by_cases h0:A.e=0
   ·rw [h0];decide
   ·rw [if_pos h0] at h;exact h
  have HRA:Hid (rsB A.r=true):=by unfold Hid;rw [← hA];exact HRS.out vis file ta
  have HR1:=Lib.hid (HR.out w1 vis file ta (HS.out.on HN1.out) (by rw [hA];exact HA9.out))
  have HA2:=Lib.hid hA
  clear hA
  go_enter Tryz.func39,Tryz.ntmps39
  go_upto_region 1 with (fail)
  try rw [hw]
  clear hw hg1 hg2
  go_wp2_with fail
  refine HR1.out.mono ?_;rw [HA2.out];rintro e w2 ⟨rfl,ho2,hm2⟩
  clear a0 a1 a2 HR1
  obtain ⟨Ae,⟨At,Ak,Ad⟩,Av⟩:=A
  unfold rsL at *
  dsimp only at *
  obtain ⟨g3,hg3⟩:∃ g,w2.heap.size=g:=⟨_,rfl⟩
  obtain ⟨w3,hw3⟩:∃ x,w2.alloc (.cells #[.string ⟨At.toArray⟩,.int .i64 (Ak:Int),.int .i64 (Ad:Int)] 82)=x:=⟨_,rfl⟩
  have hb3:Blk w3 g3 g3 #[.string ⟨At.toArray⟩,.int .i64 (Ak:Int),.int .i64 (Ad:Int)] 82:=by rw [← hw3,← hg3];exact Blk.new w2 _ _
  have hn3:Nx w2 w3:=by rw [← hw3];exact nx0 _ _
  have HB3:=Lib.hid hb3
  have HBA3:=Lib.hid ((ho2.blk HBA.out (by have:=HG.out;omega)).below hn3)
  have hr3:=(ho2.blk HBR.out (by have:=HG.out;omega)).below hn3
  have HBR3:=Lib.hid hr3
  have HM3:=Lib.hid (hm2.nx hn3)
  have HO3:=Lib.hid (((Oth.nx HN1.out).trans ho2).trans (Oth.nx hn3))
  have HG3:Hid (g2<g3):=by have:=HBR.out.lt;have:=ho2.size;unfold Hid;omega
  go_upto_region 2 with (fail)
  try rw [hw3]
  clear hw3 hg3 hm2 ho2 hn3
  by_cases h0:Ae=0
  ·subst h0
   have HKE:True:=trivial
   clear hb3 hr3
   obtain ⟨g4,hg4⟩:∃ g,w3.heap.size=g:=⟨_,rfl⟩
   obtain ⟨w4,hw4⟩:∃ x,w3.alloc (.cells #[.string ⟨#[]⟩,.int .i64 0,.int .i64 0] 82)=x:=⟨_,rfl⟩
   have hb4:Blk w4 g4 g4 #[.string ⟨#[]⟩,.int .i64 0,.int .i64 0] 82:=by rw [← hw4,← hg4];exact Blk.new w3 _ _
   have hn4:Nx w3 w4:=by rw [← hw4];exact nx0 _ _
   have HB4:=Lib.hid hb4
   have hba4:=HBA3.out.below hn4
   have HBA4:=Lib.hid hba4
   have HBR4:=Lib.hid (HBR3.out.below hn4)
   have HB34:=Lib.hid (HB3.out.below hn4)
   have HM4:=Lib.hid (HM3.out.nx hn4)
   have HO4:=Lib.hid (HO3.out.trans (Oth.nx hn4))
   have HG4:Hid (g3<g4):=by have:=HB3.out.lt;unfold Hid;omega
   have HA:Hid (conW rec vis file 15 ta tb=⟨0,aroP 15 ⟨At,Ak,Ad⟩ rs0,Av⟩):=by unfold Hid;rw [HCO.out];simp [HKE]
   have x0:w4.cell? ⟨g3,0,none⟩=some (.string ⟨At.toArray⟩):=HB34.out.cell 0
   have x1:w4.cell? ⟨g3,1,none⟩=some (.int .i64 (Ak:Int)):=HB34.out.cell 1
   have x2:w4.cell? ⟨g3,2,none⟩=some (.int .i64 (Ad:Int)):=HB34.out.cell 2
   have z0:w4.cell? ⟨g4,0,none⟩=some (.string ⟨#[]⟩):=hb4.cell 0
   have z1:w4.cell? ⟨g4,1,none⟩=some (.int .i64 0):=hb4.cell 1
   have z2:w4.cell? ⟨g4,2,none⟩=some (.int .i64 0):=hb4.cell 2
   clear hb4 hn4 hba4 HCO HA2
   have HAR:=Lib.hid (around_any w4 15 ⟨At,Ak,Ad⟩ rs0 (by decide) HRA.out rfl (HT.out.nx (HO4.out.to HS.out.nx HS.out.ge)))
   go_wp2_with fail
   refine HAR.out.mono ?_;rintro e wy ⟨rfl,hny⟩
   obtain ⟨⟨Ct,Ck,Cd⟩,hC⟩:∃ C,aroP 15 ⟨At,Ak,Ad⟩ rs0=C:=⟨_,rfl⟩
   rw [hC]
   rw [hC] at HA
   unfold rsL
   dsimp only
   have HBRy:=Lib.hid (HBR4.out.below hny)
   have HMy:=Lib.hid (HM4.out.nx hny)
   have HOy:=Lib.hid (HO4.out.trans (Oth.nx hny))
   try clear r0 r1 r2 f0 f1 f2
   have r0:wy.cell? ⟨g2,0,none⟩=some (.string ⟨#[]⟩):=HBRy.out.cell 0
   have r1:wy.cell? ⟨g2,1,none⟩=some (.int .i64 0):=HBRy.out.cell 1
   have r2:wy.cell? ⟨g2,2,none⟩=some (.int .i64 0):=HBRy.out.cell 2
   have f0:=HBRy.out.free 0
   have f1:=HBRy.out.free 1
   have f2:=HBRy.out.free 2
   clear hC hny
   go_wp2_with fail
   refine bodyPost_ret (results_c_t rfl _ _ g2 _ _ _ _ rfl (HBRy.out.putAll [.string ⟨Ct.toArray⟩,.int .i64 (Ck:Int),.int .i64 (Cd:Int)] rfl).2 (Tryz.underlying82) rfl (by kernel_rfl)) rfl ?_
   have HG:=HG.out
   show AlR _ _ _ _ _
   rw [HA.out]
   exact ⟨rfl,(HOy.out).puts (by omega) [.string ⟨Ct.toArray⟩,.int .i64 (Ck:Int),.int .i64 (Cd:Int)] 0,HMy.out.put3 (g:=g2) (by omega) _ _ _⟩
  ·have q1:decide ((Ae:Int)=0)=false:=decide_eq_false (by omega)
   have q2:¬ (Ae:Int)=0:=by omega
   have HA:Hid (conW rec vis file 15 ta tb=noAl Ae Av):=by unfold Hid;rw [HCO.out,if_pos h0]
   have r0:w3.cell? ⟨g2,0,none⟩=some (.string ⟨#[]⟩):=HBR3.out.cell 0
   have r1:w3.cell? ⟨g2,1,none⟩=some (.int .i64 0):=HBR3.out.cell 1
   have r2:w3.cell? ⟨g2,2,none⟩=some (.int .i64 0):=HBR3.out.cell 2
   have f0:=HBR3.out.free 0
   have f1:=HBR3.out.free 1
   have f2:=HBR3.out.free 2
   clear h0 hb3 hr3 HCO HA2
   go_wp2_with fail
   refine bodyPost_ret (results_c_t rfl _ _ g2 _ _ _ _ rfl (HBR3.out.putAll [.string ⟨#[]⟩,.int .i64 0,.int .i64 0] rfl).2 (Tryz.underlying82) rfl (by kernel_rfl)) rfl ?_
   have HG:=HG.out
   show AlR _ _ _ _ _
   rw [HA.out]
   exact ⟨rfl,(HO3.out).puts (by omega) [.string ⟨#[]⟩,.int .i64 0,.int .i64 0] 0,HM3.out.put3 (g:=g2) (by omega) _ _ _⟩
 ·have HCO:Hid (conW rec vis file 14 ta tb=if A.e≠0 then noAl A.e A.vis else if 14≠15∧isK A.r.k=false then noAl 11 A.vis else if 14=13 then (if (rec A.vis file tb).e≠0 then noAl (rec A.vis file tb).e (rec A.vis file tb).vis else ⟨0,aroP 14 A.r (rec A.vis file tb).r,(rec A.vis file tb).vis⟩) else ⟨0,aroP 14 A.r rs0,A.vis⟩):=by
   unfold Hid conW;rw [hA]
  have HA9:Hid (A.e≠99):=by
   unfold Hid;have h:=H99.out;rw [HCO.out] at h
   by_cases h0:A.e=0
   ·rw [h0];decide
   ·rw [if_pos h0] at h;exact h
  have HRA:Hid (rsB A.r=true):=by unfold Hid;rw [← hA];exact HRS.out vis file ta
  have HR1:=Lib.hid (HR.out w1 vis file ta (HS.out.on HN1.out) (by rw [hA];exact HA9.out))
  have HA2:=Lib.hid hA
  clear hA
  go_enter Tryz.func39,Tryz.ntmps39
  go_upto_region 1 with (fail)
  try rw [hw]
  clear hw hg1 hg2
  go_wp2_with fail
  refine HR1.out.mono ?_;rw [HA2.out];rintro e w2 ⟨rfl,ho2,hm2⟩
  clear a0 a1 a2 HR1
  obtain ⟨Ae,⟨At,Ak,Ad⟩,Av⟩:=A
  unfold rsL at *
  dsimp only at *
  obtain ⟨g3,hg3⟩:∃ g,w2.heap.size=g:=⟨_,rfl⟩
  obtain ⟨w3,hw3⟩:∃ x,w2.alloc (.cells #[.string ⟨At.toArray⟩,.int .i64 (Ak:Int),.int .i64 (Ad:Int)] 82)=x:=⟨_,rfl⟩
  have hb3:Blk w3 g3 g3 #[.string ⟨At.toArray⟩,.int .i64 (Ak:Int),.int .i64 (Ad:Int)] 82:=by rw [← hw3,← hg3];exact Blk.new w2 _ _
  have hn3:Nx w2 w3:=by rw [← hw3];exact nx0 _ _
  have HB3:=Lib.hid hb3
  have HBA3:=Lib.hid ((ho2.blk HBA.out (by have:=HG.out;omega)).below hn3)
  have hr3:=(ho2.blk HBR.out (by have:=HG.out;omega)).below hn3
  have HBR3:=Lib.hid hr3
  have HM3:=Lib.hid (hm2.nx hn3)
  have HO3:=Lib.hid (((Oth.nx HN1.out).trans ho2).trans (Oth.nx hn3))
  have HG3:Hid (g2<g3):=by have:=HBR.out.lt;have:=ho2.size;unfold Hid;omega
  go_upto_region 2 with (fail)
  try rw [hw3]
  clear hw3 hg3 hm2 ho2 hn3
  by_cases h0:Ae=0
  ·subst h0
   have y1:w3.cell? ⟨g3,1,none⟩=some (.int .i64 (Ak:Int)):=hb3.cell 1
   have HAK:Hid (Ak≤100):=by
    have h:=HRA.out
    unfold Hid
    simp only [rsB,Bool.and_eq_true,decide_eq_true_eq] at h
    exact h.1.2
   have HIK:=Lib.hid (isKey_any w3 Ak HAK.out)
   go_wp2_with fail
   refine HIK.out.mono ?_;rintro e w9 ⟨rfl,hw9⟩;obtain rfl:w3=w9:=hw9.symm
   clear HIK
   cases HKE:isK Ak with
   | false =>
    have HA:Hid (conW rec vis file 14 ta tb=noAl 11 Av):=by unfold Hid;rw [HCO.out];simp [HKE]
    have r0:w3.cell? ⟨g2,0,none⟩=some (.string ⟨#[]⟩):=hr3.cell 0
    have r1:w3.cell? ⟨g2,1,none⟩=some (.int .i64 0):=hr3.cell 1
    have r2:w3.cell? ⟨g2,2,none⟩=some (.int .i64 0):=hr3.cell 2
    have f0:=hr3.free 0
    have f1:=hr3.free 1
    have f2:=hr3.free 2
    clear hb3 y1 HCO HA2
    go_wp2_with fail
    refine bodyPost_ret (results_c_t rfl _ _ g2 _ _ _ _ rfl (HBR3.out.putAll [.string ⟨#[]⟩,.int .i64 0,.int .i64 0] rfl).2 (Tryz.underlying82) rfl (by kernel_rfl)) rfl ?_
    have HG:=HG.out
    show AlR _ _ _ _ _
    rw [HA.out]
    exact ⟨rfl,(HO3.out).puts (by omega) [.string ⟨#[]⟩,.int .i64 0,.int .i64 0] 0,HM3.out.put3 (g:=g2) (by omega) _ _ _⟩
   | true =>
    clear hb3 hr3 y1
    obtain ⟨g4,hg4⟩:∃ g,w3.heap.size=g:=⟨_,rfl⟩
    obtain ⟨w4,hw4⟩:∃ x,w3.alloc (.cells #[.string ⟨#[]⟩,.int .i64 0,.int .i64 0] 82)=x:=⟨_,rfl⟩
    have hb4:Blk w4 g4 g4 #[.string ⟨#[]⟩,.int .i64 0,.int .i64 0] 82:=by rw [← hw4,← hg4];exact Blk.new w3 _ _
    have hn4:Nx w3 w4:=by rw [← hw4];exact nx0 _ _
    have HB4:=Lib.hid hb4
    have hba4:=HBA3.out.below hn4
    have HBA4:=Lib.hid hba4
    have HBR4:=Lib.hid (HBR3.out.below hn4)
    have HB34:=Lib.hid (HB3.out.below hn4)
    have HM4:=Lib.hid (HM3.out.nx hn4)
    have HO4:=Lib.hid (HO3.out.trans (Oth.nx hn4))
    have HG4:Hid (g3<g4):=by have:=HB3.out.lt;unfold Hid;omega
    have HA:Hid (conW rec vis file 14 ta tb=⟨0,aroP 14 ⟨At,Ak,Ad⟩ rs0,Av⟩):=by unfold Hid;rw [HCO.out];simp [HKE]
    have x0:w4.cell? ⟨g3,0,none⟩=some (.string ⟨At.toArray⟩):=HB34.out.cell 0
    have x1:w4.cell? ⟨g3,1,none⟩=some (.int .i64 (Ak:Int)):=HB34.out.cell 1
    have x2:w4.cell? ⟨g3,2,none⟩=some (.int .i64 (Ad:Int)):=HB34.out.cell 2
    have z0:w4.cell? ⟨g4,0,none⟩=some (.string ⟨#[]⟩):=hb4.cell 0
    have z1:w4.cell? ⟨g4,1,none⟩=some (.int .i64 0):=hb4.cell 1
    have z2:w4.cell? ⟨g4,2,none⟩=some (.int .i64 0):=hb4.cell 2
    clear hb4 hn4 hba4 HCO HA2
    have HAR:=Lib.hid (around_any w4 14 ⟨At,Ak,Ad⟩ rs0 (by decide) HRA.out rfl (HT.out.nx (HO4.out.to HS.out.nx HS.out.ge)))
    go_wp2_with fail
    refine HAR.out.mono ?_;rintro e wy ⟨rfl,hny⟩
    obtain ⟨⟨Ct,Ck,Cd⟩,hC⟩:∃ C,aroP 14 ⟨At,Ak,Ad⟩ rs0=C:=⟨_,rfl⟩
    rw [hC]
    rw [hC] at HA
    unfold rsL
    dsimp only
    have HBRy:=Lib.hid (HBR4.out.below hny)
    have HMy:=Lib.hid (HM4.out.nx hny)
    have HOy:=Lib.hid (HO4.out.trans (Oth.nx hny))
    try clear r0 r1 r2 f0 f1 f2
    have r0:wy.cell? ⟨g2,0,none⟩=some (.string ⟨#[]⟩):=HBRy.out.cell 0
    have r1:wy.cell? ⟨g2,1,none⟩=some (.int .i64 0):=HBRy.out.cell 1
    have r2:wy.cell? ⟨g2,2,none⟩=some (.int .i64 0):=HBRy.out.cell 2
    have f0:=HBRy.out.free 0
    have f1:=HBRy.out.free 1
    have f2:=HBRy.out.free 2
    clear hC hny
    go_wp2_with fail
    refine bodyPost_ret (results_c_t rfl _ _ g2 _ _ _ _ rfl (HBRy.out.putAll [.string ⟨Ct.toArray⟩,.int .i64 (Ck:Int),.int .i64 (Cd:Int)] rfl).2 (Tryz.underlying82) rfl (by kernel_rfl)) rfl ?_
    have HG:=HG.out
    show AlR _ _ _ _ _
    rw [HA.out]
    exact ⟨rfl,(HOy.out).puts (by omega) [.string ⟨Ct.toArray⟩,.int .i64 (Ck:Int),.int .i64 (Cd:Int)] 0,HMy.out.put3 (g:=g2) (by omega) _ _ _⟩
  ·have q1:decide ((Ae:Int)=0)=false:=decide_eq_false (by omega)
   have q2:¬ (Ae:Int)=0:=by omega
   have HA:Hid (conW rec vis file 14 ta tb=noAl Ae Av):=by unfold Hid;rw [HCO.out,if_pos h0]
   have r0:w3.cell? ⟨g2,0,none⟩=some (.string ⟨#[]⟩):=HBR3.out.cell 0
   have r1:w3.cell? ⟨g2,1,none⟩=some (.int .i64 0):=HBR3.out.cell 1
   have r2:w3.cell? ⟨g2,2,none⟩=some (.int .i64 0):=HBR3.out.cell 2
   have f0:=HBR3.out.free 0
   have f1:=HBR3.out.free 1
   have f2:=HBR3.out.free 2
   clear h0 hb3 hr3 HCO HA2
   go_wp2_with fail
   refine bodyPost_ret (results_c_t rfl _ _ g2 _ _ _ _ rfl (HBR3.out.putAll [.string ⟨#[]⟩,.int .i64 0,.int .i64 0] rfl).2 (Tryz.underlying82) rfl (by kernel_rfl)) rfl ?_
   have HG:=HG.out
   show AlR _ _ _ _ _
   rw [HA.out]
   exact ⟨rfl,(HO3.out).puts (by omega) [.string ⟨#[]⟩,.int .i64 0,.int .i64 0] 0,HM3.out.put3 (g:=g2) (by omega) _ _ _⟩
 ·have HCO:Hid (conW rec vis file 13 ta tb=if A.e≠0 then noAl A.e A.vis else if 13≠15∧isK A.r.k=false then noAl 11 A.vis else if 13=13 then (if (rec A.vis file tb).e≠0 then noAl (rec A.vis file tb).e (rec A.vis file tb).vis else ⟨0,aroP 13 A.r (rec A.vis file tb).r,(rec A.vis file tb).vis⟩) else ⟨0,aroP 13 A.r rs0,A.vis⟩):=by
   unfold Hid conW;rw [hA]
  have HA9:Hid (A.e≠99):=by
   unfold Hid;have h:=H99.out;rw [HCO.out] at h
   by_cases h0:A.e=0
   ·rw [h0];decide
   ·rw [if_pos h0] at h;exact h
  have HRA:Hid (rsB A.r=true):=by unfold Hid;rw [← hA];exact HRS.out vis file ta
  have HR1:=Lib.hid (HR.out w1 vis file ta (HS.out.on HN1.out) (by rw [hA];exact HA9.out))
  have HA2:=Lib.hid hA
  clear hA
  go_enter Tryz.func39,Tryz.ntmps39
  go_upto_region 1 with (fail)
  try rw [hw]
  clear hw hg1 hg2
  go_wp2_with fail
  refine HR1.out.mono ?_;rw [HA2.out];rintro e w2 ⟨rfl,ho2,hm2⟩
  clear a0 a1 a2 HR1
  obtain ⟨Ae,⟨At,Ak,Ad⟩,Av⟩:=A
  unfold rsL at *
  dsimp only at *
  obtain ⟨g3,hg3⟩:∃ g,w2.heap.size=g:=⟨_,rfl⟩
  obtain ⟨w3,hw3⟩:∃ x,w2.alloc (.cells #[.string ⟨At.toArray⟩,.int .i64 (Ak:Int),.int .i64 (Ad:Int)] 82)=x:=⟨_,rfl⟩
  have hb3:Blk w3 g3 g3 #[.string ⟨At.toArray⟩,.int .i64 (Ak:Int),.int .i64 (Ad:Int)] 82:=by rw [← hw3,← hg3];exact Blk.new w2 _ _
  have hn3:Nx w2 w3:=by rw [← hw3];exact nx0 _ _
  have HB3:=Lib.hid hb3
  have HBA3:=Lib.hid ((ho2.blk HBA.out (by have:=HG.out;omega)).below hn3)
  have hr3:=(ho2.blk HBR.out (by have:=HG.out;omega)).below hn3
  have HBR3:=Lib.hid hr3
  have HM3:=Lib.hid (hm2.nx hn3)
  have HO3:=Lib.hid (((Oth.nx HN1.out).trans ho2).trans (Oth.nx hn3))
  have HG3:Hid (g2<g3):=by have:=HBR.out.lt;have:=ho2.size;unfold Hid;omega
  go_upto_region 2 with (fail)
  try rw [hw3]
  clear hw3 hg3 hm2 ho2 hn3
  by_cases h0:Ae=0
  ·subst h0
   have y1:w3.cell? ⟨g3,1,none⟩=some (.int .i64 (Ak:Int)):=hb3.cell 1
   have HAK:Hid (Ak≤100):=by
    have h:=HRA.out
    unfold Hid
    simp only [rsB,Bool.and_eq_true,decide_eq_true_eq] at h
    exact h.1.2
   have HIK:=Lib.hid (isKey_any w3 Ak HAK.out)
   go_wp2_with fail
   refine HIK.out.mono ?_;rintro e w9 ⟨rfl,hw9⟩;obtain rfl:w3=w9:=hw9.symm
   clear HIK
   cases HKE:isK Ak with
   | false =>
    have HA:Hid (conW rec vis file 13 ta tb=noAl 11 Av):=by unfold Hid;rw [HCO.out];simp [HKE]
    have r0:w3.cell? ⟨g2,0,none⟩=some (.string ⟨#[]⟩):=hr3.cell 0
    have r1:w3.cell? ⟨g2,1,none⟩=some (.int .i64 0):=hr3.cell 1
    have r2:w3.cell? ⟨g2,2,none⟩=some (.int .i64 0):=hr3.cell 2
    have f0:=hr3.free 0
    have f1:=hr3.free 1
    have f2:=hr3.free 2
    clear hb3 y1 HCO HA2
    go_wp2_with fail
    refine bodyPost_ret (results_c_t rfl _ _ g2 _ _ _ _ rfl (HBR3.out.putAll [.string ⟨#[]⟩,.int .i64 0,.int .i64 0] rfl).2 (Tryz.underlying82) rfl (by kernel_rfl)) rfl ?_
    have HG:=HG.out
    show AlR _ _ _ _ _
    rw [HA.out]
    exact ⟨rfl,(HO3.out).puts (by omega) [.string ⟨#[]⟩,.int .i64 0,.int .i64 0] 0,HM3.out.put3 (g:=g2) (by omega) _ _ _⟩
   | true =>
    clear hb3 hr3 y1
    obtain ⟨g4,hg4⟩:∃ g,w3.heap.size=g:=⟨_,rfl⟩
    obtain ⟨w4,hw4⟩:∃ x,w3.alloc (.cells #[.string ⟨#[]⟩,.int .i64 0,.int .i64 0] 82)=x:=⟨_,rfl⟩
    have hb4:Blk w4 g4 g4 #[.string ⟨#[]⟩,.int .i64 0,.int .i64 0] 82:=by rw [← hw4,← hg4];exact Blk.new w3 _ _
    have hn4:Nx w3 w4:=by rw [← hw4];exact nx0 _ _
    have HB4:=Lib.hid hb4
    have hba4:=HBA3.out.below hn4
    have HBA4:=Lib.hid hba4
    have HBR4:=Lib.hid (HBR3.out.below hn4)
    have HB34:=Lib.hid (HB3.out.below hn4)
    have HM4:=Lib.hid (HM3.out.nx hn4)
    have HO4:=Lib.hid (HO3.out.trans (Oth.nx hn4))
    have HG4:Hid (g3<g4):=by have:=HB3.out.lt;unfold Hid;omega
    have b0:w4.cell? ⟨g1,0,none⟩=some (.slice nA n nc):=hba4.cell 0
    have b1:w4.cell? ⟨g1,1,none⟩=some (.slice fA n fc):=hba4.cell 1
    have b2:w4.cell? ⟨g1,2,none⟩=some (.map (some gm)):=hba4.cell 2
    obtain ⟨B,hB⟩:∃ B,rec Av file tb=B:=⟨_,rfl⟩
    have HCO2:Hid (conW rec vis file 13 ta tb=if B.e≠0 then noAl B.e B.vis else ⟨0,aroP 13 ⟨At,Ak,Ad⟩ B.r,B.vis⟩):=by unfold Hid;rw [HCO.out,hB];simp [HKE]
    have HB9:Hid (B.e≠99):=by
     unfold Hid;have h:=H99.out;rw [HCO2.out] at h
     by_cases h0:B.e=0
     ·rw [h0];decide
     ·rw [if_pos h0] at h;exact h
    have HR2:=Lib.hid (HR.out w4 Av file tb (HS.out.oth HO4.out HM4.out) (by rw [hB];exact HB9.out))
    have HRB:Hid (rsB B.r=true):=by unfold Hid;rw [← hB];exact HRS.out Av file tb
    have HBE:=Lib.hid hB
    clear hb4 hn4 hba4 HCO hB HA2
    go_wp2_with fail
    refine HR2.out.mono ?_;rw [HBE.out];rintro e w5 ⟨rfl,ho5,hm5⟩
    clear HBE HR2 b0 b1 b2
    obtain ⟨Be,⟨Bt,Bk,Bd⟩,Bv⟩:=B
    unfold rsL at *
    dsimp only at *
    have hb5:=ho5.blk HB4.out (by have:=HG.out;have:=HG4.out;have:=HG3.out;omega)
    have hr5:=ho5.blk HBR4.out (by have:=HG.out;omega)
    have h35:=ho5.blk HB34.out (by have:=HG.out;have:=HG3.out;omega)
    have s0:w5.cell? ⟨g4,0,none⟩=some (.string ⟨#[]⟩):=hb5.cell 0
    have s1:w5.cell? ⟨g4,1,none⟩=some (.int .i64 0):=hb5.cell 1
    have s2:w5.cell? ⟨g4,2,none⟩=some (.int .i64 0):=hb5.cell 2
    have t0:=hb5.free 0
    have t1:=hb5.free 1
    have t2:=hb5.free 2
    obtain ⟨w6,hw6⟩:∃ x,((w5.setCell ⟨g4,0,none⟩ (.string ⟨Bt.toArray⟩)).setCell ⟨g4,1,none⟩ (.int .i64 (Bk:Int))).setCell ⟨g4,2,none⟩ (.int .i64 (Bd:Int))=x:=⟨_,rfl⟩
    have h6:wputs w5 g4 0 [.string ⟨Bt.toArray⟩,.int .i64 (Bk:Int),.int .i64 (Bd:Int)]=w6:=hw6
    have h46:¬ g4=g2∧¬ g4=g3∧gm≠g4∧w.heap.size≤g4:=by have:=HG.out;have:=HG4.out;have:=HG3.out;omega
    have HB6:Hid (Blk w6 g4 g4 #[.string ⟨Bt.toArray⟩,.int .i64 (Bk:Int),.int .i64 (Bd:Int)] 82):=by unfold Hid;rw [← h6];exact hb5.putAll [.string ⟨Bt.toArray⟩,.int .i64 (Bk:Int),.int .i64 (Bd:Int)] rfl
    have HR6:Hid (Blk w6 g2 g2 #[.string ⟨#[]⟩,.int .i64 0,.int .i64 0] 82):=by unfold Hid;rw [← h6];exact Blk.apart h46.1 [.string ⟨Bt.toArray⟩,.int .i64 (Bk:Int),.int .i64 (Bd:Int)] 0 hr5
    have H36:Hid (Blk w6 g3 g3 #[.string ⟨At.toArray⟩,.int .i64 (Ak:Int),.int .i64 (Ad:Int)] 82):=by unfold Hid;rw [← h6];exact Blk.apart h46.2.1 [.string ⟨Bt.toArray⟩,.int .i64 (Bk:Int),.int .i64 (Bd:Int)] 0 h35
    have HM6:Hid (MpG kvA vvA okA w6 gm Bv):=by unfold Hid;rw [← h6];exact hm5.put3 h46.2.2.1 _ _ _
    have HO6:Hid (Oth gm w w6):=by unfold Hid;rw [← h6];exact (HO4.out.trans ho5).puts h46.2.2.2 [.string ⟨Bt.toArray⟩,.int .i64 (Bk:Int),.int .i64 (Bd:Int)] 0
    clear h6 hb5 hr5 h35 h46 hm5 ho5
    by_cases h0:Be=0
    ·subst h0
     have HA:Hid (conW rec vis file 13 ta tb=⟨0,aroP 13 ⟨At,Ak,Ad⟩ ⟨Bt,Bk,Bd⟩,Bv⟩):=by unfold Hid;rw [HCO2.out];simp
     have x0:w6.cell? ⟨g3,0,none⟩=some (.string ⟨At.toArray⟩):=H36.out.cell 0
     have x1:w6.cell? ⟨g3,1,none⟩=some (.int .i64 (Ak:Int)):=H36.out.cell 1
     have x2:w6.cell? ⟨g3,2,none⟩=some (.int .i64 (Ad:Int)):=H36.out.cell 2
     have z0:w6.cell? ⟨g4,0,none⟩=some (.string ⟨Bt.toArray⟩):=HB6.out.cell 0
     have z1:w6.cell? ⟨g4,1,none⟩=some (.int .i64 (Bk:Int)):=HB6.out.cell 1
     have z2:w6.cell? ⟨g4,2,none⟩=some (.int .i64 (Bd:Int)):=HB6.out.cell 2
     have HAR:=Lib.hid (around_any w6 13 ⟨At,Ak,Ad⟩ ⟨Bt,Bk,Bd⟩ (by decide) HRA.out HRB.out (HT.out.nx (HO6.out.to HS.out.nx HS.out.ge)))
     go_wp2_with fail
     refine HAR.out.mono ?_;rintro e wy ⟨rfl,hny⟩
     obtain ⟨⟨Ct,Ck,Cd⟩,hC⟩:∃ C,aroP 13 ⟨At,Ak,Ad⟩ ⟨Bt,Bk,Bd⟩=C:=⟨_,rfl⟩
     rw [hC]
     rw [hC] at HA
     unfold rsL
     dsimp only
     have HBRy:=Lib.hid (HR6.out.below hny)
     have HMy:=Lib.hid (HM6.out.nx hny)
     have HOy:=Lib.hid (HO6.out.trans (Oth.nx hny))
     try clear r0 r1 r2 f0 f1 f2
     have r0:wy.cell? ⟨g2,0,none⟩=some (.string ⟨#[]⟩):=HBRy.out.cell 0
     have r1:wy.cell? ⟨g2,1,none⟩=some (.int .i64 0):=HBRy.out.cell 1
     have r2:wy.cell? ⟨g2,2,none⟩=some (.int .i64 0):=HBRy.out.cell 2
     have f0:=HBRy.out.free 0
     have f1:=HBRy.out.free 1
     have f2:=HBRy.out.free 2
     clear hC hny
     go_wp2_with fail
     refine bodyPost_ret (results_c_t rfl _ _ g2 _ _ _ _ rfl (HBRy.out.putAll [.string ⟨Ct.toArray⟩,.int .i64 (Ck:Int),.int .i64 (Cd:Int)] rfl).2 (Tryz.underlying82) rfl (by kernel_rfl)) rfl ?_
     have HG:=HG.out
     show AlR _ _ _ _ _
     rw [HA.out]
     exact ⟨rfl,(HOy.out).puts (by omega) [.string ⟨Ct.toArray⟩,.int .i64 (Ck:Int),.int .i64 (Cd:Int)] 0,HMy.out.put3 (g:=g2) (by omega) _ _ _⟩
    ·have q1:decide ((Be:Int)=0)=false:=decide_eq_false (by omega)
     have q2:¬ (Be:Int)=0:=by omega
     have HA:Hid (conW rec vis file 13 ta tb=noAl Be Bv):=by unfold Hid;rw [HCO2.out,if_pos h0]
     try clear r0 r1 r2 f0 f1 f2
     have r0:w6.cell? ⟨g2,0,none⟩=some (.string ⟨#[]⟩):=HR6.out.cell 0
     have r1:w6.cell? ⟨g2,1,none⟩=some (.int .i64 0):=HR6.out.cell 1
     have r2:w6.cell? ⟨g2,2,none⟩=some (.int .i64 0):=HR6.out.cell 2
     have f0:=HR6.out.free 0
     have f1:=HR6.out.free 1
     have f2:=HR6.out.free 2
     clear h0
     go_wp2_with fail
     refine bodyPost_ret (results_c_t rfl _ _ g2 _ _ _ _ rfl (HR6.out.putAll [.string ⟨#[]⟩,.int .i64 0,.int .i64 0] rfl).2 (Tryz.underlying82) rfl (by kernel_rfl)) rfl ?_
     have HG:=HG.out
     show AlR _ _ _ _ _
     rw [HA.out]
     exact ⟨rfl,(HO6.out).puts (by omega) [.string ⟨#[]⟩,.int .i64 0,.int .i64 0] 0,HM6.out.put3 (g:=g2) (by omega) _ _ _⟩
  ·have q1:decide ((Ae:Int)=0)=false:=decide_eq_false (by omega)
   have q2:¬ (Ae:Int)=0:=by omega
   have HA:Hid (conW rec vis file 13 ta tb=noAl Ae Av):=by unfold Hid;rw [HCO.out,if_pos h0]
   have r0:w3.cell? ⟨g2,0,none⟩=some (.string ⟨#[]⟩):=HBR3.out.cell 0
   have r1:w3.cell? ⟨g2,1,none⟩=some (.int .i64 0):=HBR3.out.cell 1
   have r2:w3.cell? ⟨g2,2,none⟩=some (.int .i64 0):=HBR3.out.cell 2
   have f0:=HBR3.out.free 0
   have f1:=HBR3.out.free 1
   have f2:=HBR3.out.free 2
   clear h0 hb3 hr3 HCO HA2
   go_wp2_with fail
   refine bodyPost_ret (results_c_t rfl _ _ g2 _ _ _ _ rfl (HBR3.out.putAll [.string ⟨#[]⟩,.int .i64 0,.int .i64 0] rfl).2 (Tryz.underlying82) rfl (by kernel_rfl)) rfl ?_
   have HG:=HG.out
   show AlR _ _ _ _ _
   rw [HA.out]
   exact ⟨rfl,(HO3.out).puts (by omega) [.string ⟨#[]⟩,.int .i64 0,.int .i64 0] 0,HM3.out.put3 (g:=g2) (by omega) _ _ _⟩
end Go.Proofs.YtpfecpcgdfbekaaGreatDoor
namespace Go.Proofs.YtpfecpcgdfbekaaGreatDoor
open Go.RowKit
set_option maxRecDepth 100000 in
set_option maxHeartbeats 3200000 in
theorem named_any {W:World} {nA fA:Option Addr} {n nc fc gm:Nat} {names:List (List UInt8)} {files:List Fil} {rec:Vis→List UInt8→List UInt8→Alo} (hr:AlC W nA fA n nc fc gm rec) (hl:Ldn W nA fA n nc fc names files) (hm:MaxC W)
  (w:World) (vis:Vis) (file nm:List UInt8) (hs:AlS W w gm vis) (hn:nm.length≤8000) (h99:(namW names files rec vis file nm).e≠99) :
  Calls Tryz.prog 38 #[.agg #[.slice nA n nc,.slice fA n fc,.map (some gm)],.string ⟨file.toArray⟩,.string ⟨nm.toArray⟩] w (AlR gm (namW names files rec vis file nm) w):=by
 have HR:=Lib.hid hr
 have HS:=Lib.hid hs
 have HL:=Lib.hid hl
 have H99:=Lib.hid h99
 obtain ⟨g1,hg1⟩:∃ g,w.heap.size=g:=⟨_,rfl⟩
 obtain ⟨g2,hg2⟩:∃ g,g1+1=g:=⟨_,rfl⟩
 obtain ⟨w1,hw⟩:∃ w1,(w.alloc (.cells #[.slice nA n nc,.slice fA n fc,.map (some gm)] 80)).alloc (.cells #[.string ⟨#[]⟩,.int .i64 0,.int .i64 0] 82)=w1:=⟨_,rfl⟩
 have hs1:(w.alloc (.cells #[.slice nA n nc,.slice fA n fc,.map (some gm)] 80)).heap.size=g2:=by simp;omega
 have hba:Blk w1 g1 g1 #[.slice nA n nc,.slice fA n fc,.map (some gm)] 80:=by rw [← hw,← hg1];exact (Blk.new w _ _).alloc _
 have hbr:Blk w1 g2 g2 #[.string ⟨#[]⟩,.int .i64 0,.int .i64 0] 82:=by rw [← hw,← hs1];exact Blk.new _ _ _
 have hn1:Nx w w1:=by rw [← hw];exact Nx.al (nx0 w _) _
 have hlt:gm<g1:=by rw [← hg1];exact hs.mp.lt
 have HG:Hid (w.heap.size=g1∧gm<g1∧g1<g2):=by unfold Hid;omega
 have HN1:=Lib.hid hn1
 have HBA:=Lib.hid hba
 have HBR:=Lib.hid hbr
 have HF:=Lib.hid (Find_any (hl.nx (hs.nx.trans hn1)) file nm hn (hm.nx (hs.nx.trans hn1)))
 obtain ⟨P,hP⟩:∃ P,findP names files file nm=P:=⟨_,rfl⟩
 have HP:=Lib.hid hP
 have a0:w1.cell? ⟨g1,0,none⟩=some (.slice nA n nc):=hba.cell 0
 have a1:w1.cell? ⟨g1,1,none⟩=some (.slice fA n fc):=hba.cell 1
 clear hr hs hl hm hn h99 hs1 hba hbr hn1 hlt hP
 go_enter Tryz.func38,Tryz.ntmps38
 go_upto_region 1 with (fail)
 try rw [hw]
 clear hw hg1 hg2
 go_wp2_with fail
 refine HF.out.mono ?_;rw [HP.out];rintro e w2 ⟨hfr,hn2⟩
 clear a0 a1
 cases P with
 | none =>
  have hfr:e = .returned (.tuple #[.string ⟨#[]⟩,.agg #[.int .i64 0,.string ⟨#[]⟩,.string ⟨#[]⟩,.int .i64 0,.int .i64 0,.int .u64 0,.string ⟨#[]⟩,.slice none 0 0,.slice none 0 0,.slice none 0 0,.string ⟨#[]⟩,.slice none 0 0],.string ⟨#[]⟩,.int .i64 7]):=hfr
  subst hfr
  have HA:Hid (namW names files rec vis file nm=noAl 7 vis):=by unfold Hid namW;rw [HP.out]
  obtain ⟨g3,hg3⟩:∃ g,w2.heap.size=g:=⟨_,rfl⟩
  obtain ⟨w3,hw3⟩:∃ w3,w2.alloc (.cells #[.int .i64 0,.string ⟨#[]⟩,.string ⟨#[]⟩,.int .i64 0,.int .i64 0,.int .u64 0,.string ⟨#[]⟩,.slice none 0 0,.slice none 0 0,.slice none 0 0,.string ⟨#[]⟩,.slice none 0 0] 56)=w3:=⟨_,rfl⟩
  have hb3:Blk w3 g3 g3 #[.int .i64 0,.string ⟨#[]⟩,.string ⟨#[]⟩,.int .i64 0,.int .i64 0,.int .u64 0,.string ⟨#[]⟩,.slice none 0 0,.slice none 0 0,.slice none 0 0,.string ⟨#[]⟩,.slice none 0 0] 56:=by rw [← hw3,← hg3];exact Blk.new w2 _ _
  have hn3:Nx w2 w3:=by rw [← hw3];exact nx0 _ _
  have HN3:=Lib.hid (HN1.out.trans (hn2.trans hn3))
  have hba:=HBA.out.below (hn2.trans hn3)
  have hbr:=HBR.out.below (hn2.trans hn3)
  have HBR3:=Lib.hid hbr
  have HS3:=Lib.hid (HS.out.on HN3.out)
  have r0:w3.cell? ⟨g2,0,none⟩=some (.string ⟨#[]⟩):=hbr.cell 0
  have r1:w3.cell? ⟨g2,1,none⟩=some (.int .i64 0):=hbr.cell 1
  have r2:w3.cell? ⟨g2,2,none⟩=some (.int .i64 0):=hbr.cell 2
  have f0:=hbr.free 0
  have f1:=hbr.free 1
  have f2:=hbr.free 2
  have HW2:=Lib.hid hw3
  clear hw3
  go_upto_region 2 with (fail)
  rw [HW2.out]
  clear hb3 hn2 hn3 hba hbr hg3
  go_wp2_with fail
  refine bodyPost_ret (results_c_t rfl _ _ g2 _ _ _ _ rfl (HBR3.out.putAll [.string ⟨#[]⟩,.int .i64 0,.int .i64 0] rfl).2 (Tryz.underlying82) rfl (by kernel_rfl)) rfl ?_
  have HG:=HG.out
  show AlR _ _ _ _ _
  rw [HA.out]
  exact ⟨rfl,(Oth.nx HN3.out).puts (by omega) [.string ⟨#[]⟩,.int .i64 0,.int .i64 0] 0,HS3.out.mp.put3 (g:=g2) (by omega) _ _ _⟩
 | some P =>
  obtain ⟨i,j⟩:=P
  obtain ⟨⟨dk,dn,dt,⟨xk,xn,xd,s,xl⟩,xf,xm,de,xt⟩,hnm,d,rfl,hp,hni,q1,q2,q3,⟨zA,zu,zc,q4⟩,⟨fB,fu,fd,q5⟩,⟨mA,mu,mc,q6⟩,⟨tA,tu,tc,q7⟩⟩:=hfr
  dsimp only at q1 q2 q3 q4 q5 q6 q7
  subst q4 q5 q6 q7
  have hdO:defQ files i j=some d:=by
   obtain ⟨k,hk,rfl,hj,hd⟩:=hp
   rw [defQ_at hk hj,hd]
  have hgn:names.getD i.toNat []=hnm:=by simp [List.getD,hni]
  have hok:okA (hnm,dn):=by
   obtain ⟨k,hk,rfl,hj,hd⟩:=hp
   have hdb:dfnB d=true:=(HL.out.parts.2.2 _ (List.getElem_mem hk)).2.2 d (hd ▸ List.getElem_mem hj)
   refine ⟨HL.out.parts.2.1 _ (List.mem_of_getElem? hni),?_⟩
   rw [q2]
   unfold dfnB at hdb
   simp only [Bool.and_eq_true,decide_eq_true_eq] at hdb
   have:d.nm.length≤8000:=by
    have h:=hdb
    repeat (first | exact h | (replace h:=h.1))
   exact this
  have HOK:=Lib.hid hok
  have HNA:Hid (namW names files rec vis file nm=if dk=1 then typW rec vis (hnm,dn) dt else if dk=2 then ⟨0,⟨hnm++[46]++dn,17,0⟩,vis⟩ else if dk=4∨dk=5∨dk=6 then ⟨0,⟨hnm++[46]++dn,12,0⟩,vis⟩ else noAl 10 vis):=by
   unfold Hid namW;rw [HP.out];dsimp only;rw [hdO];dsimp only;rw [hgn,q1,q2,q3]
  rw [← q2]
  clear hp hni q1 q2 q3 hdO hgn hok
  unfold dfnA bt
  dsimp only
  obtain ⟨g3,hg3⟩:∃ g,w2.heap.size=g:=⟨_,rfl⟩
  obtain ⟨w3,hw3⟩:∃ w3,w2.alloc (.cells #[.int .i64 (dk:Int),.string ⟨dn.toArray⟩,.string ⟨dt.toArray⟩,.int .i64 (xk:Int),.int .i64 xn,.int .u64 (xd:Int),.string ⟨s.toArray⟩,.slice zA zu zc,.slice fB fu fd,.slice mA mu mc,.string ⟨de.toArray⟩,.slice tA tu tc] 56)=w3:=⟨_,rfl⟩
  have hb3:Blk w3 g3 g3 #[.int .i64 (dk:Int),.string ⟨dn.toArray⟩,.string ⟨dt.toArray⟩,.int .i64 (xk:Int),.int .i64 xn,.int .u64 (xd:Int),.string ⟨s.toArray⟩,.slice zA zu zc,.slice fB fu fd,.slice mA mu mc,.string ⟨de.toArray⟩,.slice tA tu tc] 56:=by rw [← hw3,← hg3];exact Blk.new w2 _ _
  have hn3:Nx w2 w3:=by rw [← hw3];exact nx0 _ _
  have HN3:=Lib.hid (HN1.out.trans (hn2.trans hn3))
  have hba:=HBA.out.below (hn2.trans hn3)
  have hbr:=HBR.out.below (hn2.trans hn3)
  have HBR3:=Lib.hid hbr
  have HS3:=Lib.hid (HS.out.on HN3.out)
  have r0:w3.cell? ⟨g2,0,none⟩=some (.string ⟨#[]⟩):=hbr.cell 0
  have r1:w3.cell? ⟨g2,1,none⟩=some (.int .i64 0):=hbr.cell 1
  have r2:w3.cell? ⟨g2,2,none⟩=some (.int .i64 0):=hbr.cell 2
  have f0:=hbr.free 0
  have f1:=hbr.free 1
  have f2:=hbr.free 2
  go_upto_region 2 with (fail)
  try rw [hw3]
  clear hw3 hg3
  have c0:w3.cell? ⟨g3,0,none⟩=some (.int .i64 (dk:Int)):=hb3.cell 0
  have c1:w3.cell? ⟨g3,1,none⟩=some (.string ⟨dn.toArray⟩):=hb3.cell 1
  have c2:w3.cell? ⟨g3,2,none⟩=some (.string ⟨dt.toArray⟩):=hb3.cell 2
  have b0:w3.cell? ⟨g1,0,none⟩=some (.slice nA n nc):=hba.cell 0
  have b1:w3.cell? ⟨g1,1,none⟩=some (.slice fA n fc):=hba.cell 1
  have b2:w3.cell? ⟨g1,2,none⟩=some (.map (some gm)):=hba.cell 2
  clear hb3 hn2 hn3 hba hbr
  by_cases h1:dk=1
  ·subst h1
   have HA:Hid (namW names files rec vis file nm=typW rec vis (hnm,dn) dt):=by unfold Hid;rw [HNA.out,if_pos rfl]
   have HTD:=Lib.hid (typedef_any HR.out w3 vis hnm dn dt HS3.out HOK.out (by have:=H99.out;rwa [HA.out] at this))
   go_wp2_with fail
   refine HTD.out.mono ?_;rintro e w4 ⟨rfl,ho4,hm4⟩
   obtain ⟨A,hA⟩:∃ A,typW rec vis (hnm,dn) dt=A:=⟨_,rfl⟩
   rw [hA] at hm4 ⊢
   have HA:Hid (namW names files rec vis file nm=A):=by unfold Hid;rw [HA.out,hA]
   clear hA
   obtain ⟨Ae,⟨At,Ak,Ad⟩,Av⟩:=A
   unfold rsL at *
   dsimp only at *
   have HR4:=Lib.hid (ho4.blk HBR3.out (by have:=HG.out;omega))
   have HO4:=Lib.hid ((Oth.nx HN3.out).trans ho4)
   have HM4:=Lib.hid hm4
   have e0:w4.cell? ⟨g2,0,none⟩=some (.string ⟨#[]⟩):=HR4.out.cell 0
   have e1:w4.cell? ⟨g2,1,none⟩=some (.int .i64 0):=HR4.out.cell 1
   have e2:w4.cell? ⟨g2,2,none⟩=some (.int .i64 0):=HR4.out.cell 2
   have h0:=HR4.out.free 0
   have h1:=HR4.out.free 1
   have h2:=HR4.out.free 2
   clear r0 r1 r2 f0 f1 f2 hm4 ho4
   go_wp2_with fail
   refine bodyPost_ret (results_c_t rfl _ _ g2 _ _ _ _ rfl (HR4.out.putAll [.string ⟨At.toArray⟩,.int .i64 (Ak:Int),.int .i64 (Ad:Int)] rfl).2 (Tryz.underlying82) rfl (by kernel_rfl)) rfl ?_
   have HG:=HG.out
   show AlR _ _ _ _ _
   rw [HA.out]
   exact ⟨rfl,(HO4.out).puts (by omega) [.string ⟨At.toArray⟩,.int .i64 (Ak:Int),.int .i64 (Ad:Int)] 0,HM4.out.put3 (g:=g2) (by omega) _ _ _⟩
  ·have n1:¬ (dk:Int)=1:=by omega
   by_cases h2:dk=2
   ·subst h2
    have HA:Hid (namW names files rec vis file nm=⟨0,⟨hnm++[46]++dn,17,0⟩,vis⟩):=by unfold Hid;rw [HNA.out,if_neg h1,if_pos rfl]
    clear h1
    go_wp2_with fail
    refine bodyPost_ret (results_c_t rfl _ _ g2 _ _ _ _ rfl (HBR3.out.putAll [.string ⟨(hnm++46 :: dn).toArray⟩,.int .i64 17,.int .i64 0] rfl).2 (Tryz.underlying82) rfl (by kernel_rfl)) rfl ?_
    have HG:=HG.out
    show AlR _ _ _ _ _
    rw [HA.out]
    have ea:hnm++[46]++dn=hnm++46 :: dn:=by simp
    rw [ea]
    exact ⟨rfl,(Oth.nx HN3.out).puts (by omega) [.string ⟨(hnm++46 :: dn).toArray⟩,.int .i64 17,.int .i64 0] 0,HS3.out.mp.put3 (g:=g2) (by omega) _ _ _⟩
   ·have n2:¬ (dk:Int)=2:=by omega
    by_cases h4:dk=4∨dk=5∨dk=6
    ·have HA:Hid (namW names files rec vis file nm=⟨0,⟨hnm++[46]++dn,12,0⟩,vis⟩):=by unfold Hid;rw [HNA.out,if_neg h1,if_neg h2,if_pos h4]
     rcases h4 with rfl | rfl | rfl
     all_goals
      clear h1 h2
      go_wp2_with fail
      refine bodyPost_ret (results_c_t rfl _ _ g2 _ _ _ _ rfl (HBR3.out.putAll [.string ⟨(hnm++46 :: dn).toArray⟩,.int .i64 12,.int .i64 0] rfl).2 (Tryz.underlying82) rfl (by kernel_rfl)) rfl ?_
      have HG:=HG.out
      show AlR _ _ _ _ _
      rw [HA.out]
      have ea:hnm++[46]++dn=hnm++46 :: dn:=by simp
      rw [ea]
      exact ⟨rfl,(Oth.nx HN3.out).puts (by omega) [.string ⟨(hnm++46 :: dn).toArray⟩,.int .i64 12,.int .i64 0] 0,HS3.out.mp.put3 (g:=g2) (by omega) _ _ _⟩
    ·have n4:¬ (dk:Int)=4:=by omega
     have n5:¬ (dk:Int)=5:=by omega
     have n6:¬ (dk:Int)=6:=by omega
     have HA:Hid (namW names files rec vis file nm=noAl 10 vis):=by unfold Hid;rw [HNA.out,if_neg h1,if_neg h2,if_neg h4]
     clear h1 h2 h4
     go_wp2_with fail
     refine bodyPost_ret (results_c_t rfl _ _ g2 _ _ _ _ rfl (HBR3.out.putAll [.string ⟨#[]⟩,.int .i64 0,.int .i64 0] rfl).2 (Tryz.underlying82) rfl (by kernel_rfl)) rfl ?_
     have HG:=HG.out
     show AlR _ _ _ _ _
     rw [HA.out]
     exact ⟨rfl,(Oth.nx HN3.out).puts (by omega) [.string ⟨#[]⟩,.int .i64 0,.int .i64 0] 0,HS3.out.mp.put3 (g:=g2) (by omega) _ _ _⟩
end Go.Proofs.YtpfecpcgdfbekaaGreatDoor
