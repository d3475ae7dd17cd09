/- AlF AlG -/
import Derived.Test.YtpfecpcgdfbekaaGreatDoorR06
import Derived.Test.YtpfecpcgdfbekaaGreatDoorR04
import Derived.Test.YtpfecpcgdfbekaaGreatDoorG08
import Derived.Test.YtpfecpcgdfbekaaGreatDoorR00
set_option linter.unusedVariables false
set_option linter.unusedSimpArgs false
set_option linter.unnecessarySimpa false
set_option linter.unusedSectionVars false
namespace Go.Proofs.YtpfecpcgdfbekaaGreatDoor
open Go.RowKit
theorem alB_rs (a:Alo):rsB (alB a).r=true:=by
 unfold alB
 split
 ·assumption
 ·rfl
theorem resW_rs (names:List (List UInt8)) (files:List Fil):∀ f vis file t,rsB (resW names files f vis file t).r=true
 | 0,_,_,_=>rfl
 | f+1,vis,file,t=>by
  unfold resW
  split
  ·rfl
  ·split
   ·rfl
   ·split
    ·exact alB_rs _
    ·split
     ·exact alB_rs _
     ·exact alB_rs _
set_option maxRecDepth 100000 in
set_option maxHeartbeats 6400000 in
theorem resolve_any {W:World} {nA fA:Option Addr} {n nc fc gm:Nat} {names:List (List UInt8)} {files:List Fil} (hl:Ldn W nA fA n nc fc names files) (hm:MaxC W) (ht:TabK W):∀ f,AlC W nA fA n nc fc gm (resW names files f)
 | 0=>fun w vis file t hs h99=>absurd rfl h99
 | f+1=>by
  have IH:=Lib.hid (resolve_any (gm:=gm) hl hm ht f)
  intro w vis file t hs h99
  have HL:=Lib.hid hl
  have HMX:=Lib.hid hm
  have HS:=Lib.hid hs
  have HT:=Lib.hid ht
  have H99:=Lib.hid h99
  have HLN:Hid (¬ (8000<t.length∨8000<file.length∨8000<(headW t).2.1.length)):=by
   unfold Hid;intro hc
   refine h99 ?_
   unfold resW
   rw [if_pos hc]
   rfl
  obtain ⟨g1,hg1⟩:∃ g,w.heap.size=g:=⟨_,rfl⟩
  obtain ⟨g2,hg2⟩:∃ g,g1+1=g:=⟨_,rfl⟩
  obtain ⟨w1,hw⟩:∃ w1,(w.alloc (.cells #[.slice nA n nc,.slice fA n fc,.map (some gm)] 80)).alloc (.cells #[.string ⟨#[]⟩,.int .i64 0,.int .i64 0] 82)=w1:=⟨_,rfl⟩
  have hs1:(w.alloc (.cells #[.slice nA n nc,.slice fA n fc,.map (some gm)] 80)).heap.size=g2:=by simp;omega
  have hba:Blk w1 g1 g1 #[.slice nA n nc,.slice fA n fc,.map (some gm)] 80:=by rw [← hw,← hg1];exact (Blk.new w _ _).alloc _
  have hbr:Blk w1 g2 g2 #[.string ⟨#[]⟩,.int .i64 0,.int .i64 0] 82:=by rw [← hw,← hs1];exact Blk.new _ _ _
  have hn1:Nx w w1:=by rw [← hw];exact Nx.al (nx0 w _) _
  have hlt:gm<g1:=by rw [← hg1];exact hs.mp.lt
  have HG:Hid (w.heap.size=g1∧gm<g1∧g1<g2):=by unfold Hid;omega
  have HN1:=Lib.hid hn1
  have HBA:=Lib.hid hba
  have HBR:=Lib.hid hbr
  have HHD:=Lib.hid (head_any w1 ⟨t.toArray⟩ t (Tx.of t) (by have:=HLN.out;omega) (ht.nx (hs.nx.trans hn1)) (hm.nx (hs.nx.trans hn1)))
  clear hl hm ht hs h99 hs1 hba hbr hn1 hlt
  go_enter Tryz.func22,Tryz.ntmps22
  go_upto_region 1 with (fail)
  try rw [hw]
  clear hw hg1 hg2
  go_wp2_with fail
  refine HHD.out.mono ?_;rintro e w2 ⟨rfl,hn2⟩
  clear HHD
  obtain ⟨E,hE⟩:∃ E,(wholeT t).1=E:=⟨_,rfl⟩
  obtain ⟨⟨Hk,Hn,Ha,Hb⟩,hH⟩:∃ H,headW t=H:=⟨_,rfl⟩
  rw [hE,hH]
  dsimp only [bA]
  have HN2:=Lib.hid (HN1.out.trans hn2)
  have hba2:=HBA.out.below hn2
  have HBR2:=Lib.hid (HBR.out.below hn2)
  have HS2:=Lib.hid (HS.out.on HN2.out)
  clear hn2
  by_cases h0:E=0
  ·subst h0
   have HW:Hid (¬ (wholeT t).1≠0):=fun h=>h hE
   have hH1:(headW t).1=Hk:=by rw [hH]
   have hH2:(headW t).2.1=Hn:=by rw [hH]
   have hH3:(headW t).2.2.1=Ha:=by rw [hH]
   have hH4:(headW t).2.2.2=Hb:=by rw [hH]
   have HLH:Hid (Hn.length≤8000):=by have:=HLN.out;unfold Hid;rw [hH2] at this;omega
   have b0:w2.cell? ⟨g1,0,none⟩=some (.slice nA n nc):=hba2.cell 0
   have b1:w2.cell? ⟨g1,1,none⟩=some (.slice fA n fc):=hba2.cell 1
   have b2:w2.cell? ⟨g1,2,none⟩=some (.map (some gm)):=hba2.cell 2
   clear hH hE hba2
   by_cases HK2:Hk=0
   ·subst HK2
    have HA:Hid (resW names files (f+1) vis file t=namW names files (resW names files f) vis file Hn):=by
     unfold Hid
     have h:=H99.out
     have e:resW names files (f+1) vis file t=alB (namW names files (resW names files f) vis file Hn):=by unfold resW;rw [if_neg HLN.out,if_neg HW.out];simp [hH1,hH2,hH3,hH4]
     rw [e] at h ⊢
     unfold alB at h ⊢
     split
     ·rfl
     ·rename_i hc;rw [if_neg hc] at h;exact absurd rfl h
    have HCL:=Lib.hid (named_any IH.out HL.out HMX.out w2 vis file Hn HS2.out HLH.out (by have h:=H99.out;rw [HA.out] at h;exact h))
    clear hH1 hH2 hH3 hH4
    go_wp2_with fail
    refine HCL.out.mono ?_;rintro e w4 ⟨rfl,ho4,hm4⟩
    obtain ⟨A,hA⟩:∃ A,namW names files (resW names files f) vis file Hn=A:=⟨_,rfl⟩
    rw [hA] at hm4 ⊢
    have HA:Hid (resW names files (f+1) vis file t=A):=by unfold Hid;rw [HA.out,hA]
    clear hA HCL
    obtain ⟨Ae,⟨At,Ak,Ad⟩,Av⟩:=A
    unfold rsL at *
    dsimp only at *
    have HR4:=Lib.hid (ho4.blk HBR2.out (by have:=HG.out;omega))
    have HO4:=Lib.hid ((Oth.nx HN2.out).trans ho4)
    have HM4:=Lib.hid hm4
    clear b0 b1 b2 hm4 ho4
    have r0:w4.cell? ⟨g2,0,none⟩=some (.string ⟨#[]⟩):=HR4.out.cell 0
    have r1:w4.cell? ⟨g2,1,none⟩=some (.int .i64 0):=HR4.out.cell 1
    have r2:w4.cell? ⟨g2,2,none⟩=some (.int .i64 0):=HR4.out.cell 2
    have f0:=HR4.out.free 0
    have f1:=HR4.out.free 1
    have f2:=HR4.out.free 2
    go_wp2_with fail
    refine bodyPost_ret (results_c_t rfl _ _ g2 _ _ _ _ rfl (HR4.out.putAll [.string ⟨At.toArray⟩,.int .i64 (Ak:Int),.int .i64 (Ad:Int)] rfl).2 (Tryz.underlying82) rfl (by kernel_rfl)) rfl ?_
    have HG:=HG.out
    show AlR _ _ _ _ _
    rw [HA.out]
    exact ⟨rfl,(HO4.out).puts (by omega) [.string ⟨At.toArray⟩,.int .i64 (Ak:Int),.int .i64 (Ad:Int)] 0,HM4.out.put3 (g:=g2) (by omega) _ _ _⟩
   ·have n0:¬ (Hk:Int)=0:=by omega
    by_cases HK3:Hk=15∨Hk=14∨Hk=13
    ·have HKK:=Lib.hid HK3
     have HA:Hid (resW names files (f+1) vis file t=conW (resW names files f) vis file Hk Ha Hb):=by
      unfold Hid
      have h:=H99.out
      have e:resW names files (f+1) vis file t=alB (conW (resW names files f) vis file Hk Ha Hb):=by unfold resW;rw [if_neg HLN.out,if_neg HW.out,hH1,if_neg HK2,if_pos HK3,hH3,hH4]
      rw [e] at h ⊢
      unfold alB at h ⊢
      split
      ·rfl
      ·rename_i hc;rw [if_neg hc] at h;exact absurd rfl h
     have HCL:=Lib.hid (container_any IH.out (resW_rs names files f) HT.out w2 vis file Ha Hb Hk HKK.out HS2.out (by have h:=H99.out;rw [HA.out] at h;exact h))
     clear hH1 hH2 hH3 hH4 n0 HK2
     rcases HK3 with rfl | rfl | rfl
     ·go_wp2_with fail
      refine HCL.out.mono ?_;rintro e w4 ⟨rfl,ho4,hm4⟩
      obtain ⟨A,hA⟩:∃ A,conW (resW names files f) vis file 15 Ha Hb=A:=⟨_,rfl⟩
      rw [hA] at hm4 ⊢
      have HA:Hid (resW names files (f+1) vis file t=A):=by unfold Hid;rw [HA.out,hA]
      clear hA HCL
      obtain ⟨Ae,⟨At,Ak,Ad⟩,Av⟩:=A
      unfold rsL at *
      dsimp only at *
      have HR4:=Lib.hid (ho4.blk HBR2.out (by have:=HG.out;omega))
      have HO4:=Lib.hid ((Oth.nx HN2.out).trans ho4)
      have HM4:=Lib.hid hm4
      clear b0 b1 b2 hm4 ho4
      have r0:w4.cell? ⟨g2,0,none⟩=some (.string ⟨#[]⟩):=HR4.out.cell 0
      have r1:w4.cell? ⟨g2,1,none⟩=some (.int .i64 0):=HR4.out.cell 1
      have r2:w4.cell? ⟨g2,2,none⟩=some (.int .i64 0):=HR4.out.cell 2
      have f0:=HR4.out.free 0
      have f1:=HR4.out.free 1
      have f2:=HR4.out.free 2
      go_wp2_with fail
      refine bodyPost_ret (results_c_t rfl _ _ g2 _ _ _ _ rfl (HR4.out.putAll [.string ⟨At.toArray⟩,.int .i64 (Ak:Int),.int .i64 (Ad:Int)] rfl).2 (Tryz.underlying82) rfl (by kernel_rfl)) rfl ?_
      have HG:=HG.out
      show AlR _ _ _ _ _
      rw [HA.out]
      exact ⟨rfl,(HO4.out).puts (by omega) [.string ⟨At.toArray⟩,.int .i64 (Ak:Int),.int .i64 (Ad:Int)] 0,HM4.out.put3 (g:=g2) (by omega) _ _ _⟩
     ·go_wp2_with fail
      refine HCL.out.mono ?_;rintro e w4 ⟨rfl,ho4,hm4⟩
      obtain ⟨A,hA⟩:∃ A,conW (resW names files f) vis file 14 Ha Hb=A:=⟨_,rfl⟩
      rw [hA] at hm4 ⊢
      have HA:Hid (resW names files (f+1) vis file t=A):=by unfold Hid;rw [HA.out,hA]
      clear hA HCL
      obtain ⟨Ae,⟨At,Ak,Ad⟩,Av⟩:=A
      unfold rsL at *
      dsimp only at *
      have HR4:=Lib.hid (ho4.blk HBR2.out (by have:=HG.out;omega))
      have HO4:=Lib.hid ((Oth.nx HN2.out).trans ho4)
      have HM4:=Lib.hid hm4
      clear b0 b1 b2 hm4 ho4
      have r0:w4.cell? ⟨g2,0,none⟩=some (.string ⟨#[]⟩):=HR4.out.cell 0
      have r1:w4.cell? ⟨g2,1,none⟩=some (.int .i64 0):=HR4.out.cell 1
      have r2:w4.cell? ⟨g2,2,none⟩=some (.int .i64 0):=HR4.out.cell 2
      have f0:=HR4.out.free 0
      have f1:=HR4.out.free 1
      have f2:=HR4.out.free 2
      go_wp2_with fail
      refine bodyPost_ret (results_c_t rfl _ _ g2 _ _ _ _ rfl (HR4.out.putAll [.string ⟨At.toArray⟩,.int .i64 (Ak:Int),.int .i64 (Ad:Int)] rfl).2 (Tryz.underlying82) rfl (by kernel_rfl)) rfl ?_
      have HG:=HG.out
      show AlR _ _ _ _ _
      rw [HA.out]
      exact ⟨rfl,(HO4.out).puts (by omega) [.string ⟨At.toArray⟩,.int .i64 (Ak:Int),.int .i64 (Ad:Int)] 0,HM4.out.put3 (g:=g2) (by omega) _ _ _⟩
     ·go_wp2_with fail
      refine HCL.out.mono ?_;rintro e w4 ⟨rfl,ho4,hm4⟩
      obtain ⟨A,hA⟩:∃ A,conW (resW names files f) vis file 13 Ha Hb=A:=⟨_,rfl⟩
      rw [hA] at hm4 ⊢
      have HA:Hid (resW names files (f+1) vis file t=A):=by unfold Hid;rw [HA.out,hA]
      clear hA HCL
      obtain ⟨Ae,⟨At,Ak,Ad⟩,Av⟩:=A
      unfold rsL at *
      dsimp only at *
      have HR4:=Lib.hid (ho4.blk HBR2.out (by have:=HG.out;omega))
      have HO4:=Lib.hid ((Oth.nx HN2.out).trans ho4)
      have HM4:=Lib.hid hm4
      clear b0 b1 b2 hm4 ho4
      have r0:w4.cell? ⟨g2,0,none⟩=some (.string ⟨#[]⟩):=HR4.out.cell 0
      have r1:w4.cell? ⟨g2,1,none⟩=some (.int .i64 0):=HR4.out.cell 1
      have r2:w4.cell? ⟨g2,2,none⟩=some (.int .i64 0):=HR4.out.cell 2
      have f0:=HR4.out.free 0
      have f1:=HR4.out.free 1
      have f2:=HR4.out.free 2
      go_wp2_with fail
      refine bodyPost_ret (results_c_t rfl _ _ g2 _ _ _ _ rfl (HR4.out.putAll [.string ⟨At.toArray⟩,.int .i64 (Ak:Int),.int .i64 (Ad:Int)] rfl).2 (Tryz.underlying82) rfl (by kernel_rfl)) rfl ?_
      have HG:=HG.out
      show AlR _ _ _ _ _
      rw [HA.out]
      exact ⟨rfl,(HO4.out).puts (by omega) [.string ⟨At.toArray⟩,.int .i64 (Ak:Int),.int .i64 (Ad:Int)] 0,HM4.out.put3 (g:=g2) (by omega) _ _ _⟩
    ·have n15:¬ (Hk:Int)=15:=by omega
     have n14:¬ (Hk:Int)=14:=by omega
     have n13:¬ (Hk:Int)=13:=by omega
     have hAe:resW names files (f+1) vis file t=alB ⟨0,⟨showS (Hk:Int) [] [] [],Hk,0⟩,vis⟩:=by unfold resW;rw [if_neg HLN.out,if_neg HW.out,hH1,if_neg HK2,if_neg HK3]
     have hrs:rsB ⟨showS (Hk:Int) [] [] [],Hk,0⟩=true:=by
      have h:=H99.out
      rw [hAe] at h
      unfold alB at h
      by_cases hc:rsB ⟨showS (Hk:Int) [] [] [],Hk,0⟩=true
      ·exact hc
      ·rw [if_neg hc] at h;exact absurd rfl h
     have HA:Hid (resW names files (f+1) vis file t=⟨0,⟨showS (Hk:Int) [] [] [],Hk,0⟩,vis⟩):=by
      unfold Hid;rw [hAe];unfold alB;rw [if_pos hrs]
     have hkb:Hk≤100:=by
      simp only [rsB,Bool.and_eq_true,decide_eq_true_eq] at hrs
      exact hrs.1.2
     have HSH:=Lib.hid (show_any w2 (Hk:Int) ⟨#[]⟩ ⟨#[]⟩ ⟨#[]⟩ [] [] [] (Tx.of []) (Tx.of []) (Tx.of []) (by omega) (by omega) (by simp [ByteArray.size]) (by simp [ByteArray.size]) (HT.out.nx HS2.out.nx))
     clear hH1 hH2 hH3 hH4 HK2 HK3 hAe hrs b0 b1 b2
     go_wp2_with fail
     refine HSH.out.mono ?_;rintro e w4 ⟨rfl,hn4⟩
     obtain ⟨At,hA⟩:∃ A,showS (Hk:Int) [] [] []=A:=⟨_,rfl⟩
     rw [hA]
     rw [hA] at HA
     dsimp only [bA]
     have HR4:=Lib.hid (HBR2.out.below hn4)
     have HO4:=Lib.hid (Oth.nx (b:=gm) (HN2.out.trans hn4))
     have HM4:=Lib.hid (HS2.out.mp.nx hn4)
     clear hA HSH hn4
     have r0:w4.cell? ⟨g2,0,none⟩=some (.string ⟨#[]⟩):=HR4.out.cell 0
     have r1:w4.cell? ⟨g2,1,none⟩=some (.int .i64 0):=HR4.out.cell 1
     have r2:w4.cell? ⟨g2,2,none⟩=some (.int .i64 0):=HR4.out.cell 2
     have f0:=HR4.out.free 0
     have f1:=HR4.out.free 1
     have f2:=HR4.out.free 2
     go_wp2_with fail
     refine bodyPost_ret (results_c_t rfl _ _ g2 _ _ _ _ rfl (HR4.out.putAll [.string ⟨At.toArray⟩,.int .i64 (Hk:Int),.int .i64 0] rfl).2 (Tryz.underlying82) rfl (by kernel_rfl)) rfl ?_
     have HG:=HG.out
     show AlR _ _ _ _ _
     rw [HA.out]
     exact ⟨rfl,(HO4.out).puts (by omega) [.string ⟨At.toArray⟩,.int .i64 (Hk:Int),.int .i64 0] 0,HM4.out.put3 (g:=g2) (by omega) _ _ _⟩
  ·have q1:decide ((E:Int)=0)=false:=decide_eq_false (by omega)
   have q2:¬ (E:Int)=0:=by omega
   have HA:Hid (resW names files (f+1) vis file t=noAl 2 vis):=by
    unfold Hid resW;rw [if_neg HLN.out,if_pos (by rw [hE];exact h0)]
   have HO2:=Lib.hid (Oth.nx (b:=gm) HN2.out)
   clear hE hH h0 hba2
   have r0:w2.cell? ⟨g2,0,none⟩=some (.string ⟨#[]⟩):=HBR2.out.cell 0
   have r1:w2.cell? ⟨g2,1,none⟩=some (.int .i64 0):=HBR2.out.cell 1
   have r2:w2.cell? ⟨g2,2,none⟩=some (.int .i64 0):=HBR2.out.cell 2
   have f0:=HBR2.out.free 0
   have f1:=HBR2.out.free 1
   have f2:=HBR2.out.free 2
   go_wp2_with fail
   refine bodyPost_ret (results_c_t rfl _ _ g2 _ _ _ _ rfl (HBR2.out.putAll [.string ⟨#[]⟩,.int .i64 0,.int .i64 0] rfl).2 (Tryz.underlying82) rfl (by kernel_rfl)) rfl ?_
   have HG:=HG.out
   show AlR _ _ _ _ _
   rw [HA.out]
   exact ⟨rfl,(HO2.out).puts (by omega) [.string ⟨#[]⟩,.int .i64 0,.int .i64 0] 0,HS2.out.mp.put3 (g:=g2) (by omega) _ _ _⟩
end Go.Proofs.YtpfecpcgdfbekaaGreatDoor
namespace Go.Proofs.YtpfecpcgdfbekaaGreatDoor
open Go.RowKit
set_option maxRecDepth 100000 in
set_option maxHeartbeats 6400000 in
theorem Type_any {w:World} {nA fA:Option Addr} {n nc fc:Nat} {names:List (List UInt8)} {files:List Fil} (hl:Ldn w nA fA n nc fc names files) (hm:MaxC w) (ht:TabK w) (file t:List UInt8) (h99:(resW names files 60 [] file t).e≠99) :
  Calls Tryz.prog 12 #[.agg #[.slice nA n nc,.slice fA n fc],.string ⟨file.toArray⟩,.string ⟨t.toArray⟩] w fun e w'=>e = .returned (.tuple #[.string ⟨(typP names files file t).1.toArray⟩,.int .i64 ((typP names files file t).2.1:Int),.int .i64 ((typP names files file t).2.2:Int)])∧Nx w w':=by
 obtain ⟨A,hA⟩:∃ A,resW names files 60 [] file t=A:=⟨_,rfl⟩
 have HTP:Hid (typP names files file t=if A.e≠0 then ([],0,A.e) else if 12<A.r.d then ([],0,6) else (A.r.tx,A.r.k,0)):=by unfold Hid typP;rw [hA]
 have HA:=Lib.hid hA
 obtain ⟨g1,hg1⟩:∃ g,w.heap.size=g:=⟨_,rfl⟩
 obtain ⟨gm,hgm⟩:∃ g,g1+1=g:=⟨_,rfl⟩
 obtain ⟨g3,hg3⟩:∃ g,gm+1=g:=⟨_,rfl⟩
 obtain ⟨w1,hw1⟩:∃ x,w.alloc (.cells #[.slice nA n nc,.slice fA n fc] 39)=x:=⟨_,rfl⟩
 have hz1:w1.heap.size=gm:=by rw [← hw1];simp;omega
 obtain ⟨w2,hw2⟩:∃ x,w1.alloc (.map #[] 0)=x:=⟨_,rfl⟩
 have hz2:w2.heap.size=g3:=by rw [← hw2];simp;omega
 obtain ⟨w3,hw3⟩:∃ x,w2.alloc (.cells #[.slice nA n nc,.slice fA n fc,.map (some gm)] 80)=x:=⟨_,rfl⟩
 have hb1:Blk w1 g1 g1 #[.slice nA n nc,.slice fA n fc] 39:=by rw [← hw1,← hg1];exact Blk.new w _ _
 have hb3:Blk w3 g3 g3 #[.slice nA n nc,.slice fA n fc,.map (some gm)] 80:=by rw [← hw3,← hz2];exact Blk.new w2 _ _
 have hn1:Nx w w1:=by rw [← hw1];exact nx0 _ _
 have hn2:Nx w1 w2:=by rw [← hw2];exact nx0 _ _
 have hn3:Nx w2 w3:=by rw [← hw3];exact nx0 _ _
 have hmp:MpG kvA vvA okA w2 gm ([]:Vis):=by rw [← hw2,← hz1];exact MpG.nil_ kvA vvA okA w1
 have hs3:AlS w w3 gm []:=⟨(hn1.trans hn2).trans hn3,by omega,hmp.nx hn3⟩
 have HS3:=Lib.hid hs3
 have HRC:=Lib.hid (resolve_any hl hm ht 60 w3 [] file t hs3 h99)
 have a0:w1.cell? ⟨g1,0,none⟩=some (.slice nA n nc):=hb1.cell 0
 have a1:w1.cell? ⟨g1,1,none⟩=some (.slice fA n fc):=hb1.cell 1
 have c0:w3.cell? ⟨g3,0,none⟩=some (.slice nA n nc):=hb3.cell 0
 have c1:w3.cell? ⟨g3,1,none⟩=some (.slice fA n fc):=hb3.cell 1
 have c2:w3.cell? ⟨g3,2,none⟩=some (.map (some gm)):=hb3.cell 2
 have hmm:=@run_makeMap Tryz.prog
 clear hl hm ht h99 hA hb1 hb3 hn1 hn2 hn3 hmp hs3
 go_enter Tryz.func12,Tryz.ntmps12
 go_upto_region 1 with (fail)
 try rw [hw1]
 go_upto_region 2 with (fail)
 try rw [hw3]
 clear hw1 hw2 hw3 hg1 hgm hg3 hz1 hz2
 go_wp2_with fail
 refine HRC.out.mono ?_;rw [HA.out];rintro e w4 ⟨rfl,ho4,hm4⟩
 obtain ⟨Ae,⟨At,Ak,Ad⟩,Av⟩:=A
 unfold rsL
 dsimp only at *
 obtain ⟨g5,hg5⟩:∃ g,w4.heap.size=g:=⟨_,rfl⟩
 obtain ⟨w5,hw5⟩:∃ x,w4.alloc (.cells #[.string ⟨At.toArray⟩,.int .i64 (Ak:Int),.int .i64 (Ad:Int)] 82)=x:=⟨_,rfl⟩
 have hb5:Blk w5 g5 g5 #[.string ⟨At.toArray⟩,.int .i64 (Ak:Int),.int .i64 (Ad:Int)] 82:=by rw [← hw5,← hg5];exact Blk.new w4 _ _
 have hn5:Nx w4 w5:=by rw [← hw5];exact nx0 _ _
 have HN5:=Lib.hid ((ho4.to HS3.out.nx HS3.out.ge).trans hn5)
 have d0:w5.cell? ⟨g5,0,none⟩=some (.string ⟨At.toArray⟩):=hb5.cell 0
 have d1:w5.cell? ⟨g5,1,none⟩=some (.int .i64 (Ak:Int)):=hb5.cell 1
 have d2:w5.cell? ⟨g5,2,none⟩=some (.int .i64 (Ad:Int)):=hb5.cell 2
 clear a0 a1 c0 c1 c2 hm4 ho4 hn5 hb5
 by_cases h0:Ae=0
 ·subst h0
  by_cases hd:12<Ad
  ·have q1:decide ((12:Int)<(Ad:Int))=true:=decide_eq_true (by omega)
   have q2:(12:Int)<(Ad:Int):=by omega
   have HE:Hid (typP names files file t=([],0,6)):=by unfold Hid;rw [HTP.out,if_neg (by decide),if_pos hd]
   clear hd
   go_wp2_with fail
   go_ret3
   rw [HE.out]
   exact ⟨rfl,HN5.out⟩
  ·have q1:decide ((12:Int)<(Ad:Int))=false:=decide_eq_false (by omega)
   have q2:¬ (12:Int)<(Ad:Int):=by omega
   have HE:Hid (typP names files file t=(At,Ak,0)):=by unfold Hid;rw [HTP.out,if_neg (by decide),if_neg hd]
   clear hd
   go_upto_region 7 with (fail)
   try rw [hw5]
   clear hw5 hg5
   go_region
   all_goals
    go_wp2_with fail
    go_ret3
    rw [HE.out]
    exact ⟨rfl,HN5.out.trans (Nx.drawn _)⟩
 ·have q1:decide ((Ae:Int)=0)=false:=decide_eq_false (by omega)
  have q2:¬ (Ae:Int)=0:=by omega
  have HE:Hid (typP names files file t=([],0,Ae)):=by unfold Hid;rw [HTP.out,if_pos h0]
  clear h0
  go_wp2_with fail
  go_ret3
  rw [HE.out]
  exact ⟨rfl,HN5.out⟩
def keyP (names:List (List UInt8)) (files:List Fil) (whole:List UInt8):Bool :=
 decide ((typP names files (whole.take (partN whole)) whole).2.2=0) && decide ((typP names files (whole.take (partN whole)) whole).1=whole) && isK (typP names files (whole.take (partN whole)) whole).2.1
set_option maxRecDepth 100000 in
set_option maxHeartbeats 6400000 in
theorem Key_any {w:World} {nA fA:Option Addr} {n nc fc:Nat} {names:List (List UInt8)} {files:List Fil} (hl:Ldn w nA fA n nc fc names files) (hm:MaxC w) (ht:TabK w) (t:List UInt8) (hlen:t.length≤8000) (h99:(resW names files 60 [] (t.take (partN t)) t).e≠99) :
  Calls Tryz.prog 13 #[.agg #[.slice nA n nc,.slice fA n fc],.string ⟨t.toArray⟩] w fun e w'=>e = .returned (.bool (keyP names files t))∧Nx w w':=by
 obtain ⟨g1,hg1⟩:∃ g,w.heap.size=g:=⟨_,rfl⟩
 obtain ⟨w1,hw1⟩:∃ x,w.alloc (.cells #[.slice nA n nc,.slice fA n fc] 39)=x:=⟨_,rfl⟩
 have hb1:Blk w1 g1 g1 #[.slice nA n nc,.slice fA n fc] 39:=by rw [← hw1,← hg1];exact Blk.new w _ _
 have hn1:Nx w w1:=by rw [← hw1];exact nx0 _ _
 obtain ⟨m,hmv⟩:=hm.nx hn1
 have HCT:=Lib.hid (Tryz.strings_Cut ⟨t.toArray⟩ ⟨#[46]⟩ m w1 (by simp [ByteArray.size];omega) hmv)
 obtain ⟨H,hH⟩:∃ H,t.take (partN t)=H:=⟨_,rfl⟩
 obtain ⟨⟨X1,X2,X3⟩,hX⟩:∃ X,Lib.cut t [46]=X:=⟨_,rfl⟩
 have hX2:Lib.cut (ByteArray.mk t.toArray).data.toList (ByteArray.mk #[46]).data.toList=(X1,X2,X3):=hX
 rw [hX2] at HCT
 obtain rfl:H=X1:=by rw [cut_dot] at hX;rw [← hH];exact (Prod.mk.inj hX).1
 clear hX hX2
 obtain ⟨⟨Pt,Pk,Pe⟩,hP⟩:∃ P,typP names files H t=P:=⟨_,rfl⟩
 have HKP:Hid (keyP names files t=(decide (Pe=0) && decide (Pt=t) && isK Pk)):=by unfold Hid keyP;rw [hH,hP]
 have HKB:Hid (Pk≤100):=by
  unfold Hid
  have hb:=resW_rs names files 60 [] H t
  simp only [rsB,Bool.and_eq_true,decide_eq_true_eq] at hb
  have e:Pk=(typP names files H t).2.1:=by rw [hP]
  rw [e];unfold typP
  split
  ·exact Nat.zero_le _
  ·split
   ·exact Nat.zero_le _
   ·exact hb.1.2
 have HL:=Lib.hid hl
 have HMX:=Lib.hid hm
 have HT:=Lib.hid ht
 have HHH:=Lib.hid hH
 have HPP:=Lib.hid hP
 have H99:Hid ((resW names files 60 [] H t).e≠99):=by unfold Hid;rw [← hH];exact h99
 have HN1:=Lib.hid hn1
 have HB1:=Lib.hid hb1
 clear hl hm ht h99 hH hP hb1 hn1 hmv
 go_enter Tryz.func13,Tryz.ntmps13
 go_upto_region 1 with (fail)
 try rw [hw1]
 clear hw1 hg1
 go_wp2_with fail
 refine HCT.out.mono ?_;rintro e w2 ⟨rfl,k2,rfl⟩
 dsimp only
 have HN2:=Lib.hid (HN1.out.trans ((Nx.refl w1).dr k2))
 have HB2:=Lib.hid (HB1.out.below ((Nx.refl w1).dr k2))
 generalize w1.drewN k2=w2 at *
 have c0:w2.cell? ⟨g1,0,none⟩=some (.slice nA n nc):=HB2.out.cell 0
 have c1:w2.cell? ⟨g1,1,none⟩=some (.slice fA n fc):=HB2.out.cell 1
 have HTY:=Lib.hid (Type_any (HL.out.nx HN2.out) (HMX.out.nx HN2.out) (HT.out.nx HN2.out) H t H99.out)
 go_wp2_with fail
 refine HTY.out.mono ?_;rw [HPP.out];rintro e w3 ⟨rfl,hn3⟩
 have HN3:=Lib.hid (HN2.out.trans hn3)
 dsimp only
 clear c0 c1 hn3 HTY HCT
 by_cases h0:Pe=0
 ·subst h0
  by_cases ht:Pt=t
  ·subst ht
   have HIK:=Lib.hid (isKey_any w3 Pk HKB.out)
   go_wp2_with fail
   refine HIK.out.mono ?_;rintro e w9 ⟨rfl,hw9⟩;obtain rfl:w3=w9:=hw9.symm
   go_wp2_with fail
   go_ret
   rw [HKP.out]
   exact ⟨by simp,HN3.out⟩
  ·have q3:decide (Pt=t)=false:=decide_eq_false ht
   have HQ:=Lib.hid ht
   go_wp2_with fail
   go_ret
   rw [HKP.out]
   exact ⟨by simp [HQ.out],HN3.out⟩
 ·have q1:decide ((Pe:Int)=0)=false:=decide_eq_false (by omega)
  have q2:¬ (Pe:Int)=0:=by omega
  have HQ:=Lib.hid h0
  clear h0
  go_wp2_with fail
  go_ret
  rw [HKP.out]
  exact ⟨by simp [HQ.out],HN3.out⟩
end Go.Proofs.YtpfecpcgdfbekaaGreatDoor
