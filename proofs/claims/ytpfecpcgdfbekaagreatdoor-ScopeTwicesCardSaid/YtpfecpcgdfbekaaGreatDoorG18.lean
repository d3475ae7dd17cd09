/- The contracts of the document's parser of members, methods. -/
import Derived.Test.YtpfecpcgdfbekaaGreatDoorG17
set_option linter.unusedVariables false
set_option linter.unusedSimpArgs false
set_option linter.unnecessarySimpa false
namespace Go.Proofs.YtpfecpcgdfbekaaGreatDoor
open Go.RowKit
section
variable {ws:List TokV} {s:PSt}
theorem plain_notclose (hw:WOk ws) {x:UInt8} (hx:ltB x=false) (h:isP ws [x] s=true):atPlainP ws s=false:=by
 have h5:=sign_noname hw hx h
 unfold atPlainP atNameP
 rw [h5];rfl
theorem met_notclose (hw:WOk ws) {x:UInt8} (hx:ltB x=false) (h:isP ws [x] s=true):atMetP ws s=false:=by
 have h5:=sign_noname hw hx h
 unfold atMetP
 rw [noname_type (by omega),show kOneway=111 :: [110,101,119,97,121] from rfl,show kVoid=118 :: [111,105,100] from rfl,noname_word hw (by omega) _ _ (by decide),noname_word hw (by omega) _ _ (by decide)]
 rfl
end
section
variable {w:World} {b c:Nat} {A:Option Addr} {ws:List TokV} {s:PSt}
set_option maxRecDepth 100000 in
set_option maxHeartbeats 25600000 in
theorem dmembers_any (h0:PB w b A c ws s) (L':List Mem) (S2:PSt) (hE:elemsP ws (atPlainP ws) 30 (memP ws) (ws.length+1) [] s=(L',S2)) (s':PSt) (hS:needP ws [125] S2=s') :
  Calls Tryz.prog 79 #[.pointer (some ⟨b,0,none⟩)] w fun e w'=>∃ v L,e = .returned v∧(s'.e=0→L=L')∧LMm w' (Fm w.heap.size) v L∧PB w' b A c ws s'∧Oth b w w':=by
 have HOK:Hid (WOk ws):=h0.ok
 have HLP0:Hid (Lp ws (atPlainP ws) 30 (memP ws) (needP ws [125]) s' L' [] s):=Lp.start (by rw [hE];exact hS) (fun _=>by rw [hE])
 have HFE:Hid (∀ s:PSt,s.e≠0→needP ws [125] s=s):=fun s h=>er_need h
 have HPE:Hid (∀ s:PSt,atPlainP ws s=true→s.e=0):=fun s h=>plain_e ws h
 have HPR:Hid (Prog ws (atPlainP ws) (memP ws)):=prog_mem ws
 have HI0:Hid (LP LMm b c A ws w s (.slice none 0 0) [] w):=⟨h0,RepL.nil_,Oth.refl _ _,h0.bw⟩
 clear h0 hE hS
 go_enter Tryz.func79,Tryz.ntmps79
 go_upto_block 0 with (fail)
 go_cut [3] (fun v wx=>∃ s1 L,LP LMm b c A ws w s1 v L wx∧Hid (needP ws [125] s1=s')∧Hid (s'.e=0→L=L'))
 case first =>
  go_wp2_with fail
  go_loopw [3] (fun v wr=>∃ (s1:PSt) (acc:List Mem),LP LMm b c A ws w s1 v acc wr∧Hid (Lp ws (atPlainP ws) 30 (memP ws) (needP ws [125]) s' L' acc s1)∧acc.length≤3000 - leftN s1) (fun _ wr=>leftP b wr)
  case atStart=>exact ⟨s,[],HI0.out,HLP0.out,Nat.zero_le _⟩
  case round =>
   obtain ⟨s1,acc,hI,HLP,hn2⟩:=hrel
   have HI:=Lib.hid hI
   obtain ⟨vA,vc,-,rfl,-,-,-,-,-⟩:=hI.ls.sl memA_size
   have c2:=hI.pb.c2
   have HLEFT:=Lib.hid hI.pb.left
   have hlt:=hI.pb.lt
   have hfew:=hI.pb.fin.few
   have HL30:Hid (leftN s1≤3000):=by unfold Hid leftN;split <;> omega
   have haI:(acc.length:Int)≤3000:=by omega
   have HN2:=Lib.hid hn2
   clear hI hn2
   by_cases he:s1.e=0
   ·have b0:((s1.e:Int) == 0)=true:=by rw [he];rfl
    have HE:=Lib.hid he
    obtain ⟨BE,hBE⟩:∃ B,Hid (isP ws [125] s1=B):=⟨_,rfl⟩
    have hw:=now_word (ws:=ws) he
    obtain ⟨⟨tk,tt,tn,td,tp⟩,hT⟩:∃ T,Hid (nowP ws s1=T):=⟨_,rfl⟩
    rw [hT.out] at hw
    have HW:=Lib.hid hw
    clear he hw
    go_wp2_with fail
    refine (dis_any HI.out.pb _ 125 (Tx.of [125]) (by decide) BE hBE.out).mono ?_;rintro e w2 ⟨rfl,hn2⟩
    have HI2:=Lib.hid (HI.out.nx LMm.lasts hn2)
    clear hn2 c2
    cases BE
    ·obtain ⟨PC,hPC⟩:∃ B,Hid (atPlainP ws s1=B):=⟨_,rfl⟩
     obtain ⟨N30,hN30⟩:∃ B,Hid (((acc.length:Int) == 30)=B):=⟨_,rfl⟩
     obtain ⟨QQ,hQQ⟩:∃ B,Hid ((N30 && PC)=B):=⟨_,rfl⟩
     go_upto_region 3 with (fail)
     go_cut [29] (fun v' wx=>∃ w3,w3=wx∧v' = .bool QQ∧LP LMm b c A ws w s1 (.slice vA acc.length vc) acc w3)
     case first =>
      have q30:=hN30.out
      cases N30
      ·obtain rfl:false=QQ:=hQQ.out
       go_wp2_with fail
       go_meet
       case rel=>exact ⟨_,rfl,rfl,HI2.out⟩
      ·obtain rfl:PC=QQ:=hQQ.out
       have F0:∀ w1,(Instr.field 124 (.agg #[.int .i64 (tk:Int),.string ⟨tt.toArray⟩,.int .i64 tn,.int .u64 (td:Int),.int .i64 (tp:Int)]) 0).run Tryz.prog w1 = .ok (.int .i64 (tk:Int)) w1:=fun w1=>(tokF _ _ _ _ _ w1).1
       have F1:∀ w1,(Instr.field 124 (.agg #[.int .i64 (tk:Int),.string ⟨tt.toArray⟩,.int .i64 tn,.int .u64 (td:Int),.int .i64 (tp:Int)]) 1).run Tryz.prog w1 = .ok (.string ⟨tt.toArray⟩) w1:=fun w1=>(tokF _ _ _ _ _ w1).2.1
       have HPP:Hid (PC=(decide (tk=1) && plainP tt)):=by unfold Hid;rw [← hPC.out];unfold atPlainP atNameP;rw [HW.out]
       have HL8:Hid ((tt.length:Int)≤8000):=by have:=now_len HI2.out.pb;rw [hT.out] at this;have h2:(tt.length:Int)≤2000:=this;unfold Hid;omega
       by_cases h1:tk=1
       ·subst h1
        have F0:∀ w1,(Instr.field 124 (.agg #[.int .i64 1,.string ⟨tt.toArray⟩,.int .i64 tn,.int .u64 (td:Int),.int .i64 (tp:Int)]) 0).run Tryz.prog w1 = .ok (.int .i64 1) w1:=fun w1=>(tokF 1 _ _ _ _ w1).1
        have F1:∀ w1,(Instr.field 124 (.agg #[.int .i64 1,.string ⟨tt.toArray⟩,.int .i64 tn,.int .u64 (td:Int),.int .i64 (tp:Int)]) 1).run Tryz.prog w1 = .ok (.string ⟨tt.toArray⟩) w1:=fun w1=>(tokF 1 _ _ _ _ w1).2.1
        have HP2:Hid (plainP tt=PC):=by rw [HPP.out];rfl
        go_wp2_with fail
        refine (dnow_any HI2.out.pb _ _ _ _ _ hT.out).mono ?_;rintro e w3 ⟨rfl,hn3⟩
        have HI3:=Lib.hid (HI2.out.nx LMm.lasts hn3)
        clear hn3
        go_wp2_with fail
        refine (dnow_any HI3.out.pb _ _ _ _ _ hT.out).mono ?_;rintro e w4 ⟨rfl,hn4⟩
        have HI4:=Lib.hid (HI3.out.nx LMm.lasts hn4)
        clear hn4
        go_wp2_with fail
        refine (rplain_any _ _ tt (Tx.of tt) PC HP2.out HL8.out).mono ?_;rintro e w5 ⟨rfl,hn5⟩
        go_wp2_with fail
        go_meet
        case rel=>exact ⟨_,rfl,rfl,HI4.out.nx LMm.lasts hn5⟩
       ·have b1:((tk:Int) == 1)=false:=by rw [beq_eq_false_iff_ne];omega
        obtain rfl:PC=false:=by rw [HPP.out,decide_eq_false h1];rfl
        clear h1
        go_wp2_with fail
        refine (dnow_any HI2.out.pb _ _ _ _ _ hT.out).mono ?_;rintro e w3 ⟨rfl,hn3⟩
        have HI3:=Lib.hid (HI2.out.nx LMm.lasts hn3)
        clear hn3
        go_wp2_with fail
        go_meet
        case rel=>exact ⟨_,rfl,rfl,HI3.out⟩
     case rest =>
     obtain ⟨w3,hw3,rfl,hI3⟩:=hcut
     subst hw3
     have HI3:=Lib.hid hI3
     clear hI3 HI HI2
     cases QQ
     ·have HNO:Hid (acc.length=30→atPlainP ws s1=false):=by
       intro h30
       have h1:=hQQ.out
       rw [← hN30.out,show ((acc.length:Int) == 30)=true by rw [beq_iff_eq];omega] at h1
       rw [hPC.out];exact h1
      have HNP:Hid (atPlainP ws s1=false→(memP ws s1).2=failP 2 s1∧needP ws [125] s1=failP 2 s1):=by
       intro hp
       refine ⟨mem_no hp,?_⟩
       unfold needP;rw [hBE.out];rfl
      obtain ⟨⟨y,sf⟩,hFP⟩:∃ r,Hid (memP ws s1=r):=⟨_,rfl⟩
      have HADV:Hid (sf.e≠0∨s1.i<sf.i):=by have:=adv_mem ws s1 HE.out;rw [hFP.out] at this;exact this
      have HLT6:=Lib.hid (left_step hlt hfew HE.out (show (sepP ws sf).e≠0∨s1.i<(sepP ws sf).i from by
       rcases HADV.out with h | h
       ·exact .inl ((mo_sep ws sf).2 h)
       ·exact .inr (Nat.lt_of_lt_of_le h (mo_sep ws sf).1)))
      have HGO:Hid (∀ y':Mem,(sf.e=0→y'=y)→Lp ws (atPlainP ws) 30 (memP ws) (needP ws [125]) s' L' (acc++[y']) (sepP ws sf)):=fun y' hy=>HLP.out.go hlt HPE.out HFE.out HPR.out HNO.out HNP.out hFP.out y' hy
      have hfp:=hFP.out
      clear HADV HNO HNP hFP hQQ hN30 hPC hBE
      obtain ⟨⟨ln,sa⟩,h4⟩:∃ r,Hid (plainN ws s1=r):=⟨_,rfl⟩
      obtain ⟨B1,hB1⟩:∃ B,Hid (isP ws [61] sa=B):=⟨_,rfl⟩
      have HFP:=Lib.hid hfp
      clear hfp
      go_wp2_with fail
      refine (dplain_any HI3.out.pb ln sa h4.out).mono ?_;rintro e w4 ⟨rfl,hp4,ho4⟩
      have HI4:=Lib.hid (HI3.out.step LMm.lasts hp4 ho4)
      obtain ⟨g,hg⟩:∃ g,w4.heap.size=g:=⟨_,rfl⟩
      have HS1:Hid (SD b c A ws g 153 w4 sa #[.string ⟨ln.toArray⟩,.bool false,.int .i64 0] (w4.alloc (.cells #[.string ⟨ln.toArray⟩,.bool false,.int .i64 0] 153))):=SD.new hp4 hg
      clear hp4 ho4
      go_upto_region 6 with (fail)
      generalize World.alloc w4 _=w5 at *
      clear hg
      go_wp2_with fail
      refine (dskip_any HS1.out.pc _ 61 (Tx.of [61]) (by decide) B1 hB1.out).mono ?_;rintro e w6 ⟨rfl,hp6,ho6⟩
      have HS6:=Lib.hid (HS1.out.step hp6 ho6)
      clear hp6 ho6
      go_upto_if 36 with (fail)
      go_cut [] (fun wx=>∃ (mh:Bool) (mn:Int),SD b c A ws g 153 w4 sf #[.string ⟨ln.toArray⟩,.bool mh,.int .i64 mn] wx∧Hid (sf.e=0→⟨ln,mh,mn⟩=y))
      case first =>
       have hx:=HFP.out
       unfold memP at hx
       dsimp only at hx
       rw [h4.out] at hx
       dsimp only at hx
       rw [hB1.out] at hx
       cases B1
       ·rw [if_neg (by decide)] at hx
        simp only [Prod.mk.injEq] at hx
        obtain ⟨rfl,rfl⟩:=hx
        go_wp2_with fail
        go_meet
        case rel=>exact ⟨false,0,HS6.out,fun _=>rfl⟩
       ·rw [if_pos rfl] at hx
        have hse:sa.e=0:=is_e ws hB1.out
        have hnx:(nextP sa).e=0:=by unfold nextP;rw [if_neg (by simpa using hse)];exact hse
        have HSE:=Lib.hid hnx
        have hw2:=now_word (ws:=ws) hnx
        obtain ⟨⟨uk,ut,un,ud,up⟩,hU⟩:∃ T,Hid (nowP ws (nextP sa)=T):=⟨_,rfl⟩
        rw [hU.out] at hw2
        rw [hw2] at hx
        dsimp only at hx
        have HX:=Lib.hid hx
        have HW2:=Lib.hid hw2
        have HS7:Hid (SD b c A ws g 153 w4 (nextP sa) #[.string ⟨ln.toArray⟩,.bool false,.int .i64 0] w6):=HS6.out
        have c2:=HS7.out.pc.c2
        have q0:(((nextP sa).e:Int) == 0)=true:=by rw [hnx];rfl
        have F0:∀ w1,(Instr.field 124 (.agg #[.int .i64 (uk:Int),.string ⟨ut.toArray⟩,.int .i64 un,.int .u64 (ud:Int),.int .i64 (up:Int)]) 0).run Tryz.prog w1 = .ok (.int .i64 (uk:Int)) w1:=fun w1=>(tokF _ _ _ _ _ w1).1
        have F2:∀ w1,(Instr.field 124 (.agg #[.int .i64 (uk:Int),.string ⟨ut.toArray⟩,.int .i64 un,.int .u64 (ud:Int),.int .i64 (up:Int)]) 2).run Tryz.prog w1 = .ok (.int .i64 un) w1:=fun w1=>(tokF _ _ _ _ _ w1).2.2.1
        clear hx hw2 hse hnx HS6
        obtain ⟨sb,hsb⟩:∃ sb,nextP sa=sb:=⟨_,rfl⟩
        rw [hsb] at HX HW2 HS7 c2 q0 hU HSE
        by_cases h2:uk=2
        ·subst h2
         have F0:∀ w1,(Instr.field 124 (.agg #[.int .i64 2,.string ⟨ut.toArray⟩,.int .i64 un,.int .u64 (ud:Int),.int .i64 (up:Int)]) 0).run Tryz.prog w1 = .ok (.int .i64 2) w1:=fun w1=>(tokF 2 _ _ _ _ w1).1
         have F2:∀ w1,(Instr.field 124 (.agg #[.int .i64 2,.string ⟨ut.toArray⟩,.int .i64 un,.int .u64 (ud:Int),.int .i64 (up:Int)]) 2).run Tryz.prog w1 = .ok (.int .i64 un) w1:=fun w1=>(tokF 2 _ _ _ _ w1).2.2.1
         have hx:=HX.out
         rw [if_pos rfl,HW2.out] at hx
         simp only [Prod.mk.injEq] at hx
         obtain ⟨rfl,rfl⟩:=hx
         have HK:Hid ((nowP ws sb).k≠6):=by unfold Hid;rw [hU.out];show (2:Nat)≠6;decide
         go_wp2_with fail
         refine (dnow_any HS7.out.pc _ _ _ _ _ hU.out).mono ?_;rintro e w8 ⟨rfl,hn8⟩
         have HS8:=Lib.hid (HS7.out.nx hn8)
         clear hn8
         go_wp2_with fail
         refine (dnow_any HS8.out.pc _ _ _ _ _ hU.out).mono ?_;rintro e w9 ⟨rfl,hn9⟩
         have hs9:=HS8.out.nx hn9
         have c1:w9.cell? ⟨g,1,none⟩=some (.bool false):=hs9.ce 1
         have cc2:w9.cell? ⟨g,2,none⟩=some (.int .i64 0):=hs9.ce 2
         have f1:=hs9.fr 1
         have f2:=hs9.fr 2
         have HS9:Hid (SD b c A ws g 153 w4 sb #[.string ⟨ln.toArray⟩,.bool true,.int .i64 un] ((w9.setCell ⟨g,1,none⟩ (.bool true)).setCell ⟨g,2,none⟩ (.int .i64 un))):=(hs9.put 1 _ rfl).put 2 _ rfl
         clear hn9 hs9
         go_upto_region 10 with (fail)
         generalize World.setCell (World.setCell w9 _ _) _ _=w10 at *
         clear c1 cc2 f1 f2
         go_wp2_with fail
         refine (dnext_any HS9.out.pc HSE.out HK.out).mono ?_;rintro e w11 ⟨rfl,hp11,ho11⟩
         have HS11:=Lib.hid (HS9.out.step hp11 ho11)
         clear hp11 ho11
         go_wp2_with fail
         go_meet
         case rel=>exact ⟨true,un,HS11.out,fun _=>rfl⟩
        ·have b2:((uk:Int) != 2)=true:=by rw [bne_iff_ne];omega
         have hx:=HX.out
         rw [if_neg h2] at hx
         simp only [Prod.mk.injEq] at hx
         obtain ⟨hy,hsf⟩:=hx
         rw [er_next (fail2_e sb)] at hsf
         subst hsf
         clear h2 hy
         go_wp2_with fail
         refine (dnow_any HS7.out.pc _ _ _ _ _ hU.out).mono ?_;rintro e w8 ⟨rfl,hn8⟩
         have HS8:=Lib.hid (HS7.out.nx hn8)
         clear hn8
         go_wp2_with fail
         refine (dfail_any HS8.out.pc 2 (by decide) (by decide)).mono ?_;rintro e w9 ⟨rfl,hp9,ho9⟩
         have HS9:=Lib.hid (HS8.out.step hp9 ho9)
         clear hp9 ho9
         go_wp2_with fail
         go_meet
         case rel=>exact ⟨false,0,HS9.out,fun h=>absurd h (fail2_e sb)⟩
      case rest =>
      obtain ⟨mh,mn,hs15,HYC⟩:=hcut
      have HS15:=Lib.hid hs15
      clear hs15 HS1 HS6
      go_wp2_with fail
      refine (dpart_any HS15.out.pc _ rfl).mono ?_;rintro e w16 ⟨rfl,hp16,ho16⟩
      have hs16:=HS15.out.step hp16 ho16
      have HI16:=Lib.hid (HI4.out.step LMm.lasts hs16.pc hs16.ot)
      have HOWN:Hid (∀ k,(Value.slice vA acc.length vc).ownBlock=some k→w.heap.size≤k∧k<w4.heap.size):=fun k e=>RepL.own_lt HI4.out.ls k e
      have d0:w16.cell? ⟨g,0,none⟩=some (.string ⟨ln.toArray⟩):=hs16.ce 0
      have d1:w16.cell? ⟨g,1,none⟩=some (.bool mh):=hs16.ce 1
      have d2:w16.cell? ⟨g,2,none⟩=some (.int .i64 mn):=hs16.ce 2
      have HONE:Hid (∀ u ∈ (memA ⟨ln,mh,mn⟩).toList,u.oneCell'=true):=fun u hu=>by
       simp [memA,bt] at hu
       rcases hu with rfl | rfl | rfl <;> rfl
      have HSZ:Hid (w.heap.size≤w16.heap.size):=HI16.out.ot.size
      have HHB:Hid (b<w.heap.size):=HI4.out.hb
      clear hp16 ho16 hs16 HS15 HI3 HI4
      go_wp2_with (at_builtin;go_must (refine wpList_appL _ REq.lasts infoM Tryz.underlying53 rfl (by decide) (by decide) memA_size rfl _ _ rfl w.heap.size b (.slice vA acc.length vc) acc ⟨ln,mh,mn⟩ ⟨ln,mh,mn⟩ rfl (RepL.nx REq.lasts HI16.out.ls (nx0 _ _)) HONE.out _ rfl (fun j hj=>cell_newP (by simp)) rfl (by omega) (Nat.le_trans HSZ.out (nx0 _ _).size) HHB.out ?_;intro v2 w17 hl2 hf2 hk2;have HL2:=Lib.hid hl2;have HF2:=Lib.hid hf2;have HK2:=Lib.hid hk2;clear hl2 hf2 hk2))
      have HI17:=Lib.hid ((HI16.out.nx LMm.lasts (nx0 _ _)).app HL2.out (fun k e=>(HOWN.out k e).1) HF2.out HK2.out)
      go_roundw
      case rel =>
       refine ⟨sepP ws sf,acc++[⟨ln,mh,mn⟩],HI17.out,HGO.out _ HYC.out,?_⟩
       have:=HLT6.out
       have:=HL30.out
       have:=HN2.out
       rw [List.length_append]
       simp
       omega
      case measure=>rw [HI17.out.pb.left,HLEFT.out];exact HLT6.out
     ·have h1:N30=true∧PC=true:=by have:=hQQ.out;simpa using this
      obtain ⟨rfl,rfl⟩:=h1
      have h30:acc.length=30:=by have:=hN30.out;rw [beq_iff_eq] at this;omega
      have HOV:=Lib.hid (HLP.out.over hlt HPE.out HFE.out h30 hPC.out)
      clear hQQ hN30 h30
      go_wp2_with fail
      refine (dfail_any HI3.out.pb 4 (by decide) (by decide)).mono ?_;rintro e w4 ⟨rfl,hp4,ho4⟩
      have HI4:=Lib.hid (HI3.out.step LMm.lasts hp4 ho4)
      clear hp4 ho4
      go_wp2_with fail
      go_meet
      case rel =>
       have h4:(failP 4 s1).e≠0:=fail_ne 4 (by decide) s1
       exact ⟨_,_,HI4.out,by unfold Hid;rw [er_need h4];exact HOV.out,fun h=>absurd (HOV.out ▸ h) h4⟩
    ·have HEND:=Lib.hid (HLP.out.end_ (plain_notclose HOK.out (by decide) hBE.out))
     go_wp2_with fail
     go_meet
     case rel=>exact ⟨_,_,HI2.out,HEND.out.1,HEND.out.2⟩
   ·have b0:((s1.e:Int) == 0)=false:=by rw [beq_eq_false_iff_ne];omega
    have HEND:=Lib.hid (HLP.out.stop HPE.out he)
    clear he
    go_wp2_with fail
    go_meet
    case rel=>exact ⟨_,_,HI.out,HEND.out.1,HEND.out.2⟩
 case rest =>
 obtain ⟨s1,L,hI,HN1,HL1⟩:=hcut
 have HI:=Lib.hid hI
 clear hI
 go_wp2_with fail
 refine (dneed_any HI.out.pb _ 125 (Tx.of [125]) (by decide) s' HN1.out).mono ?_;rintro e w4 ⟨rfl,hp4,ho4⟩
 have HI4:=Lib.hid (HI.out.step LMm.lasts hp4 ho4)
 clear hp4 ho4
 go_wp2_with fail
 go_ret
 exact ⟨_,L,rfl,HL1.out,HI4.out.ls,HI4.out.pb,HI4.out.ot⟩
set_option maxRecDepth 100000 in
set_option maxHeartbeats 25600000 in
theorem dmethods_any (h0:PB w b A c ws s) (L':List Met) (S2:PSt) (hE:elemsP ws (atMetP ws) 30 (metP ws) (ws.length+1) [] s=(L',S2)) (s':PSt) (hS:needP ws [125] S2=s') :
  Calls Tryz.prog 81 #[.pointer (some ⟨b,0,none⟩)] w fun e w'=>∃ v L,e = .returned v∧(s'.e=0→L=L')∧LM w' (Fm w.heap.size) v L∧PB w' b A c ws s'∧Oth b w w':=by
 have HOK:Hid (WOk ws):=h0.ok
 have HLP0:Hid (Lp ws (atMetP ws) 30 (metP ws) (needP ws [125]) s' L' [] s):=Lp.start (by rw [hE];exact hS) (fun _=>by rw [hE])
 have HFE:Hid (∀ s:PSt,s.e≠0→needP ws [125] s=s):=fun s h=>er_need h
 have HPE:Hid (∀ s:PSt,atMetP ws s=true→s.e=0):=fun s h=>met_e ws h
 have HPR:Hid (Prog ws (atMetP ws) (metP ws)):=prog_met ws
 have HI0:Hid (LP LM b c A ws w s (.slice none 0 0) [] w):=⟨h0,RepL.nil_,Oth.refl _ _,h0.bw⟩
 have HTY:Hid (∀ (w:World) (s:PSt),PB w b A c ws s→∀ (l:List UInt8) (s':PSt),typeP ws 12 s=(l,s') →
   Calls Tryz.prog 75 #[.pointer (some ⟨b,0,none⟩),.int .i64 1] w fun e w'=>e = .returned (.string ⟨l.toArray⟩)∧PB w' b A c ws s'∧Oth b w w'):=fun w s h l s' hr=>dtyp_any h l s' hr
 clear h0 hE hS
 go_enter Tryz.func81,Tryz.ntmps81
 go_upto_block 0 with (fail)
 go_cut [3] (fun v wx=>∃ s1 L,LP LM b c A ws w s1 v L wx∧Hid (needP ws [125] s1=s')∧Hid (s'.e=0→L=L'))
 case first =>
  go_wp2_with fail
  go_loopw [3] (fun v wr=>∃ (s1:PSt) (acc:List Met),LP LM b c A ws w s1 v acc wr∧Hid (Lp ws (atMetP ws) 30 (metP ws) (needP ws [125]) s' L' acc s1)∧acc.length≤3000 - leftN s1) (fun _ wr=>leftP b wr)
  case atStart=>exact ⟨s,[],HI0.out,HLP0.out,Nat.zero_le _⟩
  case round =>
   obtain ⟨s1,acc,hI,HLP,hn2⟩:=hrel
   have HI:=Lib.hid hI
   obtain ⟨vA,vc,-,rfl,-,-,-,-,-⟩:=hI.ls.sl metA_size
   have c2:=hI.pb.c2
   have HLEFT:=Lib.hid hI.pb.left
   have hlt:=hI.pb.lt
   have hfew:=hI.pb.fin.few
   have HL30:Hid (leftN s1≤3000):=by unfold Hid leftN;split <;> omega
   have haI:(acc.length:Int)≤3000:=by omega
   have HN2:=Lib.hid hn2
   clear hI hn2
   by_cases he:s1.e=0
   ·have b0:((s1.e:Int) == 0)=true:=by rw [he];rfl
    have HE:=Lib.hid he
    obtain ⟨BE,hBE⟩:∃ B,Hid (isP ws [125] s1=B):=⟨_,rfl⟩
    have hw:=now_word (ws:=ws) he
    obtain ⟨⟨tk,tt,tn,td,tp⟩,hT⟩:∃ T,Hid (nowP ws s1=T):=⟨_,rfl⟩
    rw [hT.out] at hw
    have HW:=Lib.hid hw
    clear he hw
    go_wp2_with fail
    refine (dis_any HI.out.pb _ 125 (Tx.of [125]) (by decide) BE hBE.out).mono ?_;rintro e w2 ⟨rfl,hn2⟩
    have HI2:=Lib.hid (HI.out.nx LM.lasts hn2)
    clear hn2 c2
    cases BE
    ·obtain ⟨PC,hPC⟩:∃ B,Hid (atMetP ws s1=B):=⟨_,rfl⟩
     obtain ⟨N30,hN30⟩:∃ B,Hid (((acc.length:Int) == 30)=B):=⟨_,rfl⟩
     obtain ⟨QQ,hQQ⟩:∃ B,Hid ((N30 && PC)=B):=⟨_,rfl⟩
     go_upto_region 3 with (fail)
     go_cut [29] (fun v' wx=>∃ w3,w3=wx∧v' = .bool QQ∧LP LM b c A ws w s1 (.slice vA acc.length vc) acc w3)
     case first =>
      have q30:=hN30.out
      cases N30
      ·obtain rfl:false=QQ:=hQQ.out
       go_wp2_with fail
       go_meet
       case rel=>exact ⟨_,rfl,rfl,HI2.out⟩
      ·obtain rfl:PC=QQ:=hQQ.out
       obtain ⟨B1,hB1⟩:∃ B,Hid (isP ws kOneway s1=B):=⟨_,rfl⟩
       obtain ⟨B2,hB2⟩:∃ B,Hid (isP ws kVoid s1=B):=⟨_,rfl⟩
       obtain ⟨B3,hB3⟩:∃ B,Hid (atTypeP ws s1=B):=⟨_,rfl⟩
       have HBB:Hid ((B1 || B2 || B3)=PC):=by unfold Hid;rw [← hPC.out];unfold atMetP;rw [hB1.out,hB2.out,hB3.out]
       go_wp2_with fail
       refine (dword_any HI2.out.pb _ 111 [110,101,119,97,121] (Tx.of kOneway) (by decide) B1 hB1.out).mono ?_;rintro e w4 ⟨rfl,hn4⟩
       have HI4:=Lib.hid (HI2.out.nx LM.lasts hn4)
       clear hn4
       cases B1
       ·go_wp2_with fail
        refine (dword_any HI4.out.pb _ 118 [111,105,100] (Tx.of kVoid) (by decide) B2 hB2.out).mono ?_;rintro e w5 ⟨rfl,hn5⟩
        have HI5:=Lib.hid (HI4.out.nx LM.lasts hn5)
        clear hn5
        cases B2
        ·obtain rfl:B3=PC:=HBB.out
         go_wp2_with fail
         refine (dtyped_any HI5.out.pb HE.out B3 hB3.out).mono ?_;rintro e w6 ⟨rfl,hn6⟩
         go_wp2_with fail
         go_meet
         case rel=>exact ⟨_,rfl,rfl,HI5.out.nx LM.lasts hn6⟩
        ·obtain rfl:true=PC:=HBB.out
         go_wp2_with fail
         go_meet
         case rel=>exact ⟨_,rfl,rfl,HI5.out⟩
       ·obtain rfl:true=PC:=HBB.out
        go_wp2_with fail
        go_meet
        case rel=>exact ⟨_,rfl,rfl,HI4.out⟩
     case rest =>
     obtain ⟨w3,hw3,rfl,hI3⟩:=hcut
     subst hw3
     have HI3:=Lib.hid hI3
     clear hI3 HI HI2
     cases QQ
     ·have HNO:Hid (acc.length=30→atMetP ws s1=false):=by
       intro h30
       have h1:=hQQ.out
       rw [← hN30.out,show ((acc.length:Int) == 30)=true by rw [beq_iff_eq];omega] at h1
       rw [hPC.out];exact h1
      have HNP:Hid (atMetP ws s1=false→(metP ws s1).2=failP 2 s1∧needP ws [125] s1=failP 2 s1):=by
       intro hp
       refine ⟨met_no HOK.out hp,?_⟩
       unfold needP;rw [hBE.out];rfl
      obtain ⟨⟨y,sf⟩,hFP⟩:∃ r,Hid (metP ws s1=r):=⟨_,rfl⟩
      have HADV:Hid (sf.e≠0∨s1.i<sf.i):=by have:=adv_met ws s1 HE.out;rw [hFP.out] at this;exact this
      have HLT6:=Lib.hid (left_step hlt hfew HE.out (show (sepP ws sf).e≠0∨s1.i<(sepP ws sf).i from by
       rcases HADV.out with h | h
       ·exact .inl ((mo_sep ws sf).2 h)
       ·exact .inr (Nat.lt_of_lt_of_le h (mo_sep ws sf).1)))
      have HGO:Hid (∀ y':Met,(sf.e=0→y'=y)→Lp ws (atMetP ws) 30 (metP ws) (needP ws [125]) s' L' (acc++[y']) (sepP ws sf)):=fun y' hy=>HLP.out.go hlt HPE.out HFE.out HPR.out HNO.out HNP.out hFP.out y' hy
      have hfp:=hFP.out
      clear HADV HNO HNP hFP hQQ hN30 hPC hBE
      obtain ⟨B1,hB1⟩:∃ B,Hid (isP ws kOneway s1=B):=⟨_,rfl⟩
      obtain ⟨sa,hsa⟩:∃ sa,Hid ((if B1 then nextP s1 else s1)=sa):=⟨_,rfl⟩
      obtain ⟨B2,hB2⟩:∃ B,Hid (isP ws kVoid sa=B):=⟨_,rfl⟩
      obtain ⟨⟨lt,sb⟩,h3⟩:∃ r,Hid ((if B2 then (kVoid,nextP sa) else typeP ws 12 sa)=r):=⟨_,rfl⟩
      obtain ⟨⟨ln,sc⟩,h4⟩:∃ r,Hid (plainN ws sb=r):=⟨_,rfl⟩
      obtain ⟨⟨la,sd⟩,h5⟩:∃ r,Hid (elemsP ws (atFieldP ws) 30 (fieldP ws) (ws.length+1) [] (needP ws [40] sc)=r):=⟨_,rfl⟩
      obtain ⟨se,h6⟩:∃ se,Hid (needP ws [41] sd=se):=⟨_,rfl⟩
      obtain ⟨B5,hB5⟩:∃ B,Hid (isP ws kThrows se=B):=⟨_,rfl⟩
      obtain ⟨⟨lh,sg⟩,h7⟩:∃ r,Hid (elemsP ws (atFieldP ws) 30 (fieldP ws) (ws.length+1) [] (needP ws [40] (nextP se))=r):=⟨_,rfl⟩
      obtain ⟨⟨lhx,sgx⟩,h8⟩:∃ r,Hid ((if B5 then (lh,needP ws [41] sg) else ([],se))=r):=⟨_,rfl⟩
      have hxx:((⟨ln,B1,lt,la,lhx⟩:Met),sgx)=(y,sf):=by
       rw [← hfp]
       unfold metP takeP
       dsimp only
       rw [hB1.out,hsa.out,hB2.out]
       have h3':(if B2=true then ((wordP ws sa).t,nextP sa) else typeP ws 12 sa)=(lt,sb):=by
        rw [← h3.out]
        cases hb2:B2
        ·rfl
        ·have h:=hB2.out
         rw [hb2,show kVoid=118 :: [111,105,100] from rfl,is_word HOK.out 118 [111,105,100] (by decide)] at h
         simp only [Bool.and_eq_true,decide_eq_true_eq] at h
         rw [h.2];rfl
       rw [h3']
       dsimp only
       rw [h4.out]
       unfold fieldsP
       dsimp only
       rw [h5.out]
       dsimp only
       have e6:=h6.out
       subst e6
       rw [hB5.out,h7.out]
       dsimp only
       rw [h8.out]
      simp only [Prod.mk.injEq] at hxx
      obtain ⟨hy0,hsf⟩:=hxx
      subst hsf
      have HY0:=Lib.hid hy0
      clear hfp hy0
      generalize typeP ws 12=tp' at *
      go_wp2_with fail
      refine (dtook_any HI3.out.pb _ 111 [110,101,119,97,121] (Tx.of kOneway) (by decide) B1 hB1.out).mono ?_;rintro e w4 ⟨rfl,hp4,ho4⟩
      have hp4':=hp4.eq hsa.out
      have HI4:=Lib.hid (HI3.out.step LM.lasts hp4' ho4)
      obtain ⟨g,hg⟩:∃ g,w4.heap.size=g:=⟨_,rfl⟩
      have HS1:Hid (SD b c A ws g 180 w4 sa #[.string ⟨#[]⟩,.bool B1,.string ⟨#[]⟩,.slice none 0 0,.slice none 0 0] (w4.alloc (.cells #[.string ⟨#[]⟩,.bool B1,.string ⟨#[]⟩,.slice none 0 0,.slice none 0 0] 180))):=SD.new hp4' hg
      clear hp4 hp4' ho4
      go_upto_region 6 with (fail)
      generalize World.alloc w4 _=w5 at *
      clear hg
      go_wp2_with fail
      refine (dtook_any HS1.out.pc _ 118 [111,105,100] (Tx.of kVoid) (by decide) B2 hB2.out).mono ?_;rintro e w6 ⟨rfl,hp6,ho6⟩
      have HS6:=Lib.hid (HS1.out.step hp6 ho6)
      clear hp6 ho6
      go_upto_if 36 with (fail)
      go_cut [] (fun wx=>SD b c A ws g 180 w4 sb #[.string ⟨#[]⟩,.bool B1,.string ⟨lt.toArray⟩,.slice none 0 0,.slice none 0 0] wx)
      case first =>
       have hx:=h3.out
       cases B2
       ·rw [if_neg (by decide)] at hx
        have HXT:=Lib.hid hx
        have HS6':Hid (SD b c A ws g 180 w4 sa #[.string ⟨#[]⟩,.bool B1,.string ⟨#[]⟩,.slice none 0 0,.slice none 0 0] w6):=HS6.out
        clear hx
        go_wp2_with fail
        refine (HTY.out _ _ HS6'.out.pc lt sb HXT.out).mono ?_;rintro e w7 ⟨rfl,hp7,ho7⟩
        have HS7:=Lib.hid (HS6'.out.step hp7 ho7)
        have c2:w7.cell? ⟨g,2,none⟩=some (.string ⟨#[]⟩):=HS7.out.ce 2
        have f2:=HS7.out.fr 2
        clear hp7 ho7
        go_wp2_with fail
        go_meet
        case rel=>exact HS7.out.put 2 _ rfl
       ·rw [if_pos rfl] at hx
        simp only [Prod.mk.injEq] at hx
        obtain ⟨rfl,rfl⟩:=hx
        have c2:w6.cell? ⟨g,2,none⟩=some (.string ⟨#[]⟩):=HS6.out.ce 2
        have f2:=HS6.out.fr 2
        go_wp2_with fail
        go_meet
        case rel=>exact HS6.out.put 2 _ rfl
      case rest =>
      have HS8:=Lib.hid hcut
      clear hcut HS1 HS6
      go_wp2_with fail
      refine (dplain_any HS8.out.pc ln sc h4.out).mono ?_;rintro e w9 ⟨rfl,hp9,ho9⟩
      have hs9:=HS8.out.step hp9 ho9
      have c0:w9.cell? ⟨g,0,none⟩=some (.string ⟨#[]⟩):=hs9.ce 0
      have f0:=hs9.fr 0
      have HS9:Hid (SD b c A ws g 180 w4 sc #[.string ⟨ln.toArray⟩,.bool B1,.string ⟨lt.toArray⟩,.slice none 0 0,.slice none 0 0] (w9.setCell ⟨g,0,none⟩ (.string ⟨ln.toArray⟩))):=hs9.put 0 _ rfl
      clear hp9 ho9 hs9 HS8
      go_upto_region 10 with (fail)
      generalize World.setCell w9 _ _=w10 at *
      clear c0 f0
      go_wp2_with fail
      refine (dneed_any HS9.out.pc _ 40 (Tx.of [40]) (by decide) _ rfl).mono ?_;rintro e w11 ⟨rfl,hp11,ho11⟩
      have HS11:=Lib.hid (HS9.out.step hp11 ho11)
      clear hp11 ho11 HS9
      go_wp2_with fail
      refine (dfields_any HS11.out.pc _ 41 (Tx.of [41]) (by decide) la sd h5.out se h6.out).mono ?_;rintro e w12 ⟨va,La,rfl,hla,hlf,hp12,ho12⟩
      obtain ⟨aA,ac,-,rfl,-,-,-,-,-⟩:=hlf.sl fldA_size
      have hs12:=HS11.out.step hp12 ho12
      have HLA:=Lib.hid hla
      have HF12:Hid (LF w12 (Fm (g+1)) (.slice aA La.length ac) La):=LF.lasts (Mv.less (by have:=HS11.out.bl.lt;omega)) hlf
      have c3:w12.cell? ⟨g,3,none⟩=some (.slice none 0 0):=hs12.ce 3
      have f3:=hs12.fr 3
      have HS12:Hid (SD b c A ws g 180 w4 se #[.string ⟨ln.toArray⟩,.bool B1,.string ⟨lt.toArray⟩,.slice aA La.length ac,.slice none 0 0] (w12.setCell ⟨g,3,none⟩ (.slice aA La.length ac))):=hs12.put 3 _ rfl
      have HF13:Hid (LF (w12.setCell ⟨g,3,none⟩ (.slice aA La.length ac)) (Fm (g+1)) (.slice aA La.length ac) La):=LF.lasts (Mv.oth (Oth.set _ _ _ _) (Nat.le_refl _) (Nat.lt_succ_self _)) HF12.out
      clear hp12 ho12 hs12 HS11 hla hlf HF12
      go_upto_region 12 with (fail)
      generalize World.setCell w12 _ _=w13 at *
      clear c3 f3
      go_wp2_with fail
      refine (dtook_any HS12.out.pc _ 116 [104,114,111,119,115] (Tx.of kThrows) (by decide) B5 hB5.out).mono ?_;rintro e w14 ⟨rfl,hp14,ho14⟩
      have HS14:=Lib.hid (HS12.out.step hp14 ho14)
      have HF14:Hid (LF w14 (Fm (g+1)) (.slice aA La.length ac) La):=LF.lasts (Mv.oth ho14 (Nat.le_refl _) (by have:=HS12.out.hb;omega)) HF13.out
      clear hp14 ho14 HS12 HF13
      go_upto_if 50 with (fail)
      go_cut [] (fun wx=>∃ (tA:Option Addr) (tm tc:Nat) (Lh:List Fld),SD b c A ws g 180 w4 sgx #[.string ⟨ln.toArray⟩,.bool B1,.string ⟨lt.toArray⟩,.slice aA La.length ac,.slice tA tm tc] wx∧LF wx (Fm (g+1)) (.slice aA La.length ac) La∧LF wx (Fm (g+1)) (.slice tA tm tc) Lh∧Hid (sgx.e=0→Lh=lhx)∧Hid (sgx.e=0→se.e=0)∧Hid (∀ k1 k2:Nat,(Value.slice aA La.length ac).ownBlock=some k1→(Value.slice tA tm tc).ownBlock=some k2→k1≠k2))
      case first =>
       have hx:=h8.out
       cases B5
       ·rw [if_neg (by decide)] at hx
        simp only [Prod.mk.injEq] at hx
        obtain ⟨rfl,rfl⟩:=hx
        go_wp2_with fail
        go_meet
        case rel=>exact ⟨none,0,0,[],HS14.out,HF14.out,RepL.nil_,fun _=>rfl,fun h=>h,fun k1 k2 _ e=>by cases e⟩
       ·rw [if_pos rfl] at hx
        simp only [Prod.mk.injEq] at hx
        obtain ⟨rfl,hsg⟩:=hx
        have HSG:=Lib.hid hsg
        have HS14':Hid (SD b c A ws g 180 w4 (nextP se) #[.string ⟨ln.toArray⟩,.bool B1,.string ⟨lt.toArray⟩,.slice aA La.length ac,.slice none 0 0] w14):=HS14.out
        have HSE:Hid (se.e=0):=is_e ws hB5.out
        clear hsg
        go_wp2_with fail
        refine (dneed_any HS14'.out.pc _ 40 (Tx.of [40]) (by decide) _ rfl).mono ?_;rintro e w15 ⟨rfl,hp15,ho15⟩
        have HS15:=Lib.hid (HS14'.out.step hp15 ho15)
        have HF15:Hid (LF w15 (Fm (g+1)) (.slice aA La.length ac) La):=LF.lasts (Mv.oth ho15 (Nat.le_refl _) (by have:=HS14'.out.hb;omega)) HF14.out
        clear hp15 ho15
        go_wp2_with fail
        refine (dfields_any HS15.out.pc _ 41 (Tx.of [41]) (by decide) lh sg h7.out sgx HSG.out).mono ?_;rintro e w16 ⟨vt,Lh,rfl,hlh,hlf,hp16,ho16⟩
        obtain ⟨tA,tc,-,rfl,-,-,-,-,-⟩:=hlf.sl fldA_size
        have hs16:=HS15.out.step hp16 ho16
        have HLH:=Lib.hid hlh
        have HF16:Hid (LF w16 (Fm (g+1)) (.slice aA La.length ac) La):=LF.lasts (Mv.oth ho16 (Nat.le_refl _) (by have:=HS15.out.hb;omega)) HF15.out
        have HG16:Hid (LF w16 (Fm (g+1)) (.slice tA Lh.length tc) Lh):=LF.lasts (Mv.less (by have:=HS15.out.bl.lt;omega)) hlf
        have HNE:Hid (∀ k1 k2:Nat,(Value.slice aA La.length ac).ownBlock=some k1→(Value.slice tA Lh.length tc).ownBlock=some k2→k1≠k2):=fun k1 k2 e1 e2=>by
         have h1:=(RepL.own_lt HF15.out k1 e1).2
         have h2:w15.heap.size≤k2:=(RepL.own_lt hlf k2 e2).1
         omega
        have c4:w16.cell? ⟨g,4,none⟩=some (.slice none 0 0):=hs16.ce 4
        have f4:=hs16.fr 4
        have HS16:=Lib.hid hs16
        clear hp16 ho16 hs16 hlh hlf
        go_wp2_with fail
        go_meet
        case rel =>
         have HW:=Oth.set w16 g 4 (.slice tA Lh.length tc)
         exact ⟨tA,Lh.length,tc,Lh,HS16.out.put 4 _ rfl,LF.lasts (Mv.oth HW (Nat.le_refl _) (Nat.lt_succ_self _)) HF16.out,LF.lasts (Mv.oth HW (Nat.le_refl _) (Nat.lt_succ_self _)) HG16.out,HLH.out,fun _=>HSE.out,HNE.out⟩
      case rest =>
      obtain ⟨tA,tm,tc,Lh,hs17,hf17,hg17,HLH,HSE,HNE⟩:=hcut
      have HS17:=Lib.hid hs17
      have HF17:=Lib.hid hf17
      have HG17:=Lib.hid hg17
      clear hs17 hf17 hg17 HS14 HF14
      go_wp2_with fail
      refine (dpart_any HS17.out.pc _ rfl).mono ?_;rintro e w18 ⟨rfl,hp18,ho18⟩
      have hs18:=HS17.out.step hp18 ho18
      have hb18:b<g+1:=by have:=HS17.out.hb;omega
      have HF18:Hid (LF w18 (Fm (g+1)) (.slice aA La.length ac) La):=LF.lasts (Mv.oth ho18 (Nat.le_refl _) hb18) HF17.out
      have HG18:Hid (LF w18 (Fm (g+1)) (.slice tA tm tc) Lh):=LF.lasts (Mv.oth ho18 (Nat.le_refl _) hb18) HG17.out
      have HI18:=Lib.hid (HI4.out.step LM.lasts hs18.pc hs18.ot)
      have HOWN:Hid (∀ k,(Value.slice vA acc.length vc).ownBlock=some k→w.heap.size≤k∧k<w4.heap.size):=fun k e=>RepL.own_lt HI4.out.ls k e
      have d0:w18.cell? ⟨g,0,none⟩=some (.string ⟨ln.toArray⟩):=hs18.ce 0
      have d1:w18.cell? ⟨g,1,none⟩=some (.bool B1):=hs18.ce 1
      have d2:w18.cell? ⟨g,2,none⟩=some (.string ⟨lt.toArray⟩):=hs18.ce 2
      have d3:w18.cell? ⟨g,3,none⟩=some (.slice aA La.length ac):=hs18.ce 3
      have d4:w18.cell? ⟨g,4,none⟩=some (.slice tA tm tc):=hs18.ce 4
      have hto:∀ k:Nat,g+1≤k→But (Fm w.heap.size) (.slice vA acc.length vc) k:=fun k hk=>⟨by have:=hs18.hg;have:=HI4.out.ot.size;show w.heap.size≤k;omega,fun e=>by have:=HOWN.out k e;have:=hs18.hg;omega⟩
      have hey:RM w18 (But (Fm w.heap.size) (.slice vA acc.length vc)) ⟨ln,B1,lt,.slice aA La.length ac,.slice tA tm tc⟩ ⟨ln,B1,lt,La,Lh⟩ :=
       ⟨rfl,rfl,rfl,LF.lasts ⟨fun _ _ _=>rfl,fun k hk _=>hto k hk⟩ HF18.out,LF.lasts ⟨fun _ _ _=>rfl,fun k hk _=>hto k hk⟩ HG18.out⟩
      have HEY:=Lib.hid hey
      have HONE:Hid (∀ u ∈ (metA ⟨ln,B1,lt,.slice aA La.length ac,.slice tA tm tc⟩).toList,u.oneCell'=true):=fun u hu=>by
       simp [metA,bt] at hu
       rcases hu with rfl | rfl | rfl | rfl | rfl <;> rfl
      have HSZ:Hid (w.heap.size≤w18.heap.size):=HI18.out.ot.size
      have HHB:Hid (b<w.heap.size):=HI4.out.hb
      clear hp18 ho18 hs18 hey hto HS17 HF17 HG17 HI3 HI4
      go_wp2_with (at_builtin;go_must (refine wpList_appL _ RM.lasts infoT Tryz.underlying54 rfl (by decide) (by decide) metA_size rfl _ _ rfl w.heap.size b (.slice vA acc.length vc) acc ⟨ln,B1,lt,.slice aA La.length ac,.slice tA tm tc⟩ ⟨ln,B1,lt,La,Lh⟩ rfl (RepL.nx RM.lasts HI18.out.ls (nx0 _ _)) HONE.out _ rfl (fun j hj=>cell_newP (by simp)) (RM.lasts (Mv.but (Mv.nx (nx0 _ _) (Nat.le_refl _)) _) HEY.out) (by omega) (Nat.le_trans HSZ.out (nx0 _ _).size) HHB.out ?_;intro v2 w19 hl2 hf2 hk2;have HL2:=Lib.hid hl2;have HF2:=Lib.hid hf2;have HK2:=Lib.hid hk2;clear hl2 hf2 hk2))
      have HI19:=Lib.hid ((HI18.out.nx LM.lasts (nx0 _ _)).app HL2.out (fun k e=>(HOWN.out k e).1) HF2.out HK2.out)
      go_roundw
      case rel =>
       refine ⟨sepP ws sgx,acc++[⟨ln,B1,lt,La,Lh⟩],HI19.out,HGO.out _ (fun h=>by rw [HLA.out (HSE.out h),HLH.out h];exact HY0.out),?_⟩
       have:=HLT6.out
       have:=HL30.out
       have:=HN2.out
       rw [List.length_append]
       simp
       omega
      case measure=>rw [HI19.out.pb.left,HLEFT.out];exact HLT6.out
     ·have h1:N30=true∧PC=true:=by have:=hQQ.out;simpa using this
      obtain ⟨rfl,rfl⟩:=h1
      have h30:acc.length=30:=by have:=hN30.out;rw [beq_iff_eq] at this;omega
      have HOV:=Lib.hid (HLP.out.over hlt HPE.out HFE.out h30 hPC.out)
      clear hQQ hN30 h30
      go_wp2_with fail
      refine (dfail_any HI3.out.pb 4 (by decide) (by decide)).mono ?_;rintro e w4 ⟨rfl,hp4,ho4⟩
      have HI4:=Lib.hid (HI3.out.step LM.lasts hp4 ho4)
      clear hp4 ho4
      go_wp2_with fail
      go_meet
      case rel =>
       have h4:(failP 4 s1).e≠0:=fail_ne 4 (by decide) s1
       exact ⟨_,_,HI4.out,by unfold Hid;rw [er_need h4];exact HOV.out,fun h=>absurd (HOV.out ▸ h) h4⟩
    ·have HEND:=Lib.hid (HLP.out.end_ (met_notclose HOK.out (by decide) hBE.out))
     go_wp2_with fail
     go_meet
     case rel=>exact ⟨_,_,HI2.out,HEND.out.1,HEND.out.2⟩
   ·have b0:((s1.e:Int) == 0)=false:=by rw [beq_eq_false_iff_ne];omega
    have HEND:=Lib.hid (HLP.out.stop HPE.out he)
    clear he
    go_wp2_with fail
    go_meet
    case rel=>exact ⟨_,_,HI.out,HEND.out.1,HEND.out.2⟩
 case rest =>
 obtain ⟨s1,L,hI,HN1,HL1⟩:=hcut
 have HI:=Lib.hid hI
 clear hI
 go_wp2_with fail
 refine (dneed_any HI.out.pb _ 125 (Tx.of [125]) (by decide) s' HN1.out).mono ?_;rintro e w4 ⟨rfl,hp4,ho4⟩
 have HI4:=Lib.hid (HI.out.step LM.lasts hp4 ho4)
 clear hp4 ho4
 go_wp2_with fail
 go_ret
 exact ⟨_,L,rfl,HL1.out,HI4.out.ls,HI4.out.pb,HI4.out.ot⟩
end
end Go.Proofs.YtpfecpcgdfbekaaGreatDoor
