/- The contract of the document's parser of types. The contracts of the document's parser: what constants begin with; constants that hold none. -/
import Derived.Test.YtpfecpcgdfbekaaGreatDoorG13
set_option linter.unusedVariables false
set_option linter.unusedSimpArgs false
set_option linter.unnecessarySimpa false
namespace Go.Proofs.YtpfecpcgdfbekaaGreatDoor
open Go.RowKit
section
variable {ws:List TokV} {s:PSt} {tt:List UInt8} {tn:Int} {td tp:Nat}
theorem is_name (h:wordP ws s=⟨1,tt,tn,td,tp⟩) (t:List UInt8):isP ws t s=decide (tt=t):=by
 unfold isP;rw [h];rfl
theorem type_byte (h:wordP ws s=⟨1,kByte,tn,td,tp⟩) (r:Nat):typeP ws r s=([105,56],nextP s):=by
 rw [typeP_eq,is_name h,is_name h,is_name h]
 unfold leafP
 rw [is_name h]
 rfl
theorem kind_list (h:kindW tt≠15) (h2:kindW tt≠14) (h3:kindW tt≠13):decide (tt=kList)=false∧decide (tt=kSet)=false∧decide (tt=kMap)=false:=by
 refine ⟨?_,?_,?_⟩ <;> (rw [decide_eq_false_iff_not];rintro rfl)
 ·exact h (by decide)
 ·exact h2 (by decide)
 ·exact h3 (by decide)
theorem type_far (h:wordP ws s=⟨1,tt,tn,td,tp⟩) (hk:kindW tt=0) (hb:tt≠kByte) (r:Nat):typeP ws r s=qualN ws s:=by
 obtain ⟨h1,h2,h3⟩:=kind_list (tt:=tt) (by omega) (by omega) (by omega)
 rw [typeP_eq,is_name h,is_name h,is_name h,h1,h2,h3]
 simp only [Bool.false_eq_true,if_false]
 unfold leafP
 rw [is_name h,decide_eq_false hb]
 have ho:oftP tt=false:=by
  have:=kindW_oft tt
  rw [hk,decide_eq_true (show tt≠kByte from hb),Bool.and_true] at this
  unfold oftP
  rw [← this];rfl
 have ha:atTypeP ws s=atQualP ws s:=by
  unfold atTypeP atQualP
  rw [h]
  dsimp only
  rw [ho,Bool.false_or]
 rw [ha]
 simp only [Bool.false_eq_true,if_false]
 cases hq:atQualP ws s
 ·rw [qualN_no hq];rfl
 ·rw [qualN_yes hq];rfl
theorem type_base (h:wordP ws s=⟨1,tt,tn,td,tp⟩) (h0:kindW tt≠0) (h15:kindW tt≠15) (h14:kindW tt≠14) (h13:kindW tt≠13) (r:Nat):typeP ws r s=(tt,nextP s):=by
 obtain ⟨h1,h2,h3⟩:=kind_list h15 h14 h13
 rw [typeP_eq,is_name h,is_name h,is_name h,h1,h2,h3]
 simp only [Bool.false_eq_true,if_false]
 have ho:=kindW_oft tt
 have hk:(kindW tt != 0)=true:=by rw [bne_iff_ne];exact h0
 rw [hk] at ho
 have ho':=ho.symm
 rw [Bool.and_eq_true] at ho'
 have hb:tt≠kByte:=by simpa using ho'.2
 unfold leafP
 rw [is_name h,decide_eq_false hb]
 have ha:atTypeP ws s=true:=by
  unfold atTypeP atNameP oftP
  rw [h]
  dsimp only
  rw [ho'.1];rfl
 rw [ha,h]
 rfl
theorem type_cont (h:wordP ws s=⟨1,tt,tn,td,tp⟩) (k:Nat) (hk:kindW tt=k) (hc:k=13∨k=14∨k=15) (r:Nat):typeP ws r s=typeN ws r k s:=by
 rcases kindW_is tt with h0 | ⟨-,h2⟩
 ·omega
 ·rw [hk] at h2
  rw [typeP_eq,is_name h,is_name h,is_name h]
  rcases hc with rfl | rfl | rfl
  ·subst h2;rfl
  ·subst h2;rfl
  ·subst h2;rfl
end
def DTyC (b c:Nat) (A:Option Addr) (ws:List TokV) (r:Nat):Prop :=
 ∀ (w:World) (s:PSt),PB w b A c ws s→∀ (D:Nat),D+r=13→∀ (l:List UInt8) (s':PSt),typeP ws r s=(l,s') →
  Calls Tryz.prog 75 #[.pointer (some ⟨b,0,none⟩),.int .i64 (D:Int)] w fun e w'=>e = .returned (.string ⟨l.toArray⟩)∧PB w' b A c ws s'∧Oth b w w'
section
variable {w:World} {b c:Nat} {A:Option Addr} {ws:List TokV} {s:PSt}
set_option maxRecDepth 100000 in
set_option maxHeartbeats 6400000 in
theorem dtyp_step (r:Nat) (hr12:r≤12) (hT:∀ r',r=r'+1→DTyC b c A ws r'):DTyC b c A ws r:=by
 intro w s h0 D hD l s' hr
 have H:=Lib.hid h0
 have HTY:=Lib.hid hT
 obtain ⟨⟨tk,tt,tn,td,tp⟩,hT⟩:∃ T,Hid (nowP ws s=T):=⟨_,rfl⟩
 have hlen:=now_len h0
 rw [hT.out] at hlen
 have HL:Hid ((tt.length:Int)≤8000):=by have:(tt.length:Int)≤2000:=hlen;unfold Hid;omega
 have HR:=Lib.hid hr
 have HD:=Lib.hid hD
 have hDI:(D:Int)≤13:=by omega
 clear h0 hlen hr hD
 go_enter Tryz.func75,Tryz.ntmps75
 go_wp2_with fail
 refine (dnow_any H.out _ _ _ _ _ hT.out).mono ?_;rintro e w1 ⟨rfl,hn1⟩
 obtain ⟨g,hg⟩:∃ g,w1.heap.size=g:=⟨_,rfl⟩
 have hB:=Blk.new w1 #[.int .i64 (tk:Int),.string ⟨tt.toArray⟩,.int .i64 tn,.int .u64 (td:Int),.int .i64 (tp:Int)] 124
 rw [hg] at hB
 have HB:=Lib.hid hB
 have HGB:Hid (g≠b):=by have:=(H.out.nx hn1).bw;unfold Hid;omega
 have HN1:Hid (Nx w (w1.alloc (.cells #[.int .i64 (tk:Int),.string ⟨tt.toArray⟩,.int .i64 tn,.int .u64 (td:Int),.int .i64 (tp:Int)] 124))):=hn1.trans (nx0 _ _)
 clear hB hn1
 go_upto_region 2 with (fail)
 generalize World.alloc w1 _=w2 at *
 have HP2:=Lib.hid (H.out.nx HN1.out)
 have c0:w2.cell? ⟨g,0,none⟩=some (.int .i64 (tk:Int)):=HB.out.cell 0
 have c1:w2.cell? ⟨g,1,none⟩=some (.string ⟨tt.toArray⟩):=HB.out.cell 1
 have c2:=HP2.out.c2
 clear hg
 by_cases he:s.e=0
 ·have b0:((s.e:Int) != 0)=false:=by rw [he];rfl
  have hw:=now_word (ws:=ws) he
  rw [hT.out] at hw
  have HW:=Lib.hid hw
  have HE:=Lib.hid he
  clear hw he
  by_cases h1:tk=1
  ·subst h1
   have hK:Hid ((nowP ws s).k≠6):=by unfold Hid;rw [hT.out];show (1:Nat)≠6;decide
   have HF:=fun w=>Lib.hid (refBase_any _ tt w (Tx.of tt))
   by_cases hb:tt=kByte
   ·subst hb
    have hx:=HR.out
    rw [type_byte HW.out] at hx
    simp only [Prod.mk.injEq] at hx
    obtain ⟨rfl,rfl⟩:=hx
    have hq:((kByte:List UInt8) == [98,121,116,101])=true:=rfl
    have HKK:Hid (kindW kByte=0):=by unfold Hid;decide
    simp only [HKK.out] at HF
    clear HR
    go_wp2_with fail
    refine (HF _).out.mono ?_;rintro e w3 ⟨rfl,rfl⟩
    go_wp2_with fail
    refine (dnext_any HP2.out HE.out hK.out).mono ?_;rintro e w4 ⟨rfl,hp,ho⟩
    go_wp2_with fail
    go_ret
    exact ⟨rfl,hp,(Oth.nx HN1.out).trans ho⟩
   ·obtain ⟨K,hKk⟩:∃ K,kindW tt=K:=⟨_,rfl⟩
    rw [hKk] at HF
    have hq:(tt == [98,121,116,101])=false:=by rw [beq_eq_false_iff_ne];exact hb
    have hK16:K≤16:=by
     rw [← hKk]
     rcases kindW_is tt with h | ⟨h,-⟩
     ·omega
     ·rcases h with h | h | h | h | h | h | h | h | h | h | h <;> omega
    by_cases hk0:K=0
    ·subst hk0
     have hx:=HR.out
     rw [type_far HW.out hKk hb] at hx
     have HX:=Lib.hid hx
     clear HR hx hb hKk
     go_wp2_with fail
     refine (HF _).out.mono ?_;rintro e w3 ⟨rfl,rfl⟩
     go_wp2_with fail
     refine (dfar_any HP2.out l s' HX.out).mono ?_;rintro e w4 ⟨rfl,hp,ho⟩
     go_wp2_with fail
     go_ret
     exact ⟨rfl,hp,(Oth.nx HN1.out).trans ho⟩
    ·have q0:((K:Int) == 0)=false:=by rw [beq_eq_false_iff_ne];omega
     have q0':¬ (K:Int)=0:=by omega
     have q0'':¬ K=0:=hk0
     by_cases hkc:K=13∨K=14∨K=15
     ·have hx:=HR.out
      rw [type_cont HW.out K hKk hkc] at hx
      have HX:=Lib.hid hx
      have HKC:=Lib.hid hkc
      obtain ⟨R,hRq⟩:∃ R,(((K:Int) != 15) && ((K:Int) != 14) && ((K:Int) != 13))=R:=⟨_,rfl⟩
      clear HR hx hb hKk
      cases r with
      | zero =>
       have hx:=HX.out
       unfold typeN at hx
       simp only [Prod.mk.injEq] at hx
       obtain ⟨rfl,rfl⟩:=hx
       obtain rfl:D=13:=HD.out
       clear HX hRq R
       rcases hkc with rfl | rfl | rfl
       all_goals
        go_wp2_with fail
        refine (HF _).out.mono ?_;rintro e w3 ⟨rfl,rfl⟩
        go_wp2_with fail
        refine (dfail_any HP2.out 6 (by decide) (by decide)).mono ?_;rintro e w4 ⟨rfl,hp,ho⟩
        go_wp2_with fail
        go_ret
        exact ⟨rfl,hp,(Oth.nx HN1.out).trans ho⟩
      | succ r =>
       have HT2:Hid (DTyC b c A ws r):=HTY.out r rfl
       have b1:decide ((12:Int)<(D:Int))=false:=decide_eq_false (by have:=HD.out;omega)
       have b1':¬ (12:Int)<(D:Int):=by have:=HD.out;omega
       have HD1:Hid (D+1+r=13):=by have:=HD.out;unfold Hid;omega
       have HRR:Hid (withP ws (typeP ws r) K s=(l,s')):=HX.out
       have HLEN:=Lib.hid (type_short ws r (by have:=HD.out;omega))
       clear HX HTY hRq R
       obtain ⟨⟨la,sa⟩,hA⟩:∃ a,Hid (typeP ws r (needP ws [60] (nextP s))=a):=⟨_,rfl⟩
       have HLA:Hid ((la.length:Int)≤1000000):=by have:=HLEN.out (needP ws [60] (nextP s));rw [hA.out] at this;unfold Hid;have h2:(la.length:Int)≤270000:=this;omega
       by_cases hm:K=13
       ·subst hm
        obtain ⟨⟨lb,sb⟩,hBb⟩:∃ a,Hid (typeP ws r (needP ws [44] sa)=a):=⟨_,rfl⟩
        have HLB:Hid ((lb.length:Int)≤1000000):=by have:=HLEN.out (needP ws [44] sa);rw [hBb.out] at this;unfold Hid;have h2:(lb.length:Int)≤270000:=this;omega
        have hx:=HRR.out
        unfold withP at hx
        dsimp only at hx
        rw [hA.out,if_pos rfl] at hx
        dsimp only at hx
        rw [hBb.out] at hx
        simp only [Prod.mk.injEq] at hx
        obtain ⟨rfl,rfl⟩:=hx
        clear HRR hkc HKC
        go_wp2_with fail
        refine (HF _).out.mono ?_;rintro e w3 ⟨rfl,rfl⟩
        go_wp2_with fail
        refine (dnext_any HP2.out HE.out hK.out).mono ?_;rintro e w4 ⟨rfl,hp4,ho4⟩
        have HP4:=Lib.hid hp4
        have HO4:=Lib.hid ((Oth.nx HN1.out).trans ho4)
        clear hp4 ho4 c0 c1 c2
        go_wp2_with fail
        refine (dneed_any HP4.out _ 60 (Tx.of [60]) (by decide) _ rfl).mono ?_;rintro e w5 ⟨rfl,hp5,ho5⟩
        have HP5:=Lib.hid hp5
        have HO5:=Lib.hid (HO4.out.trans ho5)
        clear hp5 ho5
        go_wp2_with fail
        refine (HT2.out _ _ HP5.out (D+1) HD1.out la sa hA.out).mono ?_;rintro e w6 ⟨rfl,hp6,ho6⟩
        have HP6:=Lib.hid hp6
        have HO6:=Lib.hid (HO5.out.trans ho6)
        clear hp6 ho6
        go_wp2_with fail
        refine (dneed_any HP6.out _ 44 (Tx.of [44]) (by decide) _ rfl).mono ?_;rintro e w7 ⟨rfl,hp7,ho7⟩
        have HP7:=Lib.hid hp7
        have HO7:=Lib.hid (HO6.out.trans ho7)
        clear hp7 ho7
        go_wp2_with fail
        refine (HT2.out _ _ HP7.out (D+1) HD1.out lb sb hBb.out).mono ?_;rintro e w8 ⟨rfl,hp8,ho8⟩
        have HP8:=Lib.hid hp8
        have HO8:=Lib.hid (HO7.out.trans ho8)
        clear hp8 ho8
        go_wp2_with fail
        refine (dneed_any HP8.out _ 62 (Tx.of [62]) (by decide) _ rfl).mono ?_;rintro e w9 ⟨rfl,hp9,ho9⟩
        have HP9:=Lib.hid hp9
        have HO9:=Lib.hid (HO8.out.trans ho9)
        clear hp9 ho9
        go_wp2_with fail
        refine (rshow_any w9 13 (.inl rfl) _ _ _ la lb (Tx.of la) (Tx.of lb) HLA.out HLB.out).mono ?_;rintro e w10 ⟨rfl,hn10⟩
        go_wp2_with fail
        go_ret
        exact ⟨rfl,HP9.out.nx hn10,HO9.out.trans (Oth.nx hn10)⟩
       ·have q13:((K:Int) == 13)=false:=by rw [beq_eq_false_iff_ne];omega
        have q13':¬ (K:Int)=13:=by omega
        have q13'':¬ K=13:=hm
        have hx:=HRR.out
        unfold withP at hx
        dsimp only at hx
        rw [hA.out,if_neg hm] at hx
        simp only [Prod.mk.injEq] at hx
        obtain ⟨rfl,rfl⟩:=hx
        have hk1415:K=14∨K=15:=by omega
        clear HRR hkc hm
        rcases hk1415 with rfl | rfl
        all_goals
         go_wp2_with fail
         refine (HF _).out.mono ?_;rintro e w3 ⟨rfl,rfl⟩
         go_wp2_with fail
         refine (dnext_any HP2.out HE.out hK.out).mono ?_;rintro e w4 ⟨rfl,hp4,ho4⟩
         have HP4:=Lib.hid hp4
         have HO4:=Lib.hid ((Oth.nx HN1.out).trans ho4)
         clear hp4 ho4 c0 c1 c2
         go_wp2_with fail
         refine (dneed_any HP4.out _ 60 (Tx.of [60]) (by decide) _ rfl).mono ?_;rintro e w5 ⟨rfl,hp5,ho5⟩
         have HP5:=Lib.hid hp5
         have HO5:=Lib.hid (HO4.out.trans ho5)
         clear hp5 ho5
         go_wp2_with fail
         refine (HT2.out _ _ HP5.out (D+1) HD1.out la sa hA.out).mono ?_;rintro e w6 ⟨rfl,hp6,ho6⟩
         have HP6:=Lib.hid hp6
         have HO6:=Lib.hid (HO5.out.trans ho6)
         clear hp6 ho6
         go_wp2_with fail
         refine (dneed_any HP6.out _ 62 (Tx.of [62]) (by decide) _ rfl).mono ?_;rintro e w9 ⟨rfl,hp9,ho9⟩
         have HP9:=Lib.hid hp9
         have HO9:=Lib.hid (HO6.out.trans ho9)
         clear hp9 ho9
         go_wp2_with fail
         refine (rshow_any w9 _ (by decide) _ _ _ la [] (Tx.of la) (Tx.of []) HLA.out (by decide)).mono ?_;rintro e w10 ⟨rfl,hn10⟩
         go_wp2_with fail
         go_ret
         exact ⟨rfl,HP9.out.nx hn10,HO9.out.trans (Oth.nx hn10)⟩
     ·have q15:((K:Int) != 15)=true:=by rw [bne_iff_ne];omega
      have q14:((K:Int) != 14)=true:=by rw [bne_iff_ne];omega
      have q13:((K:Int) != 13)=true:=by rw [bne_iff_ne];omega
      have q15':¬ (K:Int)=15:=by omega
      have q14':¬ (K:Int)=14:=by omega
      have q13':¬ (K:Int)=13:=by omega
      have hx:=HR.out
      rw [type_base HW.out (by omega) (by omega) (by omega) (by omega)] at hx
      simp only [Prod.mk.injEq] at hx
      obtain ⟨rfl,rfl⟩:=hx
      have HB2:=HB
      clear HR hb hKk hkc hk0
      go_wp2_with fail
      refine (HF _).out.mono ?_;rintro e w3 ⟨rfl,rfl⟩
      go_wp2_with fail
      refine (dnext_any HP2.out HE.out hK.out).mono ?_;rintro e w4 ⟨rfl,hp,ho⟩
      have c1:w4.cell? ⟨g,1,none⟩=some (.string ⟨tt.toArray⟩):=(ho.blk HB.out HGB.out).cell 1
      go_wp2_with fail
      go_ret
      exact ⟨rfl,hp,(Oth.nx HN1.out).trans ho⟩
  ·have b1:((tk:Int) != 1)=true:=by rw [bne_iff_ne];omega
   have b1':¬ (tk:Int)=1:=by omega
   have hno:atTypeP ws s=false:=by unfold atTypeP atNameP;rw [HW.out];dsimp only;rw [decide_eq_false h1];rfl
   have hx:=HR.out
   rw [type_no H.out.ok hno] at hx
   simp only [Prod.mk.injEq] at hx
   obtain ⟨rfl,rfl⟩:=hx
   clear hno HR h1
   go_wp2_with fail
   refine (dfail_any HP2.out 2 (by decide) (by decide)).mono ?_;rintro e w4 ⟨rfl,hp,ho⟩
   go_wp2_with fail
   go_ret
   exact ⟨rfl,hp,(Oth.nx HN1.out).trans ho⟩
 ·have b0:((s.e:Int) != 0)=true:=by rw [bne_iff_ne];omega
  have hx:=HR.out
  rw [er_type he] at hx
  simp only [Prod.mk.injEq] at hx
  obtain ⟨rfl,rfl⟩:=hx
  have HE:=Lib.hid (er_fail (k:=2) he)
  clear HR he
  go_wp2_with fail
  refine (dfail_any HP2.out 2 (by decide) (by decide)).mono ?_;rintro e w4 ⟨rfl,hp,ho⟩
  go_wp2_with fail
  go_ret
  exact ⟨rfl,hp.eq HE.out,(Oth.nx HN1.out).trans ho⟩
theorem dtyp_all:∀ (r:Nat),r≤12→DTyC b c A ws r
 | 0,h=>dtyp_step 0 h (fun r' e=>by omega)
 | r+1,h=>dtyp_step (r+1) h (fun r' e=>Nat.succ.inj e ▸ dtyp_all r (by omega))
theorem dtyp_any (h0:PB w b A c ws s) (l:List UInt8) (s':PSt) (hr:typeP ws 12 s=(l,s')) :
  Calls Tryz.prog 75 #[.pointer (some ⟨b,0,none⟩),.int .i64 1] w fun e w'=>e = .returned (.string ⟨l.toArray⟩)∧PB w' b A c ws s'∧Oth b w w' :=
 dtyp_all 12 (Nat.le_refl _) w s h0 1 rfl l s' hr
end
end Go.Proofs.YtpfecpcgdfbekaaGreatDoor
namespace Go.Proofs.YtpfecpcgdfbekaaGreatDoor
open Go.RowKit
section
variable {w:World} {b c:Nat} {A:Option Addr} {ws:List TokV} {s:PSt}
set_option maxRecDepth 100000 in
set_option maxHeartbeats 3200000 in
theorem dbegins_any (h0:PB w b A c ws s) (he:s.e=0) (B:Bool) (hB:atConP ws s=B) :
  Calls Tryz.prog 125 #[.pointer (some ⟨b,0,none⟩)] w fun e w'=>e = .returned (.bool B)∧Nx w w':=by
 have H:=Lib.hid h0
 obtain ⟨⟨tk,tt,tn,td,tp⟩,hT⟩:∃ T,Hid (nowP ws s=T):=⟨_,rfl⟩
 have hlen:=now_len h0
 rw [hT.out] at hlen
 have HL:Hid ((tt.length:Int)≤8000):=by have:(tt.length:Int)≤2000:=hlen;unfold Hid;omega
 have hw:=now_word (ws:=ws) he
 rw [hT.out] at hw
 obtain ⟨B3,hB3⟩:∃ B,Hid (isP ws [91] s=B):=⟨_,rfl⟩
 obtain ⟨B4,hB4⟩:∃ B,Hid (isP ws [123] s=B):=⟨_,rfl⟩
 obtain ⟨Q,hQ⟩:∃ B,Hid (qualP tt=B):=⟨_,rfl⟩
 obtain ⟨T1,hT1⟩:∃ B,Hid (decide (tt=kTrue)=B):=⟨_,rfl⟩
 obtain ⟨T2,hT2⟩:∃ B,Hid (decide (tt=kFalse)=B):=⟨_,rfl⟩
 have HB:Hid ((if tk=2∨tk=3∨tk=4 then true else if tk=1 then T1 || T2 || Q else B3 || B4)=B):=by
  unfold Hid;rw [← hB];unfold atConP;dsimp only;rw [hB3.out,hB4.out]
  by_cases h1:tk=1
  ·subst h1
   rw [is_name hw,is_name hw,hw]
   dsimp only
   rw [hQ.out,hT1.out,hT2.out]
  ·rw [hw]
   dsimp only
   rw [if_neg h1,if_neg h1]
 have HC:=fun w=>Lib.hid (rFar_any w _ tt (Tx.of tt) Q hQ.out HL.out)
 have q1:(tt == kTrue)=T1:=by rw [← hT1.out,Bool.eq_iff_iff];simp
 have q2:(tt == kFalse)=T2:=by rw [← hT2.out,Bool.eq_iff_iff];simp
 unfold kTrue at q1
 unfold kFalse at q2
 clear h0 hlen hB he hw
 go_enter Tryz.func125,Tryz.ntmps125
 go_wp2_with fail
 refine (dnow_any H.out _ _ _ _ _ hT.out).mono ?_;rintro e w1 ⟨rfl,hn1⟩
 obtain ⟨g,hg⟩:∃ g,w1.heap.size=g:=⟨_,rfl⟩
 have hBk:=Blk.new w1 #[.int .i64 (tk:Int),.string ⟨tt.toArray⟩,.int .i64 tn,.int .u64 (td:Int),.int .i64 (tp:Int)] 124
 rw [hg] at hBk
 have HBk:=Lib.hid hBk
 have HN1:Hid (Nx w (w1.alloc (.cells #[.int .i64 (tk:Int),.string ⟨tt.toArray⟩,.int .i64 tn,.int .u64 (td:Int),.int .i64 (tp:Int)] 124))):=hn1.trans (nx0 _ _)
 clear hBk hn1
 go_upto_region 2 with (fail)
 generalize World.alloc w1 _=w2 at *
 have HP2:=Lib.hid (H.out.nx HN1.out)
 have c0:w2.cell? ⟨g,0,none⟩=some (.int .i64 (tk:Int)):=HBk.out.cell 0
 have c1:w2.cell? ⟨g,1,none⟩=some (.string ⟨tt.toArray⟩):=HBk.out.cell 1
 clear hg
 by_cases h2:tk=2
 ·subst h2
  obtain rfl:true=B:=HB.out
  go_wp2_with fail
  go_ret
  exact ⟨rfl,HN1.out⟩
 by_cases h3:tk=3
 ·subst h3
  obtain rfl:true=B:=HB.out
  clear h2
  go_wp2_with fail
  go_ret
  exact ⟨rfl,HN1.out⟩
 by_cases h4:tk=4
 ·subst h4
  obtain rfl:true=B:=HB.out
  clear h2 h3
  go_wp2_with fail
  go_ret
  exact ⟨rfl,HN1.out⟩
 by_cases h1:tk=1
 ·subst h1
  have HBB:Hid ((T1 || T2 || Q)=B):=HB.out
  clear h2 h3 h4 HB
  cases T1
  ·cases T2
   ·obtain rfl:Q=B:=HBB.out
    go_wp2_with fail
    refine (HC _).out.mono ?_;rintro e w3 ⟨rfl,hn3⟩
    go_wp2_with fail
    go_ret
    exact ⟨rfl,HN1.out.trans hn3⟩
   ·obtain rfl:true=B:=HBB.out
    go_wp2_with fail
    go_ret
    exact ⟨rfl,HN1.out⟩
  ·obtain rfl:true=B:=HBB.out
   go_wp2_with fail
   go_ret
   exact ⟨rfl,HN1.out⟩
 ·have HBB:Hid ((B3 || B4)=B):=by unfold Hid;rw [← HB.out,if_neg (by omega),if_neg h1]
  have b1:((tk:Int) == 1)=false:=by rw [beq_eq_false_iff_ne];omega
  have b2:((tk:Int) == 2)=false:=by rw [beq_eq_false_iff_ne];omega
  have b3:((tk:Int) == 3)=false:=by rw [beq_eq_false_iff_ne];omega
  have b4:((tk:Int) == 4)=false:=by rw [beq_eq_false_iff_ne];omega
  clear h1 h2 h3 h4 HB
  go_wp2_with fail
  refine (dis_any HP2.out _ 91 (Tx.of [91]) (by decide) B3 hB3.out).mono ?_;rintro e w3 ⟨rfl,hn3⟩
  have HN3:=Lib.hid (HN1.out.trans hn3)
  have HP3:=Lib.hid (HP2.out.nx hn3)
  clear hn3 c0 c1
  cases B3
  ·go_wp2_with fail
   refine (dis_any HP3.out _ 123 (Tx.of [123]) (by decide) B4 hB4.out).mono ?_;rintro e w4 ⟨rfl,hn4⟩
   have HQ:Hid (B4=B):=HBB.out
   go_wp2_with fail
   go_ret
   rw [HQ.out]
   exact ⟨rfl,HN3.out.trans hn4⟩
  ·obtain rfl:true=B:=HBB.out
   go_wp2_with fail
   go_ret
   exact ⟨rfl,HN3.out⟩
end
def DCoC (b c:Nat) (A:Option Addr) (ws:List TokV) (r:Nat):Prop :=
 ∀ (w:World) (s:PSt),PB w b A c ws s→∀ (D:Nat),D+r=13→∀ (y:Con) (s':PSt),conP ws r s=(y,s') →
  Calls Tryz.prog 78 #[.pointer (some ⟨b,0,none⟩),.int .i64 (D:Int)] w fun e w'=>∃ x y',e = .returned (.agg (conA x))∧(s'.e=0→y'=y)∧RC (r+1) w' (Fm w.heap.size) x y'∧PB w' b A c ws s'∧Oth b w w'
def DItC (b c:Nat) (A:Option Addr) (ws:List TokV) (r:Nat):Prop :=
 ∀ (w:World) (s:PSt),PB w b A c ws s→(isP ws [91] s || isP ws [123] s)=true→∀ (D:Nat),D+r=13→∀ (y:Con) (s':PSt),conP ws r s=(y,s') →
  Calls Tryz.prog 100 #[.pointer (some ⟨b,0,none⟩),.int .i64 (D:Int)] w fun e w'=>∃ x y',e = .returned (.agg (conA x))∧(s'.e=0→y'=y)∧RC (r+1) w' (Fm w.heap.size) x y'∧PB w' b A c ws s'∧Oth b w w'
section
variable {ws:List TokV} {s:PSt} {tk:Nat} {tt:List UInt8} {tn:Int} {td tp:Nat}
theorem con_leaf (h:atConP ws s=true) (hw:wordP ws s=⟨tk,tt,tn,td,tp⟩) (hk:tk=2∨tk=3∨tk=4∨tk=1) (r:Nat):conP ws r s=(conV ⟨tk,tt,tn,td,tp⟩,nextP s):=by
 cases r with
 | zero=>unfold conP;rw [h,hw];simp only [Bool.not_true,Bool.false_eq_true,if_false];rw [if_pos hk]
 | succ r=>unfold conP;rw [h,hw];simp only [Bool.not_true,Bool.false_eq_true,if_false];rw [if_pos hk]
theorem con_far (hw:wordP ws s=⟨1,tt,tn,td,tp⟩) (h1:tt≠kTrue) (h2:tt≠kFalse) (r:Nat):conP ws r s=(if atQualP ws s then .mk 4 0 0 (qualN ws s).1 [] else con0,(qualN ws s).2):=by
 have ha:atConP ws s=atQualP ws s:=by
  unfold atConP atQualP atNameP
  dsimp only
  rw [is_name hw,is_name hw,hw]
  dsimp only
  rw [decide_eq_false h1,decide_eq_false h2]
  rfl
 cases hq:atQualP ws s
 ·rw [hq] at ha
  rw [con_no ha,qualN_no hq];rfl
 ·rw [hq] at ha
  rw [con_leaf ha hw (by omega),qualN_yes hq,hw]
  rfl
theorem con_open (hw:WOk ws) (h:(isP ws [91] s || isP ws [123] s)=true):atConP ws s=true∧(wordP ws s).k=5:=by
 have h5:(wordP ws s).k=5:=by
  rw [Bool.or_eq_true] at h
  rcases h with h | h
  ·rw [is_sign hw 91 (by decide)] at h;simp at h;exact h.1
  ·rw [is_sign hw 123 (by decide)] at h;simp at h;exact h.1
 refine ⟨?_,h5⟩
 unfold atConP
 dsimp only
 rw [h5,if_neg (by omega),if_neg (by omega)]
 exact h
end
theorem rc_leaf {r:Nat} {w:World} {P:Nat→Prop} (k:Nat) (n:Int) (d:Nat) (t:List UInt8):RC (r+1) w P ⟨k,n,d,t,.slice none 0 0⟩ (.mk k n d t []):=RC.mk RepL.nil_
section
variable {w:World} {b c:Nat} {A:Option Addr} {ws:List TokV} {s:PSt}
set_option maxRecDepth 100000 in
set_option maxHeartbeats 12800000 in
theorem dconst_step (r:Nat) (hI:DItC b c A ws r):DCoC b c A ws r:=by
 intro w s h0 D hD y s' hr
 have H:=Lib.hid h0
 have HI:=Lib.hid hI
 obtain ⟨⟨tk,tt,tn,td,tp⟩,hT⟩:∃ T,Hid (nowP ws s=T):=⟨_,rfl⟩
 have HR:=Lib.hid hr
 have HD:=Lib.hid hD
 obtain ⟨g0,hg0⟩:∃ g,w.heap.size=g:=⟨_,rfl⟩
 have hB0:=Blk.new w #[.int .i64 0,.int .i64 0,.int .u64 0,.string ⟨#[]⟩,.slice none 0 0] 51
 rw [hg0] at hB0
 have hN0:Nx w (w.alloc (.cells #[.int .i64 0,.int .i64 0,.int .u64 0,.string ⟨#[]⟩,.slice none 0 0] 51)):=nx0 _ _
 have HB0:=Lib.hid hB0
 have HN0:=Lib.hid hN0
 have HG0:Hid (w.heap.size≤g0):=Nat.le_of_eq hg0
 have HBG:Hid (b<g0):=by have:=h0.bw;unfold Hid;omega
 clear h0 hr hI hB0 hN0 hD
 go_enter Tryz.func78,Tryz.ntmps78
 go_wp2_with fail
 refine (dnow_any (H.out.nx HN0.out) _ _ _ _ _ hT.out).mono ?_;rintro e w1 ⟨rfl,hn1⟩
 obtain ⟨g,hg⟩:∃ g,w1.heap.size=g:=⟨_,rfl⟩
 have hB:=Blk.new w1 #[.int .i64 (tk:Int),.string ⟨tt.toArray⟩,.int .i64 tn,.int .u64 (td:Int),.int .i64 (tp:Int)] 124
 rw [hg] at hB
 have HB:=Lib.hid hB
 have hgg:g0<g:=by have:=(HB0.out.below hn1).lt;omega
 have HGB:Hid (g≠b):=by have:=HBG.out;unfold Hid;omega
 have HG0B:Hid (g0≠b):=by have:=HBG.out;unfold Hid;omega
 have HB1:Hid (Blk (w1.alloc (.cells #[.int .i64 (tk:Int),.string ⟨tt.toArray⟩,.int .i64 tn,.int .u64 (td:Int),.int .i64 (tp:Int)] 124)) g0 g0 #[.int .i64 0,.int .i64 0,.int .u64 0,.string ⟨#[]⟩,.slice none 0 0] 51):=(HB0.out.below hn1).alloc _
 have HN1:Hid (Nx w (w1.alloc (.cells #[.int .i64 (tk:Int),.string ⟨tt.toArray⟩,.int .i64 tn,.int .u64 (td:Int),.int .i64 (tp:Int)] 124))):=(HN0.out.trans hn1).trans (nx0 _ _)
 clear hB hn1 hgg
 go_upto_region 2 with (fail)
 generalize World.alloc w1 _=w2 at *
 clear HN0 HB0
 have HP2:=Lib.hid (H.out.nx HN1.out)
 have c0:w2.cell? ⟨g,0,none⟩=some (.int .i64 (tk:Int)):=HB.out.cell 0
 have c1:w2.cell? ⟨g,1,none⟩=some (.string ⟨tt.toArray⟩):=HB.out.cell 1
 have c2:=HP2.out.c2
 clear hg hg0
 have FIN:Hid (∀ (w4:World) (s4:PSt) (x:ConS) (y':Con),Blk w4 g0 g0 #[.int .i64 0,.int .i64 0,.int .u64 0,.string ⟨#[]⟩,.slice none 0 0] 51→PB w4 b A c ws s4→Oth b w w4→RC (r+1) w4 (Fm (g0+1)) x y' →
   ∀ a0 a1 a2 a3 a4:Value,conA x=#[a0,a1,a2,a3,a4] →
   (RC (r+1) (((((w4.setCell ⟨g0,0,none⟩ a0).setCell ⟨g0,1,none⟩ a1).setCell ⟨g0,2,none⟩ a2).setCell ⟨g0,3,none⟩ a3).setCell ⟨g0,4,none⟩ a4) (Fm w.heap.size) x y' ∧
    PB (((((w4.setCell ⟨g0,0,none⟩ a0).setCell ⟨g0,1,none⟩ a1).setCell ⟨g0,2,none⟩ a2).setCell ⟨g0,3,none⟩ a3).setCell ⟨g0,4,none⟩ a4) b A c ws s4 ∧
    Oth b w (((((w4.setCell ⟨g0,0,none⟩ a0).setCell ⟨g0,1,none⟩ a1).setCell ⟨g0,2,none⟩ a2).setCell ⟨g0,3,none⟩ a3).setCell ⟨g0,4,none⟩ a4))):=by
  intro w4 s4 x y' hb hp ho hrc a0 a1 a2 a3 a4 _
  have HW:=(Oth.refl g0 w4).own (i:=0) (v:=a0) |>.own (i:=1) (v:=a1) |>.own (i:=2) (v:=a2) |>.own (i:=3) (v:=a3) |>.own (i:=4) (v:=a4)
  exact ⟨RC.lasts _ (Mv.oth HW (by have:=HG0.out;omega) (Nat.lt_succ_self _)) hrc,hp.apart HW HBG.out,ho.put5 HG0.out⟩
 by_cases he:s.e=0
 ·have b0:((s.e:Int) != 0)=false:=by rw [he];rfl
  have hw:=now_word (ws:=ws) he
  rw [hT.out] at hw
  have HW:=Lib.hid hw
  have HE:=Lib.hid he
  clear hw he
  by_cases h2:tk=2
  ·subst h2
   have hK:Hid ((nowP ws s).k≠6):=by unfold Hid;rw [hT.out];show (2:Nat)≠6;decide
   have hac:atConP ws s=true:=by unfold atConP;rw [HW.out];rfl
   have hx:=HR.out
   rw [con_leaf hac HW.out (by omega)] at hx
   simp only [Prod.mk.injEq] at hx
   obtain ⟨rfl,rfl⟩:=hx
   clear HR hac
   go_wp2_with fail
   refine (dnext_any HP2.out HE.out hK.out).mono ?_;rintro e w4 ⟨rfl,hp,ho⟩
   have HP4:=Lib.hid hp
   have HO4:=Lib.hid ((Oth.nx HN1.out).trans ho)
   have HB4:=Lib.hid (ho.blk HB1.out HG0B.out)
   have d2:w4.cell? ⟨g,2,none⟩=some (.int .i64 tn):=(ho.blk HB.out HGB.out).cell 2
   obtain ⟨-,-,-,-,-,f0,f1,f2,f3,f4⟩:=cellsD5 HB4.out
   obtain ⟨r0,r1,r2,r3,r4,-⟩:=cellsD5 HB4.out
   clear hp ho c0 c1 c2
   go_wp2_with fail
   refine bodyPost_ret (results_cell_row rfl _ _ g0 _ _ _ _ rfl (HB4.out.put5).2 Tryz.underlying51 rfl (by kernel_rfl)) rfl ?_
   obtain ⟨k1,k2,k3⟩:=FIN.out w4 _ ⟨1,tn,0,[],.slice none 0 0⟩ (.mk 1 tn 0 [] []) HB4.out HP4.out HO4.out (rc_leaf _ _ _ _) _ _ _ _ _ rfl
   exact ⟨⟨1,tn,0,[],.slice none 0 0⟩,.mk 1 tn 0 [] [],rfl,fun _=>rfl,k1,k2,k3⟩
  by_cases h3:tk=3
  ·subst h3
   have hK:Hid ((nowP ws s).k≠6):=by unfold Hid;rw [hT.out];show (3:Nat)≠6;decide
   have hac:atConP ws s=true:=by unfold atConP;rw [HW.out];rfl
   have hx:=HR.out
   rw [con_leaf hac HW.out (by omega)] at hx
   simp only [Prod.mk.injEq] at hx
   obtain ⟨rfl,rfl⟩:=hx
   clear HR hac h2
   go_wp2_with fail
   refine (dnext_any HP2.out HE.out hK.out).mono ?_;rintro e w4 ⟨rfl,hp,ho⟩
   have HP4:=Lib.hid hp
   have HO4:=Lib.hid ((Oth.nx HN1.out).trans ho)
   have HB4:=Lib.hid (ho.blk HB1.out HG0B.out)
   have d3:w4.cell? ⟨g,3,none⟩=some (.int .u64 (td:Int)):=(ho.blk HB.out HGB.out).cell 3
   obtain ⟨r0,r1,r2,r3,r4,f0,f1,f2,f3,f4⟩:=cellsD5 HB4.out
   clear hp ho c0 c1 c2
   go_wp2_with fail
   refine bodyPost_ret (results_cell_row rfl _ _ g0 _ _ _ _ rfl (HB4.out.put5).2 Tryz.underlying51 rfl (by kernel_rfl)) rfl ?_
   obtain ⟨k1,k2,k3⟩:=FIN.out w4 _ ⟨2,0,td,[],.slice none 0 0⟩ (.mk 2 0 td [] []) HB4.out HP4.out HO4.out (rc_leaf _ _ _ _) _ _ _ _ _ rfl
   exact ⟨⟨2,0,td,[],.slice none 0 0⟩,.mk 2 0 td [] [],rfl,fun _=>rfl,k1,k2,k3⟩
  by_cases h4:tk=4
  ·subst h4
   have hK:Hid ((nowP ws s).k≠6):=by unfold Hid;rw [hT.out];show (4:Nat)≠6;decide
   have hac:atConP ws s=true:=by unfold atConP;rw [HW.out];rfl
   have hx:=HR.out
   rw [con_leaf hac HW.out (by omega)] at hx
   simp only [Prod.mk.injEq] at hx
   obtain ⟨rfl,rfl⟩:=hx
   clear HR hac h2 h3
   go_wp2_with fail
   refine (dnext_any HP2.out HE.out hK.out).mono ?_;rintro e w4 ⟨rfl,hp,ho⟩
   have HP4:=Lib.hid hp
   have HO4:=Lib.hid ((Oth.nx HN1.out).trans ho)
   have HB4:=Lib.hid (ho.blk HB1.out HG0B.out)
   have d1:w4.cell? ⟨g,1,none⟩=some (.string ⟨tt.toArray⟩):=(ho.blk HB.out HGB.out).cell 1
   obtain ⟨r0,r1,r2,r3,r4,f0,f1,f2,f3,f4⟩:=cellsD5 HB4.out
   clear hp ho c0 c1 c2
   go_wp2_with fail
   refine bodyPost_ret (results_cell_row rfl _ _ g0 _ _ _ _ rfl (HB4.out.put5).2 Tryz.underlying51 rfl (by kernel_rfl)) rfl ?_
   obtain ⟨k1,k2,k3⟩:=FIN.out w4 _ ⟨3,0,0,tt,.slice none 0 0⟩ (.mk 3 0 0 tt []) HB4.out HP4.out HO4.out (rc_leaf _ _ _ _) _ _ _ _ _ rfl
   exact ⟨⟨3,0,0,tt,.slice none 0 0⟩,.mk 3 0 0 tt [],rfl,fun _=>rfl,k1,k2,k3⟩
  by_cases h1:tk=1
  ·subst h1
   have hK:Hid ((nowP ws s).k≠6):=by unfold Hid;rw [hT.out];show (1:Nat)≠6;decide
   obtain ⟨B1,hB1⟩:∃ B,Hid (isP ws kTrue s=B):=⟨_,rfl⟩
   obtain ⟨B2,hB2⟩:∃ B,Hid (isP ws kFalse s=B):=⟨_,rfl⟩
   have HB1T:Hid (decide (tt=kTrue)=B1):=by have:=hB1.out;rw [is_name HW.out] at this;exact this
   have HB2T:Hid (decide (tt=kFalse)=B2):=by have:=hB2.out;rw [is_name HW.out] at this;exact this
   clear h2 h3 h4
   go_wp2_with fail
   refine (dword_any HP2.out _ 116 [114,117,101] (Tx.of kTrue) (by decide) B1 hB1.out).mono ?_;rintro e w3 ⟨rfl,hn3⟩
   have HN3:=Lib.hid (HN1.out.trans hn3)
   have HP3:=Lib.hid (HP2.out.nx hn3)
   have HB3:=Lib.hid (HB.out.below hn3)
   have HC3:=Lib.hid (HB1.out.below hn3)
   clear hn3 c0 c1 c2
   by_cases hB12:B1 || B2
   ·have hac:atConP ws s=true:=by
     unfold atConP;dsimp only;rw [HW.out,hB1.out,hB2.out];dsimp only;rw [if_neg (by omega),if_pos rfl,hB12];rfl
    have hx:=HR.out
    rw [con_leaf hac HW.out (by omega)] at hx
    simp only [Prod.mk.injEq] at hx
    obtain ⟨rfl,rfl⟩:=hx
    clear HR hac
    cases B1
    ·obtain rfl:B2=true:=hB12
     go_wp2_with fail
     refine (dword_any HP3.out _ 102 [97,108,115,101] (Tx.of kFalse) (by decide) true hB2.out).mono ?_;rintro e w5 ⟨rfl,hn5⟩
     have HN5:=Lib.hid (HN3.out.trans hn5)
     have HP5:=Lib.hid (HP3.out.nx hn5)
     have HB5:=Lib.hid (HB3.out.below hn5)
     have HC5:=Lib.hid (HC3.out.below hn5)
     clear hn5
     go_wp2_with fail
     refine (dnext_any HP5.out HE.out hK.out).mono ?_;rintro e w4 ⟨rfl,hp,ho⟩
     have HP4:=Lib.hid hp
     have HO4:=Lib.hid ((Oth.nx HN5.out).trans ho)
     have HB4:=Lib.hid (ho.blk HC5.out HG0B.out)
     have d1:w4.cell? ⟨g,1,none⟩=some (.string ⟨tt.toArray⟩):=(ho.blk HB5.out HGB.out).cell 1
     obtain ⟨r0,r1,r2,r3,r4,f0,f1,f2,f3,f4⟩:=cellsD5 HB4.out
     clear hp ho
     go_wp2_with fail
     refine bodyPost_ret (results_cell_row rfl _ _ g0 _ _ _ _ rfl (HB4.out.put5).2 Tryz.underlying51 rfl (by kernel_rfl)) rfl ?_
     obtain ⟨k1,k2,k3⟩:=FIN.out w4 _ ⟨4,0,0,tt,.slice none 0 0⟩ (.mk 4 0 0 tt []) HB4.out HP4.out HO4.out (rc_leaf _ _ _ _) _ _ _ _ _ rfl
     exact ⟨⟨4,0,0,tt,.slice none 0 0⟩,.mk 4 0 0 tt [],rfl,fun _=>rfl,k1,k2,k3⟩
    ·clear hB12
     go_wp2_with fail
     refine (dnext_any HP3.out HE.out hK.out).mono ?_;rintro e w4 ⟨rfl,hp,ho⟩
     have HP4:=Lib.hid hp
     have HO4:=Lib.hid ((Oth.nx HN3.out).trans ho)
     have HB4:=Lib.hid (ho.blk HC3.out HG0B.out)
     have d1:w4.cell? ⟨g,1,none⟩=some (.string ⟨tt.toArray⟩):=(ho.blk HB3.out HGB.out).cell 1
     obtain ⟨r0,r1,r2,r3,r4,f0,f1,f2,f3,f4⟩:=cellsD5 HB4.out
     clear hp ho
     go_wp2_with fail
     refine bodyPost_ret (results_cell_row rfl _ _ g0 _ _ _ _ rfl (HB4.out.put5).2 Tryz.underlying51 rfl (by kernel_rfl)) rfl ?_
     obtain ⟨k1,k2,k3⟩:=FIN.out w4 _ ⟨4,0,0,tt,.slice none 0 0⟩ (.mk 4 0 0 tt []) HB4.out HP4.out HO4.out (rc_leaf _ _ _ _) _ _ _ _ _ rfl
     exact ⟨⟨4,0,0,tt,.slice none 0 0⟩,.mk 4 0 0 tt [],rfl,fun _=>rfl,k1,k2,k3⟩
   ·have hno1:B1=false:=by cases B1 <;> simp_all
    have hno2:B2=false:=by cases B2 <;> simp_all
    subst hno1 hno2
    obtain ⟨⟨lq,sq⟩,hQ⟩:∃ q,Hid (qualN ws s=q):=⟨_,rfl⟩
    have hx:=HR.out
    rw [con_far HW.out (by simpa using HB1T.out) (by simpa using HB2T.out),hQ.out] at hx
    simp only [Prod.mk.injEq] at hx
    obtain ⟨hy,rfl⟩:=hx
    have HY:Hid (sq.e=0→.mk 4 0 0 lq []=y):=by
     intro hs
     rw [← hy]
     cases hq:atQualP ws s
     ·exfalso
      have:=hQ.out
      rw [qualN_no hq] at this
      simp only [Prod.mk.injEq] at this
      rw [← this.2] at hs
      exact fail2_e s hs
     ·rfl
    clear HR hB12 hy
    go_wp2_with fail
    refine (dword_any HP3.out _ 102 [97,108,115,101] (Tx.of kFalse) (by decide) false hB2.out).mono ?_;rintro e w5 ⟨rfl,hn5⟩
    have HN5:=Lib.hid (HN3.out.trans hn5)
    have HP5:=Lib.hid (HP3.out.nx hn5)
    have HC5:=Lib.hid (HC3.out.below hn5)
    have c0:w5.cell? ⟨g,0,none⟩=some (.int .i64 1):=(HB3.out.below hn5).cell 0
    clear hn5
    go_wp2_with fail
    refine (dfar_any HP5.out lq sq hQ.out).mono ?_;rintro e w4 ⟨rfl,hp,ho⟩
    have HP4:=Lib.hid hp
    have HO4:=Lib.hid ((Oth.nx HN5.out).trans ho)
    have HB4:=Lib.hid (ho.blk HC5.out HG0B.out)
    obtain ⟨r0,r1,r2,r3,r4,f0,f1,f2,f3,f4⟩:=cellsD5 HB4.out
    clear hp ho c0
    go_wp2_with fail
    refine bodyPost_ret (results_cell_row rfl _ _ g0 _ _ _ _ rfl (HB4.out.put5).2 Tryz.underlying51 rfl (by kernel_rfl)) rfl ?_
    obtain ⟨k1,k2,k3⟩:=FIN.out w4 _ ⟨4,0,0,lq,.slice none 0 0⟩ (.mk 4 0 0 lq []) HB4.out HP4.out HO4.out (rc_leaf _ _ _ _) _ _ _ _ _ rfl
    exact ⟨⟨4,0,0,lq,.slice none 0 0⟩,.mk 4 0 0 lq [],rfl,HY.out,k1,k2,k3⟩
  ·have b1:((tk:Int) == 1)=false:=by rw [beq_eq_false_iff_ne];omega
   have b2:((tk:Int) == 2)=false:=by rw [beq_eq_false_iff_ne];omega
   have b3:((tk:Int) == 3)=false:=by rw [beq_eq_false_iff_ne];omega
   have b4:((tk:Int) == 4)=false:=by rw [beq_eq_false_iff_ne];omega
   have hno:∀ (x:UInt8) (m:List UInt8),ltB x=true→isP ws (x :: m) s=false:=by
    intro x m hx
    rw [is_word H.out.ok x m hx,HW.out]
    dsimp only
    rw [decide_eq_false h1];rfl
   have hT1:=Lib.hid (hno 116 [114,117,101] (by decide))
   have hT2:=Lib.hid (hno 102 [97,108,115,101] (by decide))
   obtain ⟨B3,hB3⟩:∃ B,Hid (isP ws [91] s=B):=⟨_,rfl⟩
   obtain ⟨B4,hB4⟩:∃ B,Hid (isP ws [123] s=B):=⟨_,rfl⟩
   have HAC:Hid (atConP ws s=(B3 || B4)):=by unfold Hid atConP;dsimp only;rw [HW.out,hB3.out,hB4.out];dsimp only;rw [if_neg (by omega),if_neg h1]
   clear h1 h2 h3 h4 hno
   go_wp2_with fail
   refine (dword_any HP2.out _ 116 [114,117,101] (Tx.of kTrue) (by decide) false hT1.out).mono ?_;rintro e w3 ⟨rfl,hn3⟩
   have HN3:=Lib.hid (HN1.out.trans hn3)
   have HP3:=Lib.hid (HP2.out.nx hn3)
   have HB3:=Lib.hid (HB.out.below hn3)
   have HC3:=Lib.hid (HB1.out.below hn3)
   clear hn3 c0 c1 c2
   go_wp2_with fail
   refine (dword_any HP3.out _ 102 [97,108,115,101] (Tx.of kFalse) (by decide) false hT2.out).mono ?_;rintro e w5 ⟨rfl,hn5⟩
   have HN5:=Lib.hid (HN3.out.trans hn5)
   have HP5:=Lib.hid (HP3.out.nx hn5)
   have HC5:=Lib.hid (HC3.out.below hn5)
   have c0:w5.cell? ⟨g,0,none⟩=some (.int .i64 (tk:Int)):=(HB3.out.below hn5).cell 0
   clear hn5
   go_wp2_with fail
   refine (dis_any HP5.out _ 91 (Tx.of [91]) (by decide) B3 hB3.out).mono ?_;rintro e w6 ⟨rfl,hn6⟩
   have HN6:=Lib.hid (HN5.out.trans hn6)
   have HP6:=Lib.hid (HP5.out.nx hn6)
   have HC6:=Lib.hid (HC5.out.below hn6)
   clear hn6 c0
   obtain ⟨w7,hw7⟩:∃ w7,w7=w6:=⟨_,rfl⟩
   cases B3
   ·go_wp2_with fail
    refine (dis_any HP6.out _ 123 (Tx.of [123]) (by decide) B4 hB4.out).mono ?_;rintro e w7 ⟨rfl,hn7⟩
    have HN7:=Lib.hid (HN6.out.trans hn7)
    have HP7:=Lib.hid (HP6.out.nx hn7)
    have HC7:=Lib.hid (HC6.out.below hn7)
    clear hn7
    cases B4
    ·have hac:atConP ws s=false:=HAC.out
     have hx:=HR.out
     rw [con_no hac] at hx
     simp only [Prod.mk.injEq] at hx
     obtain ⟨rfl,rfl⟩:=hx
     clear HR hac
     go_wp2_with fail
     refine (dfail_any HP7.out 2 (by decide) (by decide)).mono ?_;rintro e w4 ⟨rfl,hp,ho⟩
     have HP4:=Lib.hid hp
     have HO4:=Lib.hid ((Oth.nx HN7.out).trans ho)
     have HB4:=Lib.hid (ho.blk HC7.out HG0B.out)
     obtain ⟨r0,r1,r2,r3,r4,f0,f1,f2,f3,f4⟩:=cellsD5 HB4.out
     clear hp ho
     go_wp2_with fail
     refine bodyPost_ret (results_cell_row rfl _ _ g0 _ _ _ _ rfl (HB4.out.put5).2 Tryz.underlying51 rfl (by kernel_rfl)) rfl ?_
     obtain ⟨k1,k2,k3⟩:=FIN.out w4 _ ⟨0,0,0,[],.slice none 0 0⟩ con0 HB4.out HP4.out HO4.out rc_con0 _ _ _ _ _ rfl
     exact ⟨⟨0,0,0,[],.slice none 0 0⟩,con0,rfl,fun _=>rfl,k1,k2,k3⟩
    ·have HOP:Hid ((isP ws [91] s || isP ws [123] s)=true):=by unfold Hid;rw [hB3.out,hB4.out];rfl
     go_wp2_with fail
     refine (HI.out _ s HP7.out HOP.out D HD.out y s' HR.out).mono ?_;rintro e w4 ⟨⟨xk,xn,xd,xs,xl⟩,y',rfl,hy,hrc,hp,ho⟩
     obtain ⟨xy,-,xh⟩:=RC.of hrc
     obtain ⟨xA,xc,-,rfl,-,-,-,-,-⟩:=xh.sl conA_size
     clear xh
     rw [show conA ⟨xk,xn,xd,xs,.slice xA xy.length xc⟩=#[.int .i64 (xk:Int),.int .i64 xn,.int .u64 (xd:Int),.string ⟨xs.toArray⟩,.slice xA xy.length xc] from rfl]
     have HY:=Lib.hid hy
     have HRC:=Lib.hid (RC.lasts _ (Mv.less (show g0+1≤w7.heap.size from HC7.out.lt)) hrc)
     have HP4:=Lib.hid hp
     have HO4:=Lib.hid ((Oth.nx HN7.out).trans ho)
     have HB4:=Lib.hid (ho.blk HC7.out HG0B.out)
     obtain ⟨r0,r1,r2,r3,r4,f0,f1,f2,f3,f4⟩:=cellsD5 HB4.out
     clear hp ho hrc hy
     go_wp2_with fail
     refine bodyPost_ret (results_cell_row rfl _ _ g0 _ _ _ _ rfl (HB4.out.put5).2 Tryz.underlying51 rfl (by kernel_rfl)) rfl ?_
     obtain ⟨k1,k2,k3⟩:=FIN.out w4 _ _ _ HB4.out HP4.out HO4.out HRC.out _ _ _ _ _ rfl
     exact ⟨_,_,rfl,HY.out,k1,k2,k3⟩
   ·have HOP:Hid ((isP ws [91] s || isP ws [123] s)=true):=by unfold Hid;rw [hB3.out];rfl
    go_wp2_with fail
    refine (HI.out _ s HP6.out HOP.out D HD.out y s' HR.out).mono ?_;rintro e w4 ⟨⟨xk,xn,xd,xs,xl⟩,y',rfl,hy,hrc,hp,ho⟩
    obtain ⟨xy,-,xh⟩:=RC.of hrc
    obtain ⟨xA,xc,-,rfl,-,-,-,-,-⟩:=xh.sl conA_size
    clear xh
    rw [show conA ⟨xk,xn,xd,xs,.slice xA xy.length xc⟩=#[.int .i64 (xk:Int),.int .i64 xn,.int .u64 (xd:Int),.string ⟨xs.toArray⟩,.slice xA xy.length xc] from rfl]
    have HY:=Lib.hid hy
    have HRC:=Lib.hid (RC.lasts _ (Mv.less (show g0+1≤w6.heap.size from HC6.out.lt)) hrc)
    have HP4:=Lib.hid hp
    have HO4:=Lib.hid ((Oth.nx HN6.out).trans ho)
    have HB4:=Lib.hid (ho.blk HC6.out HG0B.out)
    obtain ⟨r0,r1,r2,r3,r4,f0,f1,f2,f3,f4⟩:=cellsD5 HB4.out
    clear hp ho hrc hy
    go_wp2_with fail
    refine bodyPost_ret (results_cell_row rfl _ _ g0 _ _ _ _ rfl (HB4.out.put5).2 Tryz.underlying51 rfl (by kernel_rfl)) rfl ?_
    obtain ⟨k1,k2,k3⟩:=FIN.out w4 _ _ _ HB4.out HP4.out HO4.out HRC.out _ _ _ _ _ rfl
    exact ⟨_,_,rfl,HY.out,k1,k2,k3⟩
 ·have b0:((s.e:Int) != 0)=true:=by rw [bne_iff_ne];omega
  have hx:=HR.out
  rw [er_con he] at hx
  simp only [Prod.mk.injEq] at hx
  obtain ⟨rfl,rfl⟩:=hx
  obtain ⟨r0,r1,r2,r3,r4,f0,f1,f2,f3,f4⟩:=cellsD5 HB1.out
  clear HR he
  go_wp2_with fail
  refine bodyPost_ret (results_cell_row rfl _ _ g0 _ _ _ _ rfl (HB1.out.put5).2 Tryz.underlying51 rfl (by kernel_rfl)) rfl ?_
  obtain ⟨k1,k2,k3⟩:=FIN.out w2 _ ⟨0,0,0,[],.slice none 0 0⟩ con0 HB1.out HP2.out (Oth.nx HN1.out) rc_con0 _ _ _ _ _ rfl
  exact ⟨⟨0,0,0,[],.slice none 0 0⟩,con0,rfl,fun _=>rfl,k1,k2,k3⟩
end
end Go.Proofs.YtpfecpcgdfbekaaGreatDoor
