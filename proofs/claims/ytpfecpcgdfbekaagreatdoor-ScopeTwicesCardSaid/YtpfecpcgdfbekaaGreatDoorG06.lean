/- The contract of the document's lexer: a whole number in tens. -/
import Derived.Test.YtpfecpcgdfbekaaGreatDoorG04
import Derived.Test.YtpfecpcgdfbekaaGreatDoorG05
import Derived.Deep.CutBlock
import Derived.Deep.DeepCutAuto
import Derived.Deep.Light
set_option linter.unusedVariables false
set_option linter.unusedSimpArgs false
set_option linter.unnecessarySimpa false
namespace Go.Proofs.YtpfecpcgdfbekaaGreatDoor
open Go.RowKit
set_option maxRecDepth 100000 in
set_option maxHeartbeats 25600000 in
theorem refNumber_whole (b:Nat) (s:ByteArray) (l:List UInt8) (o:Nat) (w:World) (hB:Lxb w b s o 0 0) (hl:Tx s l) (ho:o<l.length) (hs:(l.length:Int)≤7000) (hd:decN (l.drop o)≠0) (hx:hexN (l.drop o)=0) (hw:wholeB ((l.drop o).take (decN (l.drop o)))=true) (he:∀ S D F X,Parts (l.drop o) S D F X→isE (l.drop (o+S+D+F))=false) :
  Calls Tryz.prog 96 #[.pointer (some ⟨b,0,none⟩)] w fun e' w'=>WordR e' b s o (numW (l.drop o)) w w':=by
 have hz:(s.size:Int)=(l.length:Int):=by rw [hl.size]
 have HL:=Lib.hid hl
 have HXH:=Lib.hid hx
 have HEV:=Lib.hid he
 clear hx he
 obtain ⟨g,hg⟩:∃ g,w.heap.size=g:=⟨_,rfl⟩
 have hbg:b<g:=by rw [← hg];exact hB.lt
 have hT0:=Blk.new w #[.int .i64 0,.string ⟨#[]⟩,.int .i64 0,.int .u64 0,.int .i64 0] 124
 rw [hg] at hT0
 have hN0:Nx w (w.alloc (Obj.cells #[.int .i64 0,.string ⟨#[]⟩,.int .i64 0,.int .u64 0,.int .i64 0] 124)):=nx0 _ _
 have HB0:Hid (Lxb (w.alloc (Obj.cells #[.int .i64 0,.string ⟨#[]⟩,.int .i64 0,.int .u64 0,.int .i64 0] 124)) b s o 0 0):=hB.below hN0
 obtain ⟨S,D,F,X,hP⟩:=parts_of _ hd
 have HP:=Lib.hid hP
 have hfx:F=0∧X=0:=by
  have:=hP.whole
  rw [hw] at this
  simpa using this.symm
 have HFZ:=Lib.hid hfx.1
 have HXZ:=Lib.hid hfx.2
 clear hfx hw
 have hPl:=hP.len.2
 rw [List.length_drop] at hPl
 have hgw:w.heap.size≤g:=by omega
 have ho7:(o:Int)≤7000:=by omega
 have hoI:(o:Int)<(s.size:Int):=by omega
 obtain ⟨W,hW0⟩:∃ W,Hid (numW (l.drop o)=W):=⟨_,rfl⟩
 rw [hW0.out]
 obtain ⟨c,r,hcr⟩:∃ c r,Hid (l.drop o=c :: r):=⟨l[o],_,List.drop_eq_getElem_cons ho⟩
 obtain ⟨-,hos,hoc⟩:=HL.out.byte o c r hcr.out
 have HD:=Lib.hid hd
 have hDG:digN (l.drop (o+S))=D:=by have:=hP.d;rw [List.drop_drop] at this;exact this
 have hFR:fracN (l.drop (o+S+D))=F:=by have:=hP.f;rw [List.drop_drop,← Nat.add_assoc] at this;exact this
 have hEX:expN (l.drop (o+S+D+F))=X:=by have:=hP.x;rw [List.drop_drop,← Nat.add_assoc,← Nat.add_assoc] at this;exact this
 have HDG:=Lib.hid hDG
 have HFR:=Lib.hid hFR
 have HEX:=Lib.hid hEX
 clear hl hB hP hd hDG hFR hEX
 go_enter Tryz.func96,Tryz.ntmps96
 obtain ⟨c0,c1,c2,c3,f0,f1,f2,f3⟩:=Lxb.cells HB0.out
 go_upto_region 2 with fail
 generalize hW1:World.alloc _ _=w1 at *
 have HT1:=Lib.hid hT0
 clear hW1 hT0
 obtain ⟨HB,hHB⟩:∃ HB:Bool,Hid (decide (hexN (l.drop o)≠0)=HB):=⟨_,rfl⟩
 go_cut [38] (fun v wx=>v = .bool HB∧w1=wx)
 case first=>as_aux_lemma =>
  rename_i J K2 h1 h2;revert h1 h2;go_light;intro h1 h2
  have hcase:=hex_case s l o HL.out (by omega)
  rw [hHB.out] at hcase
  obtain ⟨ST,hST⟩:∃ ST:Bool,Hid (decide ((l.drop o).head? = some 48∧((l.drop o).drop 1).head? = some 120)=ST):=⟨_,rfl⟩
  have hsta:=fun w=>starts_any s l o 48 120 w HL.out (by omega) (by omega)
  rw [hST.out] at hcase hsta
  rcases hcase with ⟨rfl,rfl⟩ | ⟨rfl,⟨q1,q2,rfl⟩ | ⟨c,K,hp,-,q1,q2,q3,q4,q5,q6,q7,rfl⟩⟩
  ·go_wp2_with fail
   refine (hsta _).mono ?_;rintro e w' ⟨rfl,rfl⟩
   go_wp2_with fail
   go_meet
   exact ⟨rfl,rfl⟩
  ·go_wp2_with fail
   refine (hsta _).mono ?_;rintro e w' ⟨rfl,rfl⟩
   go_wp2_with fail
   go_meet
   exact ⟨rfl,rfl⟩
  ·obtain ⟨hx1,hx2⟩:=hexI_of c
   have hhx:=fun w=>refHex_any c w
   cases hH:isHexS c
   ·rw [hx2 hH] at hhx
    go_wp2_with fail
    refine (hsta _).mono ?_;rintro e w' ⟨rfl,rfl⟩
    go_wp2_with fail
    refine (hhx _).mono ?_;rintro e w' ⟨rfl,rfl⟩
    go_wp2_with fail
    go_meet
    exact ⟨congrArg _ hH.symm,rfl⟩
   ·obtain ⟨hx3,hx4⟩:=hx1 hH
    rw [hx3] at hhx
    go_wp2_with fail
    refine (hsta _).mono ?_;rintro e w' ⟨rfl,rfl⟩
    go_wp2_with fail
    refine (hhx _).mono ?_;rintro e w' ⟨rfl,rfl⟩
    go_wp2_with fail
    go_meet
    exact ⟨congrArg _ hH.symm,rfl⟩
 case rest=>as_aux_lemma =>
  obtain ⟨rfl,rfl⟩:=hcut
  cases HB
  ·go_upto_region 4 with fail
   have hx0:hexN (l.drop o)=0:=by
    have:=hHB.out
    rw [decide_eq_false_iff_not] at this
    omega
   have HX0:=Lib.hid hx0
   have hsg:=sign_case c r
   rw [← hcr.out,HP.out.s] at hsg
   have HSG:=Lib.hid hsg
   clear hx0 hsg
   go_cut [62] (fun v wx=>v = .bool (decide (S=1))∧∃ m,wx=w1.drewN m)
   case first=>as_aux_lemma =>
    rename_i J K2 h1 h2;revert h1 h2;go_light;intro h1 h2
    rcases HSG.out with ⟨h1,h2⟩ | ⟨h1,h2,h3⟩ | ⟨h1,h2,h3⟩
    ·have k1:((c.toNat:Int) == 43)=true:=by rw [beq_iff_eq];omega
     have k2:decide (S=1)=true:=decide_eq_true h2
     have K2:=Lib.hid k2
     clear h1 h2 k2
     go_wp2_with fail
     go_quiet (fail)
     go_wp2_with fail
     go_meet
     exact ⟨congrArg _ K2.out.symm,_,rfl⟩
    ·have k1:((c.toNat:Int) == 43)=false:=by rw [beq_eq_false_iff_ne];omega
     have k3:((c.toNat:Int) == 45)=true:=by rw [beq_iff_eq];omega
     have k2:decide (S=1)=true:=decide_eq_true h3
     have K2:=Lib.hid k2
     clear h1 h2 h3 k2
     go_wp2_with fail
     go_quiet (fail)
     go_wp2_with fail
     go_meet
     exact ⟨congrArg _ K2.out.symm,_,rfl⟩
    ·have k1:((c.toNat:Int) == 43)=false:=by rw [beq_eq_false_iff_ne];omega
     have k3:((c.toNat:Int) == 45)=false:=by rw [beq_eq_false_iff_ne];omega
     have k2:decide (S=1)=false:=decide_eq_false (by omega)
     have K2:=Lib.hid k2
     clear h1 h2 h3 k2
     go_wp2_with fail
     go_quiet (fail)
     go_wp2_with fail
     go_meet
     exact ⟨congrArg _ K2.out.symm,_,rfl⟩
   case rest=>as_aux_lemma =>
    obtain ⟨rfl,m1,rfl⟩:=hcut
    have HB1:Hid (Lxb (w1.drewN m1) b s o 0 0):=HB0.out.drew _
    have HO1:Hid (Oth b w1 (w1.drewN m1)):=Oth.nx ((Nx.refl _).dr _)
    generalize World.drewN _ _=w2 at *
    clear c0 c1 c2 c3 f0 f1 f2 f3
    obtain ⟨c0,c1,c2,c3,f0,f1,f2,f3⟩:=Lxb.cells HB1.out
    go_upto_if 62 with fail
    go_cut [] (fun wx=>Lxb wx b s (o+S) 0 0∧Oth b w1 wx)
    case first=>as_aux_lemma =>
     rename_i J K2 h1 h2;revert h1 h2;go_light;intro h1 h2
     have hS:S=1∨S=0:=by rcases HSG.out with ⟨-,h⟩ | ⟨-,-,h⟩ | ⟨-,-,h⟩ <;> omega
     have o1:((o+1:Nat):Int)=(o:Int)+1:=by omega
     rcases hS with rfl | rfl
     ·have k2:decide ((1:Nat)=1)=true:=rfl
      rw [k2]
      go_wp2_with fail
      go_meet
      exact ⟨by rw [← o1];exact HB1.out.put1 (o+1),HO1.out.own⟩
     ·have k2:decide ((0:Nat)=1)=false:=rfl
      rw [k2]
      go_wp2_with fail
      go_meet
      exact ⟨HB1.out,HO1.out⟩
    case rest=>as_aux_lemma =>
     obtain ⟨hC2,hO2⟩:=hcut
     have HC2:=Lib.hid hC2
     have HO2:=Lib.hid hO2
     clear c0 c1 c2 c3 f0 f1 f2 f3 HB1 HO1 hC2 hO2
     obtain ⟨c0,c1,c2,c3,f0,f1,f2,f3⟩:=Lxb.cells HC2.out
     go_wp2_with fail
     refine (digits_any b s l (o+S) 0 0 _ HC2.out HL.out (by omega) (by omega)).mono ?_;rintro e w3 ⟨rfl,hC3,hO3⟩
     rw [HDG.out] at hC3 ⊢
     obtain ⟨A2,hA2⟩:∃ A2,o+S+D=A2:=⟨_,rfl⟩
     rw [hA2] at hC3 HFR HEX
     have hA2l:A2≤l.length:=by omega
     have hA2I:(A2:Int)≤7000:=by omega
     have HA2:=Lib.hid hA2
     have HC3:=Lib.hid hC3
     have HO3:=Lib.hid (HO2.out.trans hO3)
     clear c0 c1 c2 c3 f0 f1 f2 f3 HC2 HO2 hC3 hO3 hA2
     obtain ⟨c0,c1,c2,c3,f0,f1,f2,f3⟩:=Lxb.cells HC3.out
     obtain ⟨DB,hDB⟩:∃ DB,Hid (decide (0<D)=DB):=⟨_,rfl⟩
     rw [hDB.out]
     go_upto_region 8 with fail
     obtain ⟨FB,hFB⟩:∃ FB:Bool,Hid (decide (F≠0)=FB):=⟨_,rfl⟩
     go_cut [97] (fun v wx=>v = .bool FB∧∃ m,wx=w3.drewN m)
     case first=>as_aux_lemma =>
      rename_i J K2 h1 h2;revert h1 h2;go_light;intro h1 h2
      have hfc:=frac_case s l A2 HL.out hA2l
      rw [HFR.out] at hfc
      have hhas:=fun n=>has_any b s l A2 0 0 1 (w3.drewN n) (HC3.out.drew n) HL.out (by omega) (by omega) (by omega)
      obtain ⟨H1,hH1⟩:∃ H1,hasD (l.drop (A2+1))=H1:=⟨_,rfl⟩
      rw [hH1] at hfc hhas
      have hF0:F=0→FB=false:=fun h=>by rw [← hFB.out,h];rfl
      have hF1:∀ n,F=1+n→FB=true:=fun n h=>by rw [← hFB.out,decide_eq_true_iff];omega
      have HF0:=Lib.hid hF0
      have HF1:=Lib.hid hF1
      clear hF0 hF1 hH1
      rcases hfc with ⟨q1,q2,q3⟩ | ⟨c',hp,q1,q2,q3,q4,⟨q5,q6⟩ | ⟨q5,⟨rfl,q6⟩ | ⟨rfl,q6⟩⟩⟩
      ·have Q3:=Lib.hid q3
       clear q3
       go_wp2_with fail
       go_quiet (fail)
       go_wp2_with fail
       go_meet
       exact ⟨congrArg _ (HF0.out Q3.out).symm,_,rfl⟩
      ·have Q6:=Lib.hid q6
       clear q6
       go_wp2_with fail
       go_quiet (fail)
       go_wp2_with fail
       go_meet
       exact ⟨congrArg _ (HF0.out Q6.out).symm,_,rfl⟩
      ·have Q6:=Lib.hid q6
       clear q6
       go_wp2_with fail
       go_quiet (exact Calls.quiet_of (hhas _))
       go_wp2_with fail
       go_meet
       exact ⟨congrArg _ (HF0.out Q6.out).symm,_,rfl⟩
      ·exact absurd HFZ.out (by omega)
     case rest=>as_aux_lemma =>
      obtain ⟨rfl,m2,rfl⟩:=hcut
      have HC4:Hid (Lxb (w3.drewN m2) b s A2 0 0):=HC3.out.drew _
      have HO4:Hid (Oth b w1 (w3.drewN m2)):=HO3.out.trans (Oth.nx ((Nx.refl _).dr _))
      generalize World.drewN _ _=w4 at *
      clear c0 c1 c2 c3 f0 f1 f2 f3 HC3 HO3
      obtain ⟨c0,c1,c2,c3,f0,f1,f2,f3⟩:=Lxb.cells HC4.out
      obtain ⟨FF,hFF⟩:∃ FF:Bool,Hid (decide (F=0)=FF):=⟨_,rfl⟩
      go_upto_if 97 with fail
      go_cut [4] (fun v wx=>v = .bool FF∧Lxb wx b s (A2+F) 0 0∧Oth b w1 wx)
      case first=>as_aux_lemma =>
       rename_i J K2 h1 h2;revert h1 h2;go_light;intro h1 h2
       have hfc:=frac_case s l A2 HL.out hA2l
       rw [HFR.out] at hfc
       cases FB
       ·have hf0:F=0:=by
         have:=hFB.out
         rw [decide_eq_false_iff_not] at this
         omega
        have hff:FF=true:=by rw [← hFF.out,hf0];rfl
        subst hff
        have HF:=Lib.hid hf0
        clear hf0 hfc
        go_wp2_with fail
        go_meet
        exact ⟨rfl,by rw [HF.out];exact HC4.out,HO4.out⟩
       ·have hf0:F≠0:=by
         have:=hFB.out
         rw [decide_eq_true_iff] at this
         exact this
        exact absurd HFZ.out hf0
      case rest=>as_aux_lemma =>
       obtain ⟨rfl,hC5,hO5⟩:=hcut
       obtain ⟨A3,hA3⟩:∃ A3,A2+F=A3:=⟨_,rfl⟩
       rw [hA3] at hC5 HEX
       have hA3l:A3≤l.length:=by have:=HA2.out;omega
       have hA3I:(A3:Int)≤7000:=by omega
       have HA3:=Lib.hid hA3
       have HC5:=Lib.hid hC5
       have HO5:=Lib.hid hO5
       clear c0 c1 c2 c3 f0 f1 f2 f3 HC4 HO4 hC5 hO5 hA3
       obtain ⟨c0,c1,c2,c3,f0,f1,f2,f3⟩:=Lxb.cells HC5.out
       go_upto_region 12 with fail
       obtain ⟨EB,hEB⟩:∃ EB:Bool,Hid (isE (l.drop A3)=EB):=⟨_,rfl⟩
       have hEBf:EB=false:=by
        have h:=HEV.out S D F X HP.out
        rw [HA2.out,HA3.out] at h
        rw [← hEB.out];exact h
       go_cut [140] (fun v wx=>v = .bool EB∧Lxb wx b s A3 0 0∧Oth b w1 wx)
       case first=>as_aux_lemma =>
        rename_i J K2 h1 h2;revert h1 h2;go_light;intro h1 h2
        have hec:=exp_case s l A3 HL.out hA3l
        rw [hEB.out] at hec
        rcases hec with ⟨q1,q2,rfl⟩ | ⟨c',hp,q1,q2,q3,q4,⟨q5,q6,rfl⟩ | ⟨q5,rfl⟩ | ⟨q5,q6,rfl⟩⟩
        all_goals try (exact absurd hEBf (by decide))
        all_goals
         go_wp2_with fail
         go_quiet (fail)
         go_wp2_with fail
         go_meet
         exact ⟨rfl,HC5.out.drew _,HO5.out.trans (Oth.nx ((Nx.refl _).dr _))⟩
       case rest=>as_aux_lemma =>
        obtain ⟨rfl,hC6,hO6⟩:=hcut
        have HC6:=Lib.hid hC6
        have HO6:=Lib.hid hO6
        clear c0 c1 c2 c3 f0 f1 f2 f3 HC5 HO5 hC6 hO6
        obtain ⟨c0,c1,c2,c3,f0,f1,f2,f3⟩:=Lxb.cells HC6.out
        obtain ⟨WB,hWB⟩:∃ WB:Bool,Hid ((decide (F=0) && decide (X=0))=WB):=⟨_,rfl⟩
        have hXE:=expN_isE l A3
        rw [HEX.out,hEB.out] at hXE
        have HXE:=Lib.hid hXE
        clear hXE
        go_upto_if 140 with fail
        go_cut [4] (fun v wx=>v = .bool WB∧Lxb wx b s (A3+X) 0 0∧Oth b w1 wx)
        case first=>as_aux_lemma =>
         rename_i J K2 h1 h2;revert h1 h2;go_light;intro h1 h2
         cases EB
         ·have hX0:X=0:=HXE.out.1 rfl
          have hw:WB=FF:=by rw [← hWB.out,← hFF.out,hX0];simp
          subst hw
          have HX:=Lib.hid hX0
          clear hX0
          go_wp2_with fail
          go_meet
          exact ⟨rfl,by rw [HX.out];exact HC6.out,HO6.out⟩
         ·exact absurd hEBf (by decide)
        case rest=>as_aux_lemma =>
         obtain ⟨rfl,hC7,hO7⟩:=hcut
         obtain ⟨A4,hA4⟩:∃ A4,A3+X=A4:=⟨_,rfl⟩
         rw [hA4] at hC7
         obtain ⟨K,hK⟩:∃ K,decN (l.drop o)=K:=⟨_,rfl⟩
         obtain ⟨T,hT⟩:∃ T,(l.drop o).take K=T:=⟨_,rfl⟩
         have hoK:A4=o+K:=by
          have:=HP.out.len.1
          have:=HA2.out
          have:=HA3.out
          omega
         have hA4l:A4≤l.length:=by
          have:=HP.out.len
          omega
         have hWT:numW (l.drop o)=if decE T≠0 then (decE T,0,tok0,0) else if gosR ((l.drop o).drop K) then (2,K,tok0,0) else (0,0,decV T,K):=numW_tens _ HX0.out HD.out K hK T hT
         rw [hW0.out,List.drop_drop,← hoK] at hWT
         have hwb:wholeB T=WB:=by
          rw [← hT,← hK,HP.out.whole,hWB.out]
         have hTn:T≠[]:=by
          intro h
          have h1:T.length=K:=by rw [← hT];simp;omega
          rw [h] at h1
          have:=HD.out
          simp at h1
          omega
         have hTl:(T.length:Int)≤7000:=by rw [← hT];simp;omega
         obtain ⟨u,hu,HU⟩:=HL.out.mid o A4
         have HU2:Hid (Tx u T):=by
          have h:=HU.out
          rw [List.drop_take,show A4 - o=K by omega,hT] at h
          exact h
         have ha1:(o:Int)≤(A4:Int):=by omega
         have ha2:(A4:Int)≤(s.size:Int):=by omega
         have ha3:o≤A4:=by omega
         have HWT:=Lib.hid hWT
         have HWB2:=Lib.hid hwb
         have HTN:=Lib.hid hTn
         have HTL:=Lib.hid hTl
         have HOK:=Lib.hid hoK
         have HA4:=Lib.hid hA4l
         have HC7:=Lib.hid hC7
         have HO7:=Lib.hid hO7
         clear c0 c1 c2 c3 f0 f1 f2 f3 HC6 HO6 hC7 hO7 hA4 hK hT hoK hA4l hWT hwb hTn hTl HU
         have hT7:=HO7.out.blk HT1.out (by omega)
         obtain ⟨g2,hg2⟩:∃ g2,wc.heap.size=g2:=⟨_,rfl⟩
         have hgg:g<g2:=by rw [← hg2];exact hT7.lt
         have hO70:=(Oth.nx hN0).trans HO7.out
         go_upto_if 206 with fail
         generalize hW:World.alloc _ _=w8
         have hN8:Nx wc w8:=by rw [← hW];exact nx0 _ _
         have HB8:Hid (Blk w8 g2 g2 #[.int .i64 3,.string ⟨#[]⟩,.int .i64 0,.int .u64 0,.int .i64 (o:Int)] 124):=by rw [← hW,← hg2];exact Blk.new _ _ _
         have HT8:Hid (Blk w8 g g #[.int .i64 0,.string ⟨#[]⟩,.int .i64 0,.int .u64 0,.int .i64 0] 124):=hT7.below hN8
         have HC8:Hid (Lxb w8 b s A4 0 0):=HC7.out.below hN8
         have HO8:Hid (Oth b w w8):=hO70.trans (Oth.nx hN8)
         clear hW hT7 hO70 hN8 HC7 HO7 hg2
         go_cut [7] (fun v wx=>∃ E:Nat,v = .int .i64 (E:Int)∧E=decE T∧∃ (k n:Int) (d:Nat),Blk wx g2 g2 #[.int .i64 k,.string ⟨#[]⟩,.int .i64 n,.int .u64 (d:Int),.int .i64 (o:Int)] 124∧(E=0→k=((decV T).k:Nat)∧n=(decV T).n∧d=(decV T).d)∧Lxb wx b s A4 0 0∧Oth b w wx∧Blk wx g g #[.int .i64 0,.string ⟨#[]⟩,.int .i64 0,.int .u64 0,.int .i64 0] 124)
         case first=>as_aux_lemma =>
          rename_i J K2 h1 h2;revert h1 h2;go_light;intro h1 h2
          have hWBt:WB=true:=by rw [← hWB.out,HFZ.out,HXZ.out];rfl
          cases WB
          ·exact absurd hWBt (by decide)
          ·have HE:Hid (decE T=(wholeS T).2):=by unfold Hid decE;rw [HWB2.out];rfl
           have HV:Hid (decV T=⟨2,[],(wholeS T).1,0,0⟩):=by unfold Hid decV;rw [HWB2.out];rfl
           obtain ⟨t0,t1,t2,t3,t4,z0,z1,z2,z3,z4⟩:=cells5 HB8.out
           go_upto_region 24 with fail
           generalize hW:World.setCell _ _ _=w9
           have HB9:Hid (Blk w9 g2 g2 #[.int .i64 2,.string ⟨#[]⟩,.int .i64 0,.int .u64 0,.int .i64 (o:Int)] 124):=by rw [← hW];exact HB8.out.put 0 _
           have HT9:Hid (Blk w9 g g #[.int .i64 0,.string ⟨#[]⟩,.int .i64 0,.int .u64 0,.int .i64 0] 124):=by rw [← hW];exact HT8.out.other (by omega) 0 _
           have HC9:Hid (Lxb w9 b s A4 0 0):=by rw [← hW];exact HC8.out.other (by omega) 0 _
           have HO9:Hid (Oth b w w9):=by rw [← hW];exact HO8.out.put (by omega) 0 _
           clear hW t0 t1 t2 t3 t4 z0 z1 z2 z3 z4
           have hA4:=HA4.out
           have q0:∀ x:Gr w9,x.1.cell? ⟨b,0,none⟩=some (.string s):=fun x=>(HC9.out.below x.2).cell 0
           have q1:∀ x:Gr w9,x.1.cell? ⟨b,1,none⟩=some (.int .i64 (A4:Int)):=fun x=>(HC9.out.below x.2).cell 1
           refine E.X.wp_region_hyb (st:=15) [(0,true),(1,true),(2,true),(3,true),(4,true),(5,true),(6,true),(7,true),(8,true),(9,true),(10,false),(11,true),(12,true),(13,true),(14,true),(15,false),(16,false)] rfl (by kernel_rfl) ?_
           iterate 10 (refine E.hyb_calm rfl (fun K hK=>?_);go_simp;refine hK _ ?_;clear hK K)
           refine E.hyb_alone rfl (fun wa hna K hK=>?_)
           go_simp
           refine (refTen10_any u T _ HU2.out HTN.out (whole_digits T HWB2.out) (Int.le_trans HTL.out (by decide))).mono ?_;rintro e wb ⟨⟨n,rfl,hn⟩,rfl⟩
           have hnb:=Nx.refl wb
           refine hK _ _ (.inr (Nx.refl _)) ?_
           clear hK K
           iterate 4 (refine E.hyb_calm rfl (fun K hK=>?_);go_simp;refine hK _ ?_;clear hK K)
           refine E.hyb_alone rfl (fun wd hnd K hK=>?_)
           have hN:Nx w9 wd:=nx (nx hna hnb) hnd
           have hBd:=HB9.out.below hN
           obtain ⟨t0,t1,t2,t3,t4,z0,z1,z2,z3,z4⟩:=cells5 hBd
           go_simp
           refine hK _ _ (.inl rfl) ?_
           clear hK K
           refine E.hyb_alone rfl (fun wf hnf K hK=>?_)
           go_simp
           refine hK _ _ (.inr (Nx.refl _)) ?_
           clear hK K
           refine E.hyb_nil (fun we hne=>?_)
           replace hne:=nx hnf hne
           go_wp2_with fail
           go_meet
           have r1:=hBd.put 2 (.int .i64 n)
           have r2:Lxb (wd.setCell ⟨g2,2,none⟩ (.int .i64 n)) b s A4 0 0:=(HC9.out.below hN).other (by omega) 2 (.int .i64 n)
           have r3:=(HO9.out.trans (Oth.nx hN)).put (show w.heap.size≤g2 by omega) 2 (.int .i64 n)
           have r4:=(HT9.out.below hN).other (show g2≠g by omega) 2 (.int .i64 n)
           refine ⟨_,rfl,HE.out.symm,2,n,0,r1.below hne,fun h0=>?_,r2.below hne,r3.trans (Oth.nx hne),r4.below hne⟩
           rw [HV.out]
           exact ⟨rfl,hn h0,rfl⟩
         case rest=>as_aux_lemma =>
          obtain ⟨E,rfl,hE,k,n,d,hB9,hif,hC9,hO9,hT9⟩:=hcut
          have hfin:=numW_fin HWT.out HOK.out
          rw [← hE] at hfin
          obtain ⟨hf1,hf2,hf3⟩:=hfin
          have HIF:=Lib.hid hif
          have HF1:=Lib.hid hf1
          have HF2:=Lib.hid hf2
          have HF3:=Lib.hid hf3
          have HC9:=Lib.hid hC9
          have HO9:=Lib.hid hO9
          have HT9:=Lib.hid hT9
          obtain ⟨t0,t1,t2,t3,t4,-⟩:=cells5 hB9
          clear hE hif hf1 hf2 hf3 hC9 hO9 hT9 hB9
          go_wp2_with fail
          refine (behind_any b s l o A4 k n ⟨#[]⟩ d E _ HC9.out HL.out HA4.out (by omega)).mono ?_;rintro e w' ⟨rfl,hC10,hO10⟩
          have hT10:=hO10.blk HT9.out (by omega)
          rw [HF1.out,HF2.out] at hC10
          have HC10:=Lib.hid hC10
          have HO10:=Lib.hid (HO9.out.trans hO10)
          clear hC10 hO10 t0 t1 t2 t3 t4
          obtain ⟨t0,t1,t2,t3,t4,z0,z1,z2,z3,z4⟩:=cells5 hT10
          go_wp2_with fail
          refine bodyPost_ret (results_cell_row rfl _ _ g _ _ _ _ rfl hT10.put5.2 Tryz.underlying124 rfl (by kernel_rfl)) rfl ?_
          refine ⟨_,_,_,_,_,rfl,A4,Blk.oth5 HC10.out (by omega),fun h0=>?_,HO10.out.put5 hgw⟩
          obtain ⟨e0,e1,e2⟩:=HF3.out h0
          rw [e1,e2]
          exact ⟨tokC_dec T o k n d (HIF.out e0),HOK.out⟩
  ·exact absurd (show hexN (l.drop o)≠0 by
    have:=hHB.out
    rw [decide_eq_true_iff] at this
    exact this) (fun h=>h HXH.out)
end Go.Proofs.YtpfecpcgdfbekaaGreatDoor
