/- The contract of the document's lexer: a word. The contract of the document's lexer. -/
import Derived.Test.YtpfecpcgdfbekaaGreatDoorG04
import Derived.Test.YtpfecpcgdfbekaaGreatDoorG05
set_option linter.unusedVariables false
set_option linter.unusedSimpArgs false
set_option linter.unnecessarySimpa false
namespace Go.Proofs.YtpfecpcgdfbekaaGreatDoor
open Go.RowKit
set_option maxRecDepth 100000 in
set_option maxHeartbeats 25600000 in
theorem refWord_of (b:Nat) (s:ByteArray) (l:List UInt8) (hN:NumOk s l) (o:Nat) (w:World) (hB:Lxb w b s o 0 0) (hl:Tx s l) (ho:o≤l.length) (hs:(l.length:Int)≤7000) :
  Calls Tryz.prog 69 #[.pointer (some ⟨b,0,none⟩)] w fun e' w'=>WordR e' b s o (wordS (l.drop o)) w w':=by
 have hz:(s.size:Int)=(l.length:Int):=by rw [hl.size]
 have HL:=Lib.hid hl
 obtain ⟨g,hg⟩:∃ g,w.heap.size=g:=⟨_,rfl⟩
 have hbg:b<g:=by rw [← hg];exact hB.lt
 have hT0:=Blk.new w #[.int .i64 0,.string ⟨#[]⟩,.int .i64 0,.int .u64 0,.int .i64 0] 124
 rw [hg] at hT0
 have hN0:Nx w (w.alloc (Obj.cells #[.int .i64 0,.string ⟨#[]⟩,.int .i64 0,.int .u64 0,.int .i64 0] 124)):=nx0 _ _
 have HB0:Hid (Lxb (w.alloc (Obj.cells #[.int .i64 0,.string ⟨#[]⟩,.int .i64 0,.int .u64 0,.int .i64 0] 124)) b s o 0 0):=hB.below hN0
 have hgw:w.heap.size≤g:=by omega
 have ho7:(o:Int)≤7000:=by omega
 obtain ⟨W,hW0⟩:∃ W,Hid (wordS (l.drop o)=W):=⟨_,rfl⟩
 rw [hW0.out]
 by_cases hend:o=l.length
 ·have hw:W=(0,0,⟨6,[],0,0,0⟩,0):=by
   rw [← hW0.out,List.drop_eq_nil_iff.2 (by omega)];rfl
  subst hw
  have k1:((o:Int) == (l.length:Int))=true:=by rw [beq_iff_eq];omega
  clear hB hl hW0
  go_enter Tryz.func69,Tryz.ntmps69
  obtain ⟨c0,c1,c2,c3,f0,f1,f2,f3⟩:=Lxb.cells HB0.out
  go_upto_region 3 with fail
  generalize hW1:World.alloc _ _=w1 at *
  obtain ⟨t0,t1,t2,t3,t4,z0,z1,z2,z3,z4⟩:=cells5 hT0
  go_wp2_with fail
  refine bodyPost_ret (results_cell_row rfl _ _ g _ _ _ _ rfl hT0.put5.2 Tryz.underlying124 rfl (by kernel_rfl)) rfl ?_
  exact ⟨_,_,_,_,_,rfl,o,Blk.oth5 HB0.out (by omega),fun _=>⟨by rw [hend];rfl,rfl⟩,(Oth.nx hN0).put5 hgw⟩
 ·have ho1:o<l.length:=by omega
  obtain ⟨c,r,hcr⟩:∃ c r,l.drop o=c :: r:=⟨l[o],_,List.drop_eq_getElem_cons ho1⟩
  obtain ⟨-,hos,hoc⟩:=hl.byte o c r hcr
  have hoI:(o:Int)<(s.size:Int):=by omega
  have k1:((o:Int) == (l.length:Int))=false:=by rw [beq_eq_false_iff_ne];omega
  have hw0:=hW0.out
  rw [hcr] at hw0
  have HW:=Lib.hid hw0
  have HCR:=Lib.hid hcr
  obtain ⟨d,hd⟩:∃ d:UInt8,Hid (r.headD 0=d):=⟨_,rfl⟩
  have hdr:hasD r=isDig d:=by
   rw [← hd.out];cases r <;> rfl
  have HDR:=Lib.hid hdr
  obtain ⟨NB,hNB⟩:∃ NB,decide ((o:Int)+1<(l.length:Int))=NB:=⟨_,rfl⟩
  have hnx:(NB=false∧d=0)∨(NB=true∧∃ (K:Nat) (hp:K<s.size),o+1=K∧(o:Int)+1=(K:Int)∧(K:Int)<(s.size:Int)∧IntKind.i64.wrap (K:Int)=(K:Int)∧s[K]'hp=d):=by
   have hdd:l.drop (o+1)=r:=by rw [← List.drop_drop,hcr];rfl
   cases r with
   | nil =>
    left
    have:l.length≤o+1:=by rw [List.drop_eq_nil_iff] at hdd;exact hdd
    exact ⟨by rw [← hNB];exact decide_eq_false (by omega),hd.out.symm⟩
   | cons e t =>
    right
    obtain ⟨h1,h2,h3⟩:=hl.byte (o+1) e t hdd
    have he:e=d:=hd.out
    refine ⟨by rw [← hNB];exact decide_eq_true (by omega),o+1,h2,rfl,by omega,by omega,by rw [IntKind.wrap_i64];omega,by rw [h3];exact he⟩
  have HNX:=Lib.hid hnx
  clear hB hl hW0 hw0 hcr hdr hnx
  go_enter Tryz.func69,Tryz.ntmps69
  obtain ⟨c0,c1,c2,c3,f0,f1,f2,f3⟩:=Lxb.cells HB0.out
  go_upto_if 34 with fail
  generalize hW1:World.alloc _ _=w1 at *
  have HT1:=Lib.hid hT0
  have HN1:=Lib.hid hN0
  clear hW1 hT0 hN0
  go_cut [5] (fun v wx=>v = .int .u8 (d.toNat:Int)∧w1=wx)
  case first=>as_aux_lemma =>
   rcases HNX.out with ⟨rfl,rfl⟩ | ⟨rfl,K,hp,-,q1,q2,q3,q4⟩
   ·go_wp2_with fail
    go_meet
    exact ⟨rfl,rfl⟩
   ·go_wp2_with fail
    go_meet
    exact ⟨rfl,rfl⟩
  case rest=>as_aux_lemma =>
   obtain ⟨rfl,rfl⟩:=hcut
   have bad:W=(2,0,tok0,0)→∀ (w2:World),Hid (Lxb w2 b s o 2 o)→Hid (Oth b w1 w2)→Hid (Blk w2 g g #[.int .i64 0,.string ⟨#[]⟩,.int .i64 0,.int .u64 0,.int .i64 0] 124) →
     WordR (.returned (.agg #[.int .i64 0,.string ⟨#[]⟩,.int .i64 0,.int .u64 0,.int .i64 0])) b s o W w (((((w2.setCell ⟨g,0,none⟩ (.int .i64 0)).setCell ⟨g,1,none⟩ (.string ⟨#[]⟩)).setCell ⟨g,2,none⟩ (.int .i64 0)).setCell ⟨g,3,none⟩ (.int .u64 0)).setCell ⟨g,4,none⟩ (.int .i64 0)):=by
    rintro rfl w2 h1 h2 h3
    exact ⟨_,_,_,_,_,rfl,o,Blk.oth5 h1.out (by omega),fun h=>absurd h (by decide),((Oth.nx HN1.out).trans h2.out).put5 hgw⟩
   have BAD:=Lib.hid bad
   clear bad c0 c1 c2 c3 f0 f1 f2 f3
   have hlt:=fun w=>refLetter_any c w
   have hdg:=fun w=>refDigit_any c w
   have hdn:=fun w=>refDigit_any d w
   obtain ⟨LC,hLC⟩:∃ LC,isLtS c=LC:=⟨_,rfl⟩
   obtain ⟨DC,hDC⟩:∃ DC,isDig c=DC:=⟨_,rfl⟩
   obtain ⟨DN,hDN⟩:∃ DN,isDig d=DN:=⟨_,rfl⟩
   rw [hLC] at hlt
   rw [hDC] at hdg
   rw [hDN] at hdn
   cases LC
   ·
    have hc46:c.toNat=46↔((c.toNat:Int) == 46)=true:=by rw [beq_iff_eq];omega
    have hcases:Hid ((decN (c :: r)≠0∧(DC=true∨(DC=false∧((c.toNat:Int) == 46)=true∧DN=true) ∨
       (DC=false∧((c.toNat:Int) == 46)=false∧(((c.toNat:Int) == 43)=true∨((c.toNat:Int) == 43)=false∧((c.toNat:Int) == 45)=true) ∧
        (DN=true∨(DN=false∧((d.toNat:Int) == 46)=true∧∃ (e:UInt8) (K:Nat) (hp:K<s.size),(o:Int)+2=(K:Int)∧decide ((o:Int)+2<(l.length:Int))=true∧decide ((K:Int)<(l.length:Int))=true∧(K:Int)<(s.size:Int)∧IntKind.i64.wrap (K:Int)=(K:Int)∧s[K]'hp=e∧isDig e=true))))) ∨
      (W=(2,0,tok0,0)∧DC=false∧((c.toNat:Int) == 46)=false∧(((c.toNat:Int) == 43)=true∨((c.toNat:Int) == 43)=false∧((c.toNat:Int) == 45)=true)∧DN=false ∧
        (((d.toNat:Int) == 46)=false∨(((d.toNat:Int) == 46)=true∧(decide ((o:Int)+2<(l.length:Int))=false∨∃ (e:UInt8) (K:Nat) (hp:K<s.size),(o:Int)+2=(K:Int)∧decide ((o:Int)+2<(l.length:Int))=true∧decide ((K:Int)<(l.length:Int))=true∧(K:Int)<(s.size:Int)∧IntKind.i64.wrap (K:Int)=(K:Int)∧s[K]'hp=e∧isDig e=false)))) ∨
      (DC=false∧((c.toNat:Int) == 46)=false∧((c.toNat:Int) == 43)=false∧((c.toNat:Int) == 45)=false∧(((c.toNat:Int) == 34)=true∨((c.toNat:Int) == 34)=false∧((c.toNat:Int) == 39)=true)) ∨
      (W=(if signsL.contains c then (0,0,⟨5,[c],0,0,0⟩,1) else (2,0,tok0,0))∧DC=false∧(((c.toNat:Int) == 46)=false∨((c.toNat:Int) == 46)=true∧DN=false)∧((c.toNat:Int) == 43)=false∧((c.toNat:Int) == 45)=false∧((c.toNat:Int) == 34)=false∧((c.toNat:Int) == 39)=false)):=by
     exact word_cases s l o c r d W DC DN HL.out HCR.out hLC hDC hDN hd.out HDR.out HW.out ho7
    clear hc46
    rcases hcases.out with ⟨hdn0,hk⟩ | ⟨hw2,rfl,b46,hsg,rfl,hk⟩ | ⟨rfl,b46,b43,b45,hq⟩ | ⟨hw2,rfl,hdot,b43,b45,b34,b39⟩
    ·
     have HDC0:Hid (decN (l.drop o)≠0):=by unfold Hid;rw [HCR.out];exact hdn0
     have HWN:Hid (numW (l.drop o)=W):=by unfold Hid;rw [HCR.out,← word_num c r hLC hdn0];exact HW.out
     clear hcases hdn0 HNX hDC hLC hDN
     obtain ⟨c0,c1,c2,c3,f0,f1,f2,f3⟩:=Lxb.cells HB0.out
     rcases hk with rfl | ⟨rfl,b46,rfl⟩ | ⟨rfl,b46,hsg,hk⟩
     ·go_wp2_with fail
      refine (hlt _).mono ?_;rintro e w' ⟨rfl,hww⟩;obtain rfl:=hww.symm
      go_wp2_with fail
      refine (hdg _).mono ?_;rintro e w' ⟨rfl,hww⟩;obtain rfl:=hww.symm
      go_wp2_with fail
      refine (hN b o w1 HB0.out ho1 HDC0.out).mono ?_;rintro e w2 HR
      rw [HWN.out] at HR
      obtain ⟨k,t,v,dd,p,rfl,i',hC,hif,hO⟩:=HR
      have hT2:=hO.blk HT1.out (by omega)
      have HC:=Lib.hid hC
      have HO:=Lib.hid ((Oth.nx HN1.out).trans hO)
      have HIF:=Lib.hid hif
      clear hC hif hO
      obtain ⟨t0,t1,t2,t3,t4,z0,z1,z2,z3,z4⟩:=cells5 hT2
      go_wp2_with fail
      refine bodyPost_ret (results_cell_row rfl _ _ g _ _ _ _ rfl hT2.put5.2 Tryz.underlying124 rfl (by kernel_rfl)) rfl ?_
      exact ⟨_,_,_,_,_,rfl,i',Blk.oth5 HC.out (by omega),HIF.out,HO.out.put5 hgw⟩
     ·go_wp2_with fail
      refine (hlt _).mono ?_;rintro e w' ⟨rfl,hww⟩;obtain rfl:=hww.symm
      go_wp2_with fail
      refine (hdg _).mono ?_;rintro e w' ⟨rfl,hww⟩;obtain rfl:=hww.symm
      go_wp2_with fail
      refine (hdn _).mono ?_;rintro e w' ⟨rfl,hww⟩;obtain rfl:=hww.symm
      go_wp2_with fail
      refine (hN b o w1 HB0.out ho1 HDC0.out).mono ?_;rintro e w2 HR
      rw [HWN.out] at HR
      obtain ⟨k,t,v,dd,p,rfl,i',hC,hif,hO⟩:=HR
      have hT2:=hO.blk HT1.out (by omega)
      have HC:=Lib.hid hC
      have HO:=Lib.hid ((Oth.nx HN1.out).trans hO)
      have HIF:=Lib.hid hif
      clear hC hif hO
      obtain ⟨t0,t1,t2,t3,t4,z0,z1,z2,z3,z4⟩:=cells5 hT2
      go_wp2_with fail
      refine bodyPost_ret (results_cell_row rfl _ _ g _ _ _ _ rfl hT2.put5.2 Tryz.underlying124 rfl (by kernel_rfl)) rfl ?_
      exact ⟨_,_,_,_,_,rfl,i',Blk.oth5 HC.out (by omega),HIF.out,HO.out.put5 hgw⟩
     ·rcases hsg with b43 | ⟨b43,b45⟩
      all_goals
       rcases hk with rfl | ⟨rfl,bd46,e2,K,hp,q1,q2,q3,q4,q5,q6,q7⟩
       ·go_wp2_with fail
        refine (hlt _).mono ?_;rintro e w' ⟨rfl,hww⟩;obtain rfl:=hww.symm
        go_wp2_with fail
        refine (hdg _).mono ?_;rintro e w' ⟨rfl,hww⟩;obtain rfl:=hww.symm
        go_wp2_with fail
        refine (hdn _).mono ?_;rintro e w' ⟨rfl,hww⟩;obtain rfl:=hww.symm
        go_wp2_with fail
        refine (hN b o w1 HB0.out ho1 HDC0.out).mono ?_;rintro e w2 HR
        rw [HWN.out] at HR
        obtain ⟨k,t,v,dd,p,rfl,i',hC,hif,hO⟩:=HR
        have hT2:=hO.blk HT1.out (by omega)
        have HC:=Lib.hid hC
        have HO:=Lib.hid ((Oth.nx HN1.out).trans hO)
        have HIF:=Lib.hid hif
        clear hC hif hO
        obtain ⟨t0,t1,t2,t3,t4,z0,z1,z2,z3,z4⟩:=cells5 hT2
        go_wp2_with fail
        refine bodyPost_ret (results_cell_row rfl _ _ g _ _ _ _ rfl hT2.put5.2 Tryz.underlying124 rfl (by kernel_rfl)) rfl ?_
        exact ⟨_,_,_,_,_,rfl,i',Blk.oth5 HC.out (by omega),HIF.out,HO.out.put5 hgw⟩
       ·have hde:=fun w=>refDigit_any e2 w
        rw [q7] at hde
        go_wp2_with fail
        refine (hlt _).mono ?_;rintro e w' ⟨rfl,hww⟩;obtain rfl:=hww.symm
        go_wp2_with fail
        refine (hdg _).mono ?_;rintro e w' ⟨rfl,hww⟩;obtain rfl:=hww.symm
        go_wp2_with fail
        refine (hdn _).mono ?_;rintro e w' ⟨rfl,hww⟩;obtain rfl:=hww.symm
        go_wp2_with fail
        refine (hde _).mono ?_;rintro e w' ⟨rfl,hww⟩;obtain rfl:=hww.symm
        go_wp2_with fail
        refine (hN b o w1 HB0.out ho1 HDC0.out).mono ?_;rintro e w2 HR
        rw [HWN.out] at HR
        obtain ⟨k,t,v,dd,p,rfl,i',hC,hif,hO⟩:=HR
        have hT2:=hO.blk HT1.out (by omega)
        have HC:=Lib.hid hC
        have HO:=Lib.hid ((Oth.nx HN1.out).trans hO)
        have HIF:=Lib.hid hif
        clear hC hif hO
        obtain ⟨t0,t1,t2,t3,t4,z0,z1,z2,z3,z4⟩:=cells5 hT2
        go_wp2_with fail
        refine bodyPost_ret (results_cell_row rfl _ _ g _ _ _ _ rfl hT2.put5.2 Tryz.underlying124 rfl (by kernel_rfl)) rfl ?_
        exact ⟨_,_,_,_,_,rfl,i',Blk.oth5 HC.out (by omega),HIF.out,HO.out.put5 hgw⟩
    ·
     clear hcases HNX hDC hLC hDN
     obtain ⟨c0,c1,c2,c3,f0,f1,f2,f3⟩:=Lxb.cells HB0.out
     rcases hsg with b43 | ⟨b43,b45⟩
     all_goals
      rcases hk with bd46 | ⟨bd46,q2 | ⟨e2,K,hp,q1,q2,q3,q4,q5,q6,q7⟩⟩
      ·skip
       go_wp2_with fail
       refine (hlt _).mono ?_;rintro e w' ⟨rfl,hww⟩;obtain rfl:=hww.symm
       go_wp2_with fail
       refine (hdg _).mono ?_;rintro e w' ⟨rfl,hww⟩;obtain rfl:=hww.symm
       go_wp2_with fail
       refine (hdn _).mono ?_;rintro e w' ⟨rfl,hww⟩;obtain rfl:=hww.symm
       go_wp2_with fail
       refine (lxfail_any b s o 0 0 2 o w1 HB0.out).mono ?_;rintro e w2 ⟨rfl,hC,hO⟩
       have hT2:=hO.blk HT1.out (by omega)
       have HT2:=Lib.hid hT2
       have HC:=Lib.hid hC
       have HO:=Lib.hid hO
       clear hC hO c0 c1 c2 c3 f0 f1 f2 f3
       obtain ⟨t0,t1,t2,t3,t4,z0,z1,z2,z3,z4⟩:=cells5 hT2
       go_wp2_with fail
       refine bodyPost_ret (results_cell_row rfl _ _ g _ _ _ _ rfl hT2.put5.2 Tryz.underlying124 rfl (by kernel_rfl)) rfl ?_
       exact BAD.out hw2 w2 HC HO HT2
      ·skip
       go_wp2_with fail
       refine (hlt _).mono ?_;rintro e w' ⟨rfl,hww⟩;obtain rfl:=hww.symm
       go_wp2_with fail
       refine (hdg _).mono ?_;rintro e w' ⟨rfl,hww⟩;obtain rfl:=hww.symm
       go_wp2_with fail
       refine (hdn _).mono ?_;rintro e w' ⟨rfl,hww⟩;obtain rfl:=hww.symm
       go_wp2_with fail
       refine (lxfail_any b s o 0 0 2 o w1 HB0.out).mono ?_;rintro e w2 ⟨rfl,hC,hO⟩
       have hT2:=hO.blk HT1.out (by omega)
       have HT2:=Lib.hid hT2
       have HC:=Lib.hid hC
       have HO:=Lib.hid hO
       clear hC hO c0 c1 c2 c3 f0 f1 f2 f3
       obtain ⟨t0,t1,t2,t3,t4,z0,z1,z2,z3,z4⟩:=cells5 hT2
       go_wp2_with fail
       refine bodyPost_ret (results_cell_row rfl _ _ g _ _ _ _ rfl hT2.put5.2 Tryz.underlying124 rfl (by kernel_rfl)) rfl ?_
       exact BAD.out hw2 w2 HC HO HT2
      ·have hde:=fun w=>refDigit_any e2 w
       rw [q7] at hde
       go_wp2_with fail
       refine (hlt _).mono ?_;rintro e w' ⟨rfl,hww⟩;obtain rfl:=hww.symm
       go_wp2_with fail
       refine (hdg _).mono ?_;rintro e w' ⟨rfl,hww⟩;obtain rfl:=hww.symm
       go_wp2_with fail
       refine (hdn _).mono ?_;rintro e w' ⟨rfl,hww⟩;obtain rfl:=hww.symm
       go_wp2_with fail
       refine (hde _).mono ?_;rintro e w' ⟨rfl,hww⟩;obtain rfl:=hww.symm
       go_wp2_with fail
       refine (lxfail_any b s o 0 0 2 o w1 HB0.out).mono ?_;rintro e w2 ⟨rfl,hC,hO⟩
       have hT2:=hO.blk HT1.out (by omega)
       have HT2:=Lib.hid hT2
       have HC:=Lib.hid hC
       have HO:=Lib.hid hO
       clear hC hO c0 c1 c2 c3 f0 f1 f2 f3
       obtain ⟨t0,t1,t2,t3,t4,z0,z1,z2,z3,z4⟩:=cells5 hT2
       go_wp2_with fail
       refine bodyPost_ret (results_cell_row rfl _ _ g _ _ _ _ rfl hT2.put5.2 Tryz.underlying124 rfl (by kernel_rfl)) rfl ?_
       exact BAD.out hw2 w2 HC HO HT2
    ·
     have hcq:c.toNat=34∨c.toNat=39:=by
      rcases hq with h | ⟨-,h⟩
      ·left;have:=beq_iff_eq.1 h;omega
      ·right;have:=beq_iff_eq.1 h;omega
     obtain ⟨M,hM⟩:∃ M,quoteM c r=M:=⟨_,rfl⟩
     have hMr:M≤r.length:=by rw [← hM];exact spanN_le _ _
     have hrl:r.length=l.length - o - 1:=by
      have:=congrArg List.length HCR.out
      simp at this;omega
     have hro:l.drop (o+1)=r:=by rw [← List.drop_drop,HCR.out];rfl
     have hqt:=word_quote c r hcq
     rw [hM,HW.out] at hqt
     have HQT:=Lib.hid hqt
     have HM:=Lib.hid hM
     have HRO:=Lib.hid hro
     have ho2:o+1+M≤l.length:=by omega
     clear hcases HNX hDC hLC hDN hqt hM hro hMr hrl hcq
     obtain ⟨c0,c1,c2,c3,f0,f1,f2,f3⟩:=Lxb.cells HB0.out
     rcases hq with b34 | ⟨b34,b39⟩
     all_goals
      go_wp2_with fail
      refine (hlt _).mono ?_;rintro e w' ⟨rfl,hww⟩;obtain rfl:=hww.symm
      go_wp2_with fail
      refine (hdg _).mono ?_;rintro e w' ⟨rfl,hww⟩;obtain rfl:=hww.symm
      go_wp2_with fail
      go_loopw [6] (fun kv wx=>∃ m:Nat,kv = .int .i64 ((o+1+m:Nat):Int)∧m≤M∧wx=w1) (fun kv _=>(20000 - intOf kv).toNat)
      case atStart=>exact ⟨0,congrArg (Value.int .i64) (by omega),Nat.zero_le _,rfl⟩
      case round =>
       obtain ⟨m,rfl,hm,hww⟩:=hrel;obtain rfl:=hww.symm
       obtain ⟨K,hK⟩:∃ K,o+1+m=K:=⟨_,rfl⟩
       rw [hK]
       have hK7:(K:Int)≤7000:=by omega
       by_cases hlt2:m<M
       ·have hsp:=(lxspan_at (fun x=>decide (x≠c) && decide (x≠10)) r m (by rw [show spanN (fun x=>decide (x≠c) && decide (x≠10)) r=M from HM.out];omega)).1 (by rw [show spanN (fun x=>decide (x≠c) && decide (x≠10)) r=M from HM.out];exact hlt2)
        obtain ⟨x,t,hx,hxp⟩:=hsp
        rw [← HRO.out,List.drop_drop,hK] at hx
        obtain ⟨h2l,h2s,h2c⟩:=HL.out.byte K x t hx
        simp at hxp
        have k2:decide ((K:Int)<(l.length:Int))=true:=decide_eq_true (by omega)
        have k3:(K:Int)<(s.size:Int):=by omega
        have k4:((x.toNat:Int) != (c.toNat:Int))=true:=by
         rw [bne_iff_ne];intro h;exact hxp.1 (UInt8.toNat.inj (by omega))
        have k5:((x.toNat:Int) != 10)=true:=by
         rw [bne_iff_ne];intro h;exact hxp.2 (UInt8.toNat.inj (show x.toNat=10 by omega))
        clear hx hxp
        go_wp2_with fail
        go_roundw
        case rel=>exact ⟨m+1,congrArg (Value.int .i64) (by omega),hlt2,trivial⟩
        case measure =>
         simp only [intOf]
         omega
       ·obtain rfl:m=M:=by omega
        clear hlt2
        rcases HQT.out with ⟨hqe,hw2⟩ | ⟨⟨t,hqe⟩,hw2⟩
        ·rw [← HRO.out,List.drop_drop,hK] at hqe
         have hqc:(decide ((K:Int)<(l.length:Int))=false∧¬ K<l.length∧((K:Int) == (l.length:Int))=true)∨(∃ (x:UInt8) (hp:K<s.size),decide ((K:Int)<(l.length:Int))=true∧((K:Int) == (l.length:Int))=false∧K<l.length∧(K:Int)<(s.size:Int)∧s[K]'hp=x∧((x.toNat:Int) != (c.toNat:Int))=true∧((x.toNat:Int) != 10)=false∧((x.toNat:Int) == 10)=true):=by
          rcases hqe with h | ⟨t,h⟩
          ·left
           rw [List.drop_eq_nil_iff] at h
           exact ⟨decide_eq_false (by omega),by omega,by rw [beq_iff_eq];omega⟩
          ·right
           obtain ⟨h2l,h2s,h2c⟩:=HL.out.byte K 10 t h
           refine ⟨10,h2s,decide_eq_true (by omega),by rw [beq_eq_false_iff_ne];omega,h2l,by omega,h2c,?_,rfl,rfl⟩
           rw [bne_iff_ne]
           have e10:((10:UInt8).toNat:Int)=10:=rfl
           rw [e10]
           intro h
           have h':c.toNat=10:=by omega
           have h9:c=10:=UInt8.toNat.inj h'
           subst h9
           first | exact absurd b34 (by decide) | exact absurd b39 (by decide)
         clear hqe
         rcases hqc with ⟨k2,k2n,k3⟩ | ⟨x,hp,k2,k3,k6,k7,k8,k9,k10,k11⟩
         ·go_wp2_with fail
          refine (lxfail_any b s o 0 0 2 o w1 HB0.out).mono ?_;rintro e w2 ⟨rfl,hC,hO⟩
          have hT2:=hO.blk HT1.out (by omega)
          have HT2:=Lib.hid hT2
          have HC:=Lib.hid hC
          have HO:=Lib.hid hO
          clear hC hO c0 c1 c2 c3 f0 f1 f2 f3
          obtain ⟨t0,t1,t2,t3,t4,z0,z1,z2,z3,z4⟩:=cells5 hT2
          go_wp2_with fail
          refine bodyPost_ret (results_cell_row rfl _ _ g _ _ _ _ rfl hT2.put5.2 Tryz.underlying124 rfl (by kernel_rfl)) rfl ?_
          exact BAD.out hw2 w2 HC HO HT2
         ·go_wp2_with fail
          refine (lxfail_any b s o 0 0 2 o w1 HB0.out).mono ?_;rintro e w2 ⟨rfl,hC,hO⟩
          have hT2:=hO.blk HT1.out (by omega)
          have HT2:=Lib.hid hT2
          have HC:=Lib.hid hC
          have HO:=Lib.hid hO
          clear hC hO c0 c1 c2 c3 f0 f1 f2 f3
          obtain ⟨t0,t1,t2,t3,t4,z0,z1,z2,z3,z4⟩:=cells5 hT2
          go_wp2_with fail
          refine bodyPost_ret (results_cell_row rfl _ _ g _ _ _ _ rfl hT2.put5.2 Tryz.underlying124 rfl (by kernel_rfl)) rfl ?_
          exact BAD.out hw2 w2 HC HO HT2
        ·rw [← HRO.out,List.drop_drop,hK] at hqe
         obtain ⟨h2l,h2s,h2c⟩:=HL.out.byte K c t hqe
         have k2:decide ((K:Int)<(l.length:Int))=true:=decide_eq_true (by omega)
         have k3:((K:Int) == (l.length:Int))=false:=by rw [beq_eq_false_iff_ne];omega
         have k4:(K:Int)<(s.size:Int):=by omega
         have k5:((c.toNat:Int) != (c.toNat:Int))=false:=by simp
         have k6:((c.toNat:Int) == 10)=false:=by
          rw [beq_eq_false_iff_ne]
          intro h
          have h':c.toNat=10:=by omega
          have h9:c=10:=UInt8.toNat.inj h'
          subst h9
          first | exact absurd b34 (by decide) | exact absurd b39 (by decide)
         obtain ⟨u,hu,HU⟩:=HL.out.mid (o+1) K
         have HU2:Hid (Tx u (r.take m)):=by
          have h:=HU.out
          rw [List.drop_take,HRO.out,show K - (o+1)=m by omega] at h
          exact h
         have ek:((K+1:Nat):Int)=(K:Int)+1:=by omega
         clear hqe HU
         go_upto_region 30 with fail
         generalize hW2:World.setCell _ _ _=w2
         have HC2:Hid (Lxb w2 b s (K+1) 0 0):=by rw [← hW2,← ek];exact HB0.out.put1 (K+1)
         have HO2:Hid (Oth b w1 w2):=by rw [← hW2];exact (Oth.refl _ _).own
         have hT2:Blk w2 g g #[.int .i64 0,.string ⟨#[]⟩,.int .i64 0,.int .u64 0,.int .i64 0] 124:=HO2.out.blk HT1.out (by omega)
         clear hW2 c0 c1 c2 c3 f0 f1 f2 f3
         obtain ⟨c0,c1,c2,c3,f0,f1,f2,f3⟩:=Lxb.cells HC2.out
         obtain ⟨t0,t1,t2,t3,t4,z0,z1,z2,z3,z4⟩:=cells5 hT2
         have o1:(o:Int)+1≤(K:Int):=by omega
         have o2:o+1≤K:=by omega
         have o3:(K:Int)≤(s.size:Int):=by omega
         have o4:K≤l.length:=by omega
         go_wp2_with fail
         refine bodyPost_ret (results_cell_row rfl _ _ g _ _ _ _ rfl hT2.put5.2 Tryz.underlying124 rfl (by kernel_rfl)) rfl ?_
         try rw [hw2]
         refine ⟨_,_,_,_,_,rfl,K+1,Blk.oth5 HC2.out (by omega),fun _=>⟨?_,by dsimp only;omega⟩,((Oth.nx HN1.out).trans HO2.out).put5 hgw⟩
         rw [HU2.out.eq];rfl
    ·
     clear hcases HNX hDC hLC hDN
     obtain ⟨c0,c1,c2,c3,f0,f1,f2,f3⟩:=Lxb.cells HB0.out
     have HW2:=Lib.hid hw2
     obtain ⟨u,hu,HU⟩:=HL.out.mid o (o+1)
     have HU2:Hid (Tx u [c]):=by
      have h:=HU.out
      rw [List.drop_take,HCR.out,show o+1 - o=1 by omega] at h
      exact h
     have ek:((o+1:Nat):Int)=(o:Int)+1:=by omega
     have ho1s:(o:Int)+1≤(s.size:Int):=by omega
     clear hw2 HU
     rcases hdot with b46 | ⟨b46,rfl⟩
     ·skip
      go_wp2_with fail
      refine (hlt _).mono ?_;rintro e w' ⟨rfl,hww⟩;obtain rfl:=hww.symm
      go_wp2_with fail
      refine (hdg _).mono ?_;rintro e w' ⟨rfl,hww⟩;obtain rfl:=hww.symm
      go_wp2_with fail
      go_loopw [7] (fun iv wx=>∃ i:Nat,iv = .int .i64 (i:Int)∧i≤13∧Hid (∀ j,j<i→signsL[j]?≠some c)∧wx=w1) (fun iv _=>(13 - intOf iv).toNat)
      case atStart=>exact ⟨0,rfl,Nat.zero_le _,fun j hj=>absurd hj (Nat.not_lt_zero _),rfl⟩
      case round =>
       obtain ⟨i,rfl,hi,HJ,hww⟩:=hrel;obtain rfl:=hww.symm
       by_cases hi13:i<13
       ·have i1:decide ((i:Int)<13)=true:=decide_eq_true (by omega)
        obtain ⟨x,hp,hx,hxs⟩:=sign_byte i hi13
        have i2:(i:Int)<13:=by omega
        by_cases hxc:x=c
        ·subst hxc
         have i3:((x.toNat:Int) == (x.toNat:Int))=true:=by simp
         have hw2:W=(0,0,⟨5,[x],0,0,0⟩,1):=by
          rw [HW2.out,if_pos]
          exact List.contains_iff_mem.2 (List.mem_of_getElem? hxs)
         clear hxs
         go_upto_region 13 with fail
         generalize hW2:World.setCell _ _ _=w2
         have HC2:Hid (Lxb w2 b s (o+1) 0 0):=by rw [← hW2,← ek];exact HB0.out.put1 (o+1)
         have HO2:Hid (Oth b w1 w2):=by rw [← hW2];exact (Oth.refl _ _).own
         have hT2:Blk w2 g g #[.int .i64 0,.string ⟨#[]⟩,.int .i64 0,.int .u64 0,.int .i64 0] 124:=HO2.out.blk HT1.out (by omega)
         clear hW2 c0 c1 c2 c3 f0 f1 f2 f3
         obtain ⟨c0,c1,c2,c3,f0,f1,f2,f3⟩:=Lxb.cells HC2.out
         obtain ⟨t0,t1,t2,t3,t4,z0,z1,z2,z3,z4⟩:=cells5 hT2
         go_wp2_with fail
         refine bodyPost_ret (results_cell_row rfl _ _ g _ _ _ _ rfl hT2.put5.2 Tryz.underlying124 rfl (by kernel_rfl)) rfl ?_
         try rw [hw2]
         refine ⟨_,_,_,_,_,rfl,o+1,Blk.oth5 HC2.out (by omega),fun _=>⟨?_,rfl⟩,((Oth.nx HN1.out).trans HO2.out).put5 hgw⟩
         rw [HU2.out.eq];rfl
        ·have i3:((x.toNat:Int) == (c.toNat:Int))=false:=by
          rw [beq_eq_false_iff_ne];intro h;exact hxc (UInt8.toNat.inj (by omega))
         have HXS:=Lib.hid hxs
         have HXC:=Lib.hid hxc
         clear hxs hxc
         go_wp2_with fail
         go_roundw
         case rel =>
          refine ⟨i+1,congrArg (Value.int .i64) (by omega),by omega,fun j hj=>?_,trivial⟩
          rcases Nat.lt_or_ge j i with h | h
          ·exact HJ.out j h
          ·obtain rfl:j=i:=by omega
           rw [HXS.out]
           intro h;exact HXC.out (Option.some.inj h)
         case measure =>
          simp only [intOf]
          omega
       ·obtain rfl:i=13:=by omega
        have hw2:W=(2,0,tok0,0):=by
         rw [HW2.out,if_neg]
         intro h
         obtain ⟨j,hj⟩:=List.mem_iff_getElem?.1 (List.contains_iff_mem.1 h)
         have hj13:j<13:=by
          rcases Nat.lt_or_ge j 13 with h | h
          ·exact h
          ·rw [List.getElem?_eq_none (show signsL.length≤j from h)] at hj;cases hj
         exact HJ.out j hj13 hj
        go_wp2_with fail
        refine (lxfail_any b s o 0 0 2 o w1 HB0.out).mono ?_;rintro e w2 ⟨rfl,hC,hO⟩
        have hT2:=hO.blk HT1.out (by omega)
        have HT2:=Lib.hid hT2
        have HC:=Lib.hid hC
        have HO:=Lib.hid hO
        clear hC hO c0 c1 c2 c3 f0 f1 f2 f3
        obtain ⟨t0,t1,t2,t3,t4,z0,z1,z2,z3,z4⟩:=cells5 hT2
        go_wp2_with fail
        refine bodyPost_ret (results_cell_row rfl _ _ g _ _ _ _ rfl hT2.put5.2 Tryz.underlying124 rfl (by kernel_rfl)) rfl ?_
        exact BAD.out hw2 w2 HC HO HT2
     ·skip
      go_wp2_with fail
      refine (hlt _).mono ?_;rintro e w' ⟨rfl,hww⟩;obtain rfl:=hww.symm
      go_wp2_with fail
      refine (hdg _).mono ?_;rintro e w' ⟨rfl,hww⟩;obtain rfl:=hww.symm
      go_wp2_with fail
      refine (hdn _).mono ?_;rintro e w' ⟨rfl,hww⟩;obtain rfl:=hww.symm
      go_wp2_with fail
      go_loopw [7] (fun iv wx=>∃ i:Nat,iv = .int .i64 (i:Int)∧i≤13∧Hid (∀ j,j<i→signsL[j]?≠some c)∧wx=w1) (fun iv _=>(13 - intOf iv).toNat)
      case atStart=>exact ⟨0,rfl,Nat.zero_le _,fun j hj=>absurd hj (Nat.not_lt_zero _),rfl⟩
      case round =>
       obtain ⟨i,rfl,hi,HJ,hww⟩:=hrel;obtain rfl:=hww.symm
       by_cases hi13:i<13
       ·have i1:decide ((i:Int)<13)=true:=decide_eq_true (by omega)
        obtain ⟨x,hp,hx,hxs⟩:=sign_byte i hi13
        have i2:(i:Int)<13:=by omega
        by_cases hxc:x=c
        ·subst hxc
         have i3:((x.toNat:Int) == (x.toNat:Int))=true:=by simp
         have hw2:W=(0,0,⟨5,[x],0,0,0⟩,1):=by
          rw [HW2.out,if_pos]
          exact List.contains_iff_mem.2 (List.mem_of_getElem? hxs)
         clear hxs
         go_upto_region 13 with fail
         generalize hW2:World.setCell _ _ _=w2
         have HC2:Hid (Lxb w2 b s (o+1) 0 0):=by rw [← hW2,← ek];exact HB0.out.put1 (o+1)
         have HO2:Hid (Oth b w1 w2):=by rw [← hW2];exact (Oth.refl _ _).own
         have hT2:Blk w2 g g #[.int .i64 0,.string ⟨#[]⟩,.int .i64 0,.int .u64 0,.int .i64 0] 124:=HO2.out.blk HT1.out (by omega)
         clear hW2 c0 c1 c2 c3 f0 f1 f2 f3
         obtain ⟨c0,c1,c2,c3,f0,f1,f2,f3⟩:=Lxb.cells HC2.out
         obtain ⟨t0,t1,t2,t3,t4,z0,z1,z2,z3,z4⟩:=cells5 hT2
         go_wp2_with fail
         refine bodyPost_ret (results_cell_row rfl _ _ g _ _ _ _ rfl hT2.put5.2 Tryz.underlying124 rfl (by kernel_rfl)) rfl ?_
         try rw [hw2]
         refine ⟨_,_,_,_,_,rfl,o+1,Blk.oth5 HC2.out (by omega),fun _=>⟨?_,rfl⟩,((Oth.nx HN1.out).trans HO2.out).put5 hgw⟩
         rw [HU2.out.eq];rfl
        ·have i3:((x.toNat:Int) == (c.toNat:Int))=false:=by
          rw [beq_eq_false_iff_ne];intro h;exact hxc (UInt8.toNat.inj (by omega))
         have HXS:=Lib.hid hxs
         have HXC:=Lib.hid hxc
         clear hxs hxc
         go_wp2_with fail
         go_roundw
         case rel =>
          refine ⟨i+1,congrArg (Value.int .i64) (by omega),by omega,fun j hj=>?_,trivial⟩
          rcases Nat.lt_or_ge j i with h | h
          ·exact HJ.out j h
          ·obtain rfl:j=i:=by omega
           rw [HXS.out]
           intro h;exact HXC.out (Option.some.inj h)
         case measure =>
          simp only [intOf]
          omega
       ·obtain rfl:i=13:=by omega
        have hw2:W=(2,0,tok0,0):=by
         rw [HW2.out,if_neg]
         intro h
         obtain ⟨j,hj⟩:=List.mem_iff_getElem?.1 (List.contains_iff_mem.1 h)
         have hj13:j<13:=by
          rcases Nat.lt_or_ge j 13 with h | h
          ·exact h
          ·rw [List.getElem?_eq_none (show signsL.length≤j from h)] at hj;cases hj
         exact HJ.out j hj13 hj
        go_wp2_with fail
        refine (lxfail_any b s o 0 0 2 o w1 HB0.out).mono ?_;rintro e w2 ⟨rfl,hC,hO⟩
        have hT2:=hO.blk HT1.out (by omega)
        have HT2:=Lib.hid hT2
        have HC:=Lib.hid hC
        have HO:=Lib.hid hO
        clear hC hO c0 c1 c2 c3 f0 f1 f2 f3
        obtain ⟨t0,t1,t2,t3,t4,z0,z1,z2,z3,z4⟩:=cells5 hT2
        go_wp2_with fail
        refine bodyPost_ret (results_cell_row rfl _ _ g _ _ _ _ rfl hT2.put5.2 Tryz.underlying124 rfl (by kernel_rfl)) rfl ?_
        exact BAD.out hw2 w2 HC HO HT2
   ·
    clear HNX hDC hDN
    obtain ⟨c0,c1,c2,c3,f0,f1,f2,f3⟩:=Lxb.cells HB0.out
    have HWN:Hid (((nameS (l.drop o)).1,0,(nameS (l.drop o)).2)=W):=by unfold Hid;rw [HCR.out,← word_name c r hLC];exact HW.out
    clear hLC
    go_wp2_with fail
    refine (hlt _).mono ?_;rintro e w' ⟨rfl,hww⟩;obtain rfl:=hww.symm
    go_wp2_with fail
    refine (refName_any b s l o w1 HB0.out HL.out (by omega) (by omega)).mono ?_;rintro e w2 HR
    rw [HWN.out] at HR
    obtain ⟨k,t,v,dd,p,rfl,i',hC,hif,hO⟩:=HR
    have hT2:=hO.blk HT1.out (by omega)
    have HC:=Lib.hid hC
    have HO:=Lib.hid ((Oth.nx HN1.out).trans hO)
    have HIF:=Lib.hid hif
    clear hC hif hO
    obtain ⟨t0,t1,t2,t3,t4,z0,z1,z2,z3,z4⟩:=cells5 hT2
    go_wp2_with fail
    refine bodyPost_ret (results_cell_row rfl _ _ g _ _ _ _ rfl hT2.put5.2 Tryz.underlying124 rfl (by kernel_rfl)) rfl ?_
    exact ⟨_,_,_,_,_,rfl,i',Blk.oth5 HC.out (by omega),HIF.out,HO.out.put5 hgw⟩
end Go.Proofs.YtpfecpcgdfbekaaGreatDoor
namespace Go.Proofs.YtpfecpcgdfbekaaGreatDoor
open Go.RowKit
theorem next_parts (o:Nat) (m:List UInt8) (n:Nat) (q:Bool) (we wat:Nat) (wt:TokV) (wn:Nat) (h1:skipS m=(n,q)) (h2:wordS (m.drop n)=(we,wat,wt,wn)) :
  nextS o m=if q=false then (2,o+n,tok0,0) else if we≠0 then (we,o+n+wat,tok0,0) else (0,0,{ wt with p:=o+n },n+wn):=by
 unfold nextS
 rw [h1]
 dsimp only
 rw [h2]
set_option maxRecDepth 100000 in
set_option maxHeartbeats 6400000 in
theorem refLex_of (s:ByteArray) (l:List UInt8) (hN:l.length≤2000→NumOk s l) (w:World) (hl:Tx s l) (hs:(l.length:Int)≤140737488355328) :
  Calls Tryz.prog 50 #[.string s] w fun e w'=>∃ v,e = .returned (.tuple #[v,.int .i64 ((lexS l).2.1:Nat),.int .i64 ((lexS l).2.2:Nat)])∧OwnT w' w.heap.size v (lexS l).1∧Nx w w':=by
 have HL:=Lib.hid hl
 have hz:(s.size:Int)=(l.length:Int):=by rw [hl.size]
 obtain ⟨R,hR⟩:∃ R,Hid (lexS l=R):=⟨_,rfl⟩
 rw [hR.out]
 by_cases hlong:2000<l.length
 ·have g1:decide ((2000:Int)<(l.length:Int))=true:=decide_eq_true (by omega)
  have hr:R=([],4,0):=by rw [← hR.out];unfold lexS;rw [if_pos hlong]
  subst hr
  clear hl hlong
  go_enter Tryz.func50,Tryz.ntmps50
  go_wp2_with fail
  go_ret3
  exact ⟨_,rfl,OwnT.nil_ _ _,Nx.refl _⟩
 ·have g1:decide ((2000:Int)<(l.length:Int))=false:=decide_eq_false (by omega)
  have hs2:(l.length:Int)≤2000:=by omega
  have HR:Hid (lexF (l.length+1) 0 l=R):=by unfold Hid;rw [← hR.out];unfold lexS;rw [if_neg hlong]
  obtain ⟨b,hb⟩:∃ b,w.heap.size=b:=⟨_,rfl⟩
  have hB0:=Blk.new w #[.string s,.int .i64 0,.int .i64 0,.int .i64 0] 157
  rw [hb] at hB0
  have hN0:Nx w (w.alloc (Obj.cells #[.string s,.int .i64 0,.int .i64 0,.int .i64 0] 157)):=nx0 _ _
  have hsz:(w.alloc (Obj.cells #[.string s,.int .i64 0,.int .i64 0,.int .i64 0] 157)).heap.size=b+1:=by simp [hb]
  clear hl hlong
  go_enter Tryz.func50,Tryz.ntmps50
  go_wp2_with fail
  generalize hW1:World.alloc _ _=w1 at *
  go_loopw [6] (fun lv wr=>∃ (o f:Nat) (acc:List TokV),OwnT wr (b+1) lv acc∧Lxb wr b s o 0 0∧o≤l.length∧Hid (R=cat acc (lexF f o (l.drop o)))∧l.length - o<f∧acc.length≤o∧Oth b w1 wr) (fun _ wr=>10000 - atL b wr)
  case atStart=>exact ⟨0,l.length+1,[],OwnT.nil_ _ _,hB0,Nat.zero_le _,by unfold Hid;rw [List.drop_zero,cat_nil _ (lexF_zero _ _ _)];exact HR.out.symm,by omega,Nat.zero_le _,Oth.refl _ _⟩
  case round =>
   obtain ⟨o,f,acc,hown,hC,ho,HS,hf,hacc,hO⟩:=hrel
   obtain ⟨f,rfl⟩:∃ k,f=k+1:=⟨f - 1,by omega⟩
   obtain ⟨n,q,hsk⟩:∃ n q,skipS (l.drop o)=(n,q):=⟨_,_,rfl⟩
   obtain ⟨we,wat,wt,wn,hwd⟩:∃ we wat wt wn,wordS ((l.drop o).drop n)=(we,wat,wt,wn):=⟨_,_,_,_,rfl⟩
   have hX:=next_parts o (l.drop o) n q we wat wt wn hsk hwd
   obtain ⟨P,hP⟩:∃ P,o+n=P:=⟨_,rfl⟩
   rw [List.drop_drop,hP] at hwd
   rw [hP] at hX
   have hn:P≤l.length:=by
    have:=skipS_le (l.drop o)
    rw [hsk,List.length_drop] at this
    dsimp only at this
    omega
   have hnl:=next_len o (l.drop o)
   have hE:=lexF_err f o (l.drop o)
   have hD:=lexF_end f o (l.drop o)
   have hMo:=fun h h6=>lexF_more f o (l.drop o) h h6 acc
   rw [hX] at hnl hE hD hMo
   have HE:=Lib.hid hE
   have HD:=Lib.hid hD
   have HMo:=Lib.hid hMo
   have HNL:=Lib.hid hnl
   have HSK:=Lib.hid hsk
   have HWD:=Lib.hid hwd
   have hat:=hC.at_
   have HC:=Lib.hid hC
   have HOWN:=Lib.hid hown
   have HO:=Lib.hid hO
   clear hE hD hMo hnl hC hown hO hX hsk hwd
   go_wp2_with fail
   refine (space_any b s l o _ HC.out HL.out ho (by omega)).mono ?_;rintro e w2 ⟨rfl,h1,h2,ho2⟩
   rw [HSK.out] at h1 h2
   dsimp only at h1 h2
   rw [hP] at h1 h2
   have hO2:=HO.out.trans ho2
   have hown2:=HOWN.out.oth ho2 (by omega)
   have HO2:=Lib.hid hO2
   have HOWN2:=Lib.hid hown2
   cases q
   ·
    have hC2:=h2 rfl
    have HRS:Hid (R=([],2,P)):=by
     unfold Hid;rw [HS.out,HE.out (by simp)];rfl
    have hN2:Nx w w2:=Oth.to hO2 hN0 (by omega)
    have c2:w2.cell? ⟨b,2,none⟩=some (.int .i64 ((2:Nat):Int)):=hC2.cell 2
    have c3:w2.cell? ⟨b,3,none⟩=some (.int .i64 (P:Int)):=hC2.cell 3
    clear h1 h2 hown2 hO2 ho2
    go_wp2_with fail
    go_quiet (fail)
    go_wp2_with fail
    go_ret3
    rw [HRS.out]
    exact ⟨_,rfl,OwnT.nil_ _ _,hN2.dr _⟩
   ·have hC2:=h1 rfl
    have HC2:=Lib.hid hC2
    obtain ⟨c0,c1,c2,c3,-⟩:=Lxb.cells hC2
    clear h1 h2 hown2 hO2 ho2 hC2
    go_wp2_with fail
    refine (refWord_of b s l (hN (by omega)) P _ HC2.out HL.out hn (by omega)).mono ?_;rintro e w3 ⟨k,t,v,d,p,rfl,i',hC3,hif,hO3⟩
    rw [HWD.out] at hC3 hif
    dsimp only at hC3 hif
    have hO3':=HO2.out.trans hO3
    have hown3:=HOWN2.out.oth hO3 (by omega)
    have hsz3:b+1≤w3.heap.size:=by have:=hO3'.size;omega
    clear c0 c1 c2 c3
    by_cases he:we=0
    ·subst he
     obtain ⟨hcs,rfl⟩:=hif rfl
     obtain ⟨hn1,hn2,hn3⟩:=HNL.out rfl
     rw [List.length_drop] at hn1
     obtain ⟨fk,ft,fv,fd,fp⟩:=wt
     unfold tokC at hcs
     simp at hcs
     obtain ⟨rfl,rfl,rfl,rfl,rfl⟩:=hcs
     have hal:(acc.length:Int)≤100000:=by omega
     simp only [Bool.true_eq_false,if_false,ne_eq,not_true_eq_false] at hn1 hn2
     have HD2:=HD.out
     have HMo2:=HMo.out
     simp only [Bool.true_eq_false,if_false,ne_eq,not_true_eq_false] at HD2 HMo2
     have HD3:=Lib.hid HD2
     have HMo3:=Lib.hid HMo2
     have HO3:=Lib.hid hO3'
     have HC3:=Lib.hid hC3
     clear hif HD2 HMo2 hC3 hO3
     go_upto_region 9 with fail
     generalize hW4:World.alloc _ _=w4
     obtain ⟨g7,hg7⟩:∃ g7,w3.heap.size=g7:=⟨_,rfl⟩
     have hne7:u6.ownBlock≠some g7:=by rw [← hg7];exact own_ne hown3
     have hB7:Blk w4 g7 g7 #[.int .i64 (fk:Nat),.string ⟨ft.toArray⟩,.int .i64 v,.int .u64 (fd:Nat),.int .i64 (P:Nat)] 124:=by rw [← hW4,← hg7];exact Blk.new _ _ _
     have hown4:OwnT w4 (b+1) u6 acc:=by rw [← hW4];exact hown3.alloc _
     have hC4:Lxb w4 b s (P+wn) 0 0:=by rw [← hW4];exact HC3.out.alloc _
     have HO4:Hid (Oth b w1 w4):=by rw [← hW4];exact HO3.out.trans (Oth.nx (nx0 _ _))
     have hsz4:b+1≤w4.heap.size:=by have:=HO4.out.size;omega
     have hg7l:g7<w4.heap.size:=hB7.lt
     have HC4:=Lib.hid hC4
     have c2:w4.cell? ⟨b,2,none⟩=some (.int .i64 ((0:Nat):Int)):=hC4.cell 2
     obtain ⟨t0,t1,t2,t3,t4,-⟩:=cells5 hB7
     rw [hg7]
     clear hW4 hown3 hC4
     by_cases h6:fk=6
     ·subst h6
      have HRS:Hid (R=(acc++[⟨6,ft,v,fd,P⟩],0,0)):=by unfold Hid;rw [HS.out,HD3.out trivial rfl];rfl
      go_wp2_with (at_builtin;go_must (refine wpList_appT _ rfl _ _ rfl (b+1) _ acc ⟨6,ft,v,fd,P⟩ rfl (hown4.alloc _) _ rfl (fun j hj=>cell_newT (by simp)) hal (by simp;omega) ?_;intro v3 w5 hown5 hbel5 hold5;have d0:w5.cell? ⟨g7,0,none⟩=some (.int .i64 (6:Int)):=(World.cell?_of_block (hold5 g7 (by simp;omega) hne7)).trans ((hB7.alloc _).cell 0)))
      go_ret3
      rw [HRS.out]
      refine ⟨_,rfl,hown5.less (by omega),?_⟩
      exact Oth.to ((HO4.out.trans (Oth.nx (nx0 _ _))).bel (Nat.le_of_eq hsz) hbel5) hN0 (by omega)
     ·have h6b:((fk:Int) == 6)=false:=by rw [beq_eq_false_iff_ne];omega
      have HRS:Hid (R=cat (acc++[⟨fk,ft,v,fd,P⟩]) (lexF f (P+wn) (l.drop (P+wn)))):=by unfold Hid;rw [HS.out,HMo3.out trivial h6,List.drop_drop,← Nat.add_assoc,hP]
      go_wp2_with (at_builtin;go_must (refine wpList_appT _ rfl _ _ rfl (b+1) _ acc ⟨fk,ft,v,fd,P⟩ rfl (hown4.alloc _) _ rfl (fun j hj=>cell_newT (by simp)) hal (by simp;omega) ?_;intro v3 w5 hown5 hbel5 hold5;have d0:w5.cell? ⟨g7,0,none⟩=some (.int .i64 ((fk:Nat):Int)):=(World.cell?_of_block (hold5 g7 (by simp;omega) hne7)).trans ((hB7.alloc _).cell 0)))
      have hC5:=(HC4.out.alloc (.cells #[.int .i64 (fk:Nat),.string ⟨ft.toArray⟩,.int .i64 v,.int .u64 (fd:Nat),.int .i64 (P:Nat)] 124)).bel hbel5 (by omega)
      go_roundw
      case rel =>
       exact ⟨P+wn,f,acc++[⟨fk,ft,v,fd,P⟩],hown5,hC5,by omega,HRS,by have:=hn2 h6;omega,by have:=hn2 h6;simp;omega,(HO4.out.trans (Oth.nx (nx0 _ _))).bel (Nat.le_of_eq hsz) hbel5⟩
      case measure =>
       have:=Lxb.at_ hC5
       have:=hn2 h6
       omega
    ·have b0:((we:Int) != 0)=true:=by simp;omega
     have HRS:Hid (R=([],we,P+wat)):=by
      unfold Hid;rw [HS.out,HE.out (by simp [he])];simp [cat,he]
     rw [if_neg he] at hC3
     have hN3:Nx w w3:=Oth.to hO3' hN0 (by omega)
     have HC3:=Lib.hid hC3
     clear hif hC3 hO3 hown3
     go_upto_region 9 with fail
     generalize hW4:World.alloc _ _=w4
     have hC4:Lxb w4 b s i' we (P+wat):=by rw [← hW4];exact HC3.out.alloc _
     have hN4:Nx w w4:=by rw [← hW4];exact hN3.al _
     have c2:w4.cell? ⟨b,2,none⟩=some (.int .i64 (we:Int)):=hC4.cell 2
     have c3:w4.cell? ⟨b,3,none⟩=some (.int .i64 ((P+wat:Nat):Int)):=hC4.cell 3
     clear hW4
     go_wp2_with fail
     go_quiet (fail)
     go_wp2_with fail
     go_ret3
     rw [HRS.out]
     exact ⟨_,rfl,OwnT.nil_ _ _,hN4.dr _⟩
end Go.Proofs.YtpfecpcgdfbekaaGreatDoor
