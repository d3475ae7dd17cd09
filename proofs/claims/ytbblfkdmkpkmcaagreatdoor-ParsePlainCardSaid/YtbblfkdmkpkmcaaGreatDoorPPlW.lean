/- ParsePlain: the law returns true and leaves memory as it was. -/
import Derived.Test.YtbblfkdmkpkmcaaGreatDoorParOd
import Derived.Test.YtbblfkdmkpkmcaaGreatDoorPPl
import Derived.Test.YtbblfkdmkpkmcaaGreatDoorRRlxL
set_option linter.unusedVariables false
set_option linter.unusedSimpArgs false
namespace Go.Proofs.YtbblfkdmkpkmcaaGreatDoor
open Go.RowKit
set_option maxRecDepth 100000 in
set_option maxHeartbeats 6400000 in
theorem ParsePlain_walk (s:ByteArray) (w:World) (ht:TabK w) (hm:MaxC w) (hs:s.size≤maxLen) :
  Calls Tryz.prog 9 #[.string s] w fun e w'=>e = .returned (.bool true)∧Nx w w':=by
 obtain ⟨l,hl⟩:∃ l,Tx s l:=⟨_,rfl⟩
 have hz:(s.size:Int)=(l.length:Int):=by rw [hl.size]
 have HT:=Lib.hid ht
 have HM:=Lib.hid hm
 have HL:=Lib.hid hl
 by_cases hlong:60<l.length
 ·have g1:decide ((60:Int)<(s.size:Int))=true:=decide_eq_true (by omega)
  clear ht hm hl hs hz
  go_enter Tryz.func9,Tryz.ntmps9
  go_wp2_with fail
  refine (pbegun_any w HT.out HM.out).mono ?_;rintro e w1 ⟨rfl,hb⟩
  go_wp2_with fail
  go_ret
  exact ⟨rfl,hb⟩
 have hsl:s.size≤60:=by omega
 have hslI:(s.size:Int)≤60:=by omega
 have g1:decide ((60:Int)<(s.size:Int))=false:=decide_eq_false (by omega)
 have g2:¬ (60:Int)<(s.size:Int):=by omega
 obtain ⟨B,hB⟩:∃ B,plainP l=B:=⟨_,rfl⟩
 obtain ⟨er,pl,dn,HP,hgood⟩:∃ er pl dn:Nat,Hid (∀ w,TabK w→MaxC w→Calls Tryz.prog 11 #[.string (⟨#[115,116,114,117,99,116,32]⟩++s++⟨#[32,123,125]⟩)] w fun e w'=>∃ (iA:Option Addr) (im ic:Nat) (sA:Option Addr) (sm sc:Nat) (dA:Option Addr) (dc:Nat),e = .returned (.tuple #[.agg #[.slice iA im ic,.slice sA sm sc,.slice dA dn dc],.int .i64 (er:Int),.int .i64 (pl:Int)]) ∧
   (B=true→∃ gd,dA=some ⟨gd,0,none⟩∧gd<w'.heap.size∧w'.cell? ⟨gd,1,none⟩=some (.string s))∧Nx w w')∧Hid ((B=true→er=0∧dn=1)∧(B=false→NmL l→er=2)):=by
  refine ⟨(parseF ([115,116,114,117,99,116,32]++l++[32,123,125])).2.1,(parseF ([115,116,114,117,99,116,32]++l++[32,123,125])).2.2,(parseF ([115,116,114,117,99,116,32]++l++[32,123,125])).1.defs.length,?_,?_⟩
  ·intro w ht hm
   have hll:(([115,116,114,117,99,116,32]++l++[32,123,125]).length:Int)≤140737488355328:=by simp;omega
   refine (pgen w _ ([115,116,114,117,99,116,32]++l++[32,123,125]) (txApp (txApp (Tx.of [115,116,114,117,99,116,32]) hl) (Tx.of [32,123,125])) hll ht hm).mono ?_
   rintro e w' ⟨iA,ic,sA,sc,dA,dc,rfl,hr,hn⟩
   refine ⟨iA,_,ic,sA,_,sc,dA,dc,rfl,fun hb=>?_,hn⟩
   subst hb
   have hd:=hr.2.2
   rw [parse_struct l (NmL.of_plain hB),if_pos hB] at hd
   obtain ⟨gd,e1,e2,e3,-⟩:=one_def hd
   exact ⟨gd,e1,e2,by rw [e3,hl.eq]⟩
  ·unfold Hid
   refine ⟨fun hb=>?_,fun hb hn=>?_⟩
   ·subst hb
    rw [parse_struct l (NmL.of_plain hB),if_pos hB]
    exact ⟨rfl,rfl⟩
   ·rw [parse_struct l hn,if_neg (by rw [hB,hb];simp)]
 have HBn:=Lib.hid hB
 clear ht hm hl hs hlong hB
 go_enter Tryz.func9,Tryz.ntmps9
 go_wp2_with fail
 refine (pbegun_any w HT.out HM.out).mono ?_;rintro e w1 ⟨rfl,hb⟩
 have HB:=Lib.hid hb
 clear hb
 go_wp2_with fail
 refine (HP.out _ (HT.out.nx HB.out) (HM.out.nx HB.out)).mono ?_;rintro e w9 ⟨iA,im,ic,sA,sm,sc,dA,dc,rfl,hgd,hw9⟩
 obtain ⟨g,hg⟩:∃ g,w9.heap.size=g:=⟨_,rfl⟩
 have hB:=Blk.new w9 #[.slice iA im ic,.slice sA sm sc,.slice dA dn dc] 27
 rw [hg] at hB
 have HBk:=Lib.hid hB
 have hn10:Nx w9 _:=nx0 w9 (.cells #[.slice iA im ic,.slice sA sm sc,.slice dA dn dc] 27)
 have HN10:Hid (Nx w _):=Nx.trans HB.out (Nx.trans hw9 hn10)
 have HGD:Hid (B=true→∃ gd,dA=some ⟨gd,0,none⟩∧gd<w9.heap.size∧(w9.alloc (.cells #[.slice iA im ic,.slice sA sm sc,.slice dA dn dc] 27)).cell? ⟨gd,1,none⟩=some (.string s)):=by
  intro hb
  obtain ⟨gd,e1,e2,e3⟩:=hgd hb
  exact ⟨gd,e1,e2,(hn10.cell (p:=⟨gd,1,none⟩) e2).trans e3⟩
 clear hn10 hw9 hB hgd
 go_upto_region 6 with (fail)
 generalize World.alloc w9 _=w10 at *
 have HGD2:Hid (B=true→∃ gd,dA=some ⟨gd,0,none⟩∧w10.cell? ⟨gd,1,none⟩=some (.string s)):=by
  intro hb
  obtain ⟨gd,e1,e2,e3⟩:=HGD.out hb
  exact ⟨gd,e1,e3⟩
 clear HGD hg
 go_wp2_with fail
 refine (plain_any' w10 _ l HL.out B HBn.out (by omega) (HT.out.nx HN10.out) (HM.out.nx HN10.out)).mono ?_;rintro e w11 ⟨rfl,hn11⟩
 have c2:w11.cell? ⟨g,2,none⟩=some (.slice dA dn dc):=(HBk.out.below hn11).cell 2
 have HN11:=Lib.hid (HN10.out.trans hn11)
 cases B with
 | true =>
  obtain ⟨rfl,rfl⟩:=hgood.out.1 rfl
  obtain ⟨gd,rfl,e3⟩:=HGD2.out rfl
  have hlt:gd<w10.heap.size:=by
   unfold World.cell? at e3
   cases hh:w10.heap[gd]? with
   | none=>rw [hh] at e3;cases e3
   | some o=>exact (Array.getElem?_eq_some_iff.1 hh).1
  have c1:w11.cell? ⟨gd,1,none⟩=some (.string s):=(hn11.cell (p:=⟨gd,1,none⟩) hlt).trans e3
  clear e3 hn11 hlt
  go_wp2_with fail
  go_ret
  exact ⟨rfl,HN11.out⟩
 | false =>
  clear hn11 HGD2
  go_wp2_with fail
  obtain ⟨R,hR⟩:∃ R,Hid (lexS l=R):=⟨_,rfl⟩
  refine (refLex_any s l w11 HL.out (by omega)).mono ?_
  rw [hR.out]
  rintro e w12 ⟨v,rfl,hown,hn12⟩
  have HN12:=Lib.hid (HN11.out.trans hn12)
  obtain ⟨ts,er2,pl2⟩:=R
  dsimp only at hown ⊢
  obtain ⟨A,c,rfl,hc1,hc2,hrd⟩:=hown.sl
  have hgF:=hgood.out.2 (by trivial)
  have HGF:=Lib.hid hgF
  have HRD:=Lib.hid hrd
  clear hgF hown hrd hn12 hgood HBk c2
  by_cases h0:er2=0
  ·subst h0
   by_cases h2:ts.length=2
   ·match ts,h2,hR,HRD with
    | [t0,t1],_,hR,HRD =>
     obtain ⟨gt,rfl,hgt,hct⟩:=HRD.out (by simp)
     have c0:w12.cell? ⟨gt,0,none⟩=some (.int .i64 (t0.k:Int)):=hct 0 (by simp) 0 (by decide)
     have c1:w12.cell? ⟨gt,1,none⟩=some (.string ⟨t0.t.toArray⟩):=hct 0 (by simp) 1 (by decide)
     clear hct HRD
     by_cases hk:t0.k=1
     ·have k1:((t0.k:Int) == 1)=true:=by rw [hk];rfl
      have k1':(t0.k:Int)=1:=by omega
      have hzz:((⟨t0.t.toArray⟩:ByteArray).size:Int)=(t0.t.length:Int):=by rw [(Tx.of t0.t).size]
      by_cases hq:t0.t.length=l.length
      ·have hn:NmL l:=NmL.of_lex (t:=t0) (ts:=[t1]) (by rw [hR.out]) (by rw [hR.out]) hk hq
       have her:er=2:=HGF.out hn
       subst her
       have k2:(((⟨t0.t.toArray⟩:ByteArray).size:Int) == (s.size:Int))=true:=by rw [hzz,hz,hq];simp
       have k2':((⟨t0.t.toArray⟩:ByteArray).size:Int)=(s.size:Int):=by rw [hzz,hz,hq]
       have k3:((t0.t.length:Int) == (l.length:Int))=true:=by rw [hq];simp
       have k3':(t0.t.length:Int)=(l.length:Int):=by omega
       clear hn hzz hk
       go_wp2_with fail
       go_ret
       exact ⟨rfl,HN12.out⟩
      ·have k2':¬ ((⟨t0.t.toArray⟩:ByteArray).size:Int)=(s.size:Int):=by rw [hzz,hz];omega
       have k2:(((⟨t0.t.toArray⟩:ByteArray).size:Int) == (s.size:Int))=false:=by rw [beq_eq_false_iff_ne];exact k2'
       have k3':¬ (t0.t.length:Int)=(l.length:Int):=by omega
       have k3:((t0.t.length:Int) == (l.length:Int))=false:=by rw [beq_eq_false_iff_ne];exact k3'
       clear hzz hk
       go_wp2_with fail
       go_ret
       exact ⟨rfl,HN12.out⟩
     ·have k1':¬ (t0.k:Int)=1:=by omega
      have k1:((t0.k:Int) == 1)=false:=by rw [beq_eq_false_iff_ne];exact k1'
      clear hk hz
      go_wp2_with fail
      go_ret
      exact ⟨rfl,HN12.out⟩
   ·have m1':¬ (ts.length:Int)=2:=by omega
    have m1:((ts.length:Int) == 2)=false:=by rw [beq_eq_false_iff_ne];exact m1'
    clear HRD hz
    go_wp2_with fail
    go_ret
    exact ⟨rfl,HN12.out⟩
  ·have m1':¬ (er2:Int)=0:=by omega
   have m1:((er2:Int) == 0)=false:=by rw [beq_eq_false_iff_ne];exact m1'
   clear HRD hz
   go_wp2_with fail
   go_ret
   exact ⟨rfl,HN12.out⟩
end Go.Proofs.YtbblfkdmkpkmcaaGreatDoor
