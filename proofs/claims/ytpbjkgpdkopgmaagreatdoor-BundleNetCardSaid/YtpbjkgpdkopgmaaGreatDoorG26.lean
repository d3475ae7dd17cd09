/- The contracts of lists of fields, of methods. -/
import Derived.Test.YtpbjkgpdkopgmaaGreatDoorG25
set_option linter.unusedVariables false
set_option linter.unusedSimpArgs false
set_option linter.unnecessarySimpa false
namespace Go.Proofs.YtpbjkgpdkopgmaaGreatDoor
open Go.RowKit
section
variable {b c:Nat} {A:Option Addr} {ws:List TokV}
theorem stays_true {b:Nat}:Stays b (fun _=>True):=fun _ _ _ _=>trivial
set_option maxRecDepth 100000 in
set_option maxHeartbeats 3200000 in
theorem fields_any {w:World} {s:PSt} (h0:PC w b A c ws s) (u1 u2:ByteArray) (o1 o2:UInt8) (hu1:Tx u1 [o1]) (hu2:Tx u2 [o2]) (l:List Fld) (s':PSt) (hr:fieldsP ws o1 o2 s=(l,s')) :
  Calls Tryz.prog 103 #[.pointer (some ⟨b,0,none⟩),.string u1,.string u2] w fun e w'=>∃ v,e = .returned v∧LF w' (Fm w.heap.size) v l∧PC w' b A c ws s'∧Oth b w w':=by
 have H:=Lib.hid h0
 have HU1:=Lib.hid hu1
 have HU2:=Lib.hid hu2
 have hmf:∀ (fn:Fn) (first cap:Array Value) (w:World),(Instr.makeFunc fn first cap).run Tryz.prog w = .ok (.func fn first cap) w:=fun fn first cap w=>makeFunc_run fn first cap w
 obtain ⟨⟨l1,s1⟩,h1⟩:∃ r,Hid (elemsP ws (atFieldP ws) 30 (fieldP ws) (ws.length+1) [] (needP ws [o1] s)=r):=⟨_,rfl⟩
 have hx:(l1,needP ws [o2] s1)=(l,s'):=by rw [← hr];unfold fieldsP;dsimp only;rw [h1.out]
 simp only [Prod.mk.injEq] at hx
 obtain ⟨rfl,rfl⟩:=hx
 clear h0 hu1 hu2 hr
 go_enter Tryz.func103,Tryz.ntmps103
 go_wp2_with fail
 refine (need_any H.out _ [o1] HU1.out _ rfl).mono ?_;rintro e w1 ⟨rfl,hp1,ho1⟩
 have HP1:=Lib.hid hp1
 have HO1:=Lib.hid ho1
 clear hp1 ho1
 go_wp2_with fail
 refine (elsF_any (E:=fun _=>True) stays_true (atFieldP ws) (fieldP ws) atField_at field_any (prog_field ws) HP1.out trivial 30 (by decide) l1 s1 h1.out).mono ?_;rintro e w2 ⟨v2,rfl,hl2,hp2,ho2⟩
 have HL2:Hid (LF w2 (Fm w.heap.size) v2 l1):=LF.lasts (Mv.less HO1.out.size) hl2
 have HP2:=Lib.hid hp2
 have HO2:=Lib.hid (HO1.out.trans ho2)
 clear hp2 ho2 hl2
 go_wp2_with fail
 refine (need_any HP2.out _ [o2] HU2.out _ rfl).mono ?_;rintro e w3 ⟨rfl,hp3,ho3⟩
 go_wp2_with fail
 go_ret
 exact ⟨v2,rfl,LF.lasts (Mv.oth ho3 (Nat.le_refl _) H.out.bw) HL2.out,hp3,HO2.out.trans ho3⟩
def metQ (ws:List TokV) (s:PSt) (tp:PSt→List UInt8×PSt) (fs:PSt→List Fld×PSt):Met×PSt :=
 let s1:=takeP ws kOneway s
 let r:=if isP ws kVoid s1 then ((wordP ws s1).t,nextP s1) else tp s1
 let n:=plainN ws r.2
 let a:=fs n.2
 let t:=if isP ws kThrows a.2 then fs (nextP a.2) else ([],a.2)
 (⟨n.1,isP ws kOneway s,r.1,a.1,t.1⟩,t.2)
theorem metQ_eq (ws:List TokV) (s:PSt):metP ws s=metQ ws s (typeP ws 12) (fieldsP ws 40 41):=rfl
set_option maxRecDepth 100000 in
set_option maxHeartbeats 6400000 in
theorem met_any {E:World→Prop}:ReadC vluT RM b c A ws E 106 #[.pointer (some ⟨b,0,none⟩)] (atMetP ws) (metP ws):=by
 intro w s h0 _ hp y s' hr
 have HTY:Hid (∀ (w:World) (s:PSt),PC w b A c ws s→∀ (l:List UInt8) (s':PSt),typeP ws 12 s=(l,s') →
   Calls Tryz.prog 96 #[.pointer (some ⟨b,0,none⟩),.int .i64 1] w fun e w'=>e = .returned (.string ⟨l.toArray⟩)∧PC w' b A c ws s'∧Oth b w w'):=fun w s h l s' hr=>type_any h l s' hr
 have HFS:Hid (∀ (w:World) (s:PSt),PC w b A c ws s→∀ (l:List Fld) (s':PSt),fieldsP ws 40 41 s=(l,s') →
   Calls Tryz.prog 103 #[.pointer (some ⟨b,0,none⟩),.string ⟨#[40]⟩,.string ⟨#[41]⟩] w fun e w'=>∃ v,e = .returned v∧LF w' (Fm w.heap.size) v l∧PC w' b A c ws s'∧Oth b w w'):=fun w s h l s' hr=>fields_any h _ _ 40 41 (Tx.of _) (Tx.of _) l s' hr
 rw [metQ_eq] at hr
 generalize typeP ws 12=tp' at *
 generalize fieldsP ws 40 41=fs at *
 obtain ⟨B0,hB0⟩:∃ B,Hid (isP ws kOneway s=B):=⟨_,rfl⟩
 obtain ⟨s1,h1⟩:∃ s1,Hid ((if B0 then nextP s else s)=s1):=⟨_,rfl⟩
 obtain ⟨B1,hB1⟩:∃ B,Hid (isP ws kVoid s1=B):=⟨_,rfl⟩
 obtain ⟨⟨lr,s2⟩,h2⟩:∃ r,Hid ((if B1 then ((wordP ws s1).t,nextP s1) else tp' s1)=r):=⟨_,rfl⟩
 obtain ⟨⟨ln,s3⟩,h3⟩:∃ r,Hid (plainN ws s2=r):=⟨_,rfl⟩
 obtain ⟨⟨la,s4⟩,h4⟩:∃ r,Hid (fs s3=r):=⟨_,rfl⟩
 obtain ⟨B4,hB4⟩:∃ B,Hid (isP ws kThrows s4=B):=⟨_,rfl⟩
 obtain ⟨⟨lt,s5⟩,h5⟩:∃ r,Hid ((if B4 then fs (nextP s4) else ([],s4))=r):=⟨_,rfl⟩
 have hx:((⟨ln,B0,lr,la,lt⟩:Met),s5)=(y,s'):=by
  rw [← hr];unfold metQ takeP;dsimp only;rw [hB0.out,h1.out,hB1.out,h2.out];dsimp only;rw [h3.out];dsimp only;rw [h4.out];dsimp only;rw [hB4.out,h5.out]
 simp only [Prod.mk.injEq] at hx
 obtain ⟨rfl,rfl⟩:=hx
 obtain ⟨g,hg⟩:∃ g,w.heap.size=g:=⟨_,rfl⟩
 have HS1:Hid (St b c A ws g 115 w s #[.string ⟨#[]⟩,.bool false,.string ⟨#[]⟩,.slice none 0 0,.slice none 0 0] (w.alloc (.cells #[.string ⟨#[]⟩,.bool false,.string ⟨#[]⟩,.slice none 0 0,.slice none 0 0] 115))):=St.new h0 hg
 clear h0 hr hp
 go_enter Tryz.func106,Tryz.ntmps106
 go_upto_region 1 with (fail)
 generalize World.alloc w _=w1 at *
 clear hg
 go_wp2_with fail
 refine (take_any' HS1.out.pc _ kOneway (Tx.of _) B0 hB0.out).mono ?_;rintro e w2 ⟨rfl,hp2,ho2⟩
 rw [h1.out] at hp2
 have hs2:=HS1.out.step hp2 ho2
 have c1:w2.cell? ⟨g,1,none⟩=some (.bool false):=hs2.ce 1
 have f1:=hs2.fr 1
 have HS2:Hid (St b c A ws g 115 w s1 #[.string ⟨#[]⟩,.bool B0,.string ⟨#[]⟩,.slice none 0 0,.slice none 0 0] (w2.setCell ⟨g,1,none⟩ (.bool B0))):=hs2.put 1 _ rfl
 clear hp2 ho2 hs2
 go_wp2_with fail
 refine (is_any HS2.out.pc _ kVoid (Tx.of _) B1 hB1.out).mono ?_;rintro e w3 ⟨rfl,hn3⟩
 have HS3:=Lib.hid (HS2.out.nx hn3)
 clear hn3 c1 f1
 go_upto_if 7 with (fail)
 go_cut [] (fun wx=>St b c A ws g 115 w s2 #[.string ⟨#[]⟩,.bool B0,.string ⟨lr.toArray⟩,.slice none 0 0,.slice none 0 0] wx)
 case first =>
  have c2:w3.cell? ⟨g,2,none⟩=some (.string ⟨#[]⟩):=HS3.out.ce 2
  cases B1
  ·have HQ:Hid (tp' s1=(lr,s2)):=h2.out
   go_wp2_with fail
   refine (HTY.out _ _ HS3.out.pc lr s2 HQ.out).mono ?_;rintro e w4 ⟨rfl,hp4,ho4⟩
   have HS4:=Lib.hid (HS3.out.step hp4 ho4)
   clear hp4 ho4 c2
   have c2:w4.cell? ⟨g,2,none⟩=some (.string ⟨#[]⟩):=HS4.out.ce 2
   have f2:=HS4.out.fr 2
   go_wp2_with fail
   go_meet
   case rel=>exact HS4.out.put 2 _ rfl
  ·obtain ⟨⟨tk,tt,tn,td,tp⟩,hT⟩:∃ T,Hid (wordP ws s1=T):=⟨_,rfl⟩
   have hx:=h2.out
   rw [if_pos rfl,hT.out] at hx
   simp only [Prod.mk.injEq] at hx
   obtain ⟨rfl,rfl⟩:=hx
   have HK2:=Lib.hid (is_k hB1.out)
   have F1:∀ w1,(Instr.field 92 (.agg #[.int .i64 (tk:Int),.string ⟨tt.toArray⟩,.int .i64 tn,.int .u64 (td:Int),.int .i64 (tp:Int)]) 1).run Tryz.prog w1 = .ok (.string ⟨tt.toArray⟩) w1:=fun w1=>(tok_field _ _ _ _ _ w1).2.1
   go_wp2_with fail
   refine (next_any HS3.out.pc HK2.out _ _ _ _ _ hT.out).mono ?_;rintro e w4 ⟨rfl,hp4,ho4⟩
   have HS4:=Lib.hid (HS3.out.step hp4 ho4)
   clear hp4 ho4 c2
   have c2:w4.cell? ⟨g,2,none⟩=some (.string ⟨#[]⟩):=HS4.out.ce 2
   have f2:=HS4.out.fr 2
   go_wp2_with fail
   go_meet
   case rel=>exact HS4.out.put 2 _ rfl
 case rest =>
 have HS5:=Lib.hid hcut
 clear hcut
 go_wp2_with fail
 refine (plainN_any HS5.out.pc ln s3 h3.out).mono ?_;rintro e w6 ⟨rfl,hp6,ho6⟩
 have hs6:=HS5.out.step hp6 ho6
 have c0:w6.cell? ⟨g,0,none⟩=some (.string ⟨#[]⟩):=hs6.ce 0
 have f0:=hs6.fr 0
 have HS6:Hid (St b c A ws g 115 w s3 #[.string ⟨ln.toArray⟩,.bool B0,.string ⟨lr.toArray⟩,.slice none 0 0,.slice none 0 0] (w6.setCell ⟨g,0,none⟩ (.string ⟨ln.toArray⟩))):=hs6.put 0 _ rfl
 clear hp6 ho6 hs6
 go_wp2_with fail
 refine (HFS.out _ s3 HS6.out.pc la s4 h4.out).mono ?_;rintro e w7 ⟨v7,rfl,hl7,hp7,ho7⟩
 obtain ⟨aA,ac,ax,rfl,-,-,-,-,-⟩:=hl7.sl fldA_size
 have hs7:=HS6.out.step hp7 ho7
 have c3:w7.cell? ⟨g,3,none⟩=some (.slice none 0 0):=hs7.ce 3
 have f3:=hs7.fr 3
 have HS7:Hid (St b c A ws g 115 w s4 #[.string ⟨ln.toArray⟩,.bool B0,.string ⟨lr.toArray⟩,.slice aA la.length ac,.slice none 0 0] (w7.setCell ⟨g,3,none⟩ (.slice aA la.length ac))):=hs7.put 3 _ rfl
 have HL7:Hid (LF (w7.setCell ⟨g,3,none⟩ (.slice aA la.length ac)) (Fm (g+1)) (.slice aA la.length ac) la):=LF.lasts (Mv.oth (Oth.set w7 g 3 _) (Nat.le_refl _) (Nat.lt_succ_self _)) (LF.lasts (Mv.less (by have:=HS6.out.bl.lt;omega)) hl7)
 clear hp7 ho7 hs7 hl7 c0 f0
 go_wp2_with fail
 refine (take_any' HS7.out.pc _ kThrows (Tx.of _) B4 hB4.out).mono ?_;rintro e w8 ⟨rfl,hp8,ho8⟩
 have HL8:=Lib.hid (LF.lasts (Mv.oth ho8 (Nat.le_refl _) (by have:=HS7.out.hb;omega)) HL7.out)
 have HS8:=Lib.hid (HS7.out.step hp8 ho8)
 clear hp8 ho8 c3 f3
 go_upto_if 22 with (fail)
 go_cut [] (fun wx=>∃ (tA:Option Addr) (tc:Nat),St b c A ws g 115 w s5 #[.string ⟨ln.toArray⟩,.bool B0,.string ⟨lr.toArray⟩,.slice aA la.length ac,.slice tA lt.length tc] wx∧LF wx (Fm (g+1)) (.slice aA la.length ac) la∧LF wx (Fm (g+1)) (.slice tA lt.length tc) lt)
 case first =>
  cases B4
  ·have hx:=h5.out
   rw [if_neg (by decide)] at hx
   simp only [Prod.mk.injEq] at hx
   obtain ⟨rfl,rfl⟩:=hx
   go_wp2_with fail
   go_meet
   case rel=>exact ⟨none,0,HS8.out,HL8.out,RepL.nil_⟩
  ·have HQ:Hid (fs (nextP s4)=(lt,s5)):=h5.out
   have HS9:Hid (St b c A ws g 115 w (nextP s4) #[.string ⟨ln.toArray⟩,.bool B0,.string ⟨lr.toArray⟩,.slice aA la.length ac,.slice none 0 0] w8):=HS8.out
   go_wp2_with fail
   refine (HFS.out _ _ HS9.out.pc lt s5 HQ.out).mono ?_;rintro e w9 ⟨v9,rfl,hl9,hp9,ho9⟩
   obtain ⟨tA,tc,tx,rfl,-,-,-,-,-⟩:=hl9.sl fldA_size
   have HL9:=Lib.hid (LF.lasts (Mv.oth ho9 (Nat.le_refl _) (by have:=HS9.out.hb;omega)) HL8.out)
   have HT9:Hid (LF w9 (Fm (g+1)) (.slice tA lt.length tc) lt):=LF.lasts (Mv.less (by have:=HS9.out.bl.lt;omega)) hl9
   have hs9:=HS9.out.step hp9 ho9
   have c4:w9.cell? ⟨g,4,none⟩=some (.slice none 0 0):=hs9.ce 4
   have f4:=hs9.fr 4
   have HS10:=Lib.hid hs9
   clear hs9 hp9 ho9 hl9
   go_wp2_with fail
   go_meet
   case rel =>
    exact ⟨tA,tc,HS10.out.put 4 _ rfl,LF.lasts (Mv.oth (Oth.set w9 g 4 _) (Nat.le_refl _) (Nat.lt_succ_self _)) HL9.out,LF.lasts (Mv.oth (Oth.set w9 g 4 _) (Nat.le_refl _) (Nat.lt_succ_self _)) HT9.out⟩
 case rest =>
 obtain ⟨tA,tc,hs11,hla,hlt⟩:=hcut
 have c0:wc.cell? ⟨g,0,none⟩=some (.string ⟨ln.toArray⟩):=hs11.ce 0
 have c1:wc.cell? ⟨g,1,none⟩=some (.bool B0):=hs11.ce 1
 have c2:wc.cell? ⟨g,2,none⟩=some (.string ⟨lr.toArray⟩):=hs11.ce 2
 have c3:wc.cell? ⟨g,3,none⟩=some (.slice aA la.length ac):=hs11.ce 3
 have c4:wc.cell? ⟨g,4,none⟩=some (.slice tA lt.length tc):=hs11.ce 4
 have f0:=hs11.fr 0
 have f1:=hs11.fr 1
 have f2:=hs11.fr 2
 have f3:=hs11.fr 3
 have f4:=hs11.fr 4
 have HS11:=Lib.hid hs11
 have HLA:=Lib.hid hla
 have HLT:=Lib.hid hlt
 clear hs11 hla hlt
 go_wp2_with fail
 have HS16_0:St b c A ws g 115 w s5 #[.string ⟨ln.toArray⟩,.bool B0,.string ⟨lr.toArray⟩,.slice aA la.length ac,.slice tA lt.length tc] _:=HS11.out.put 0 (.string ⟨ln.toArray⟩) rfl
 have HS16_1:St b c A ws g 115 w s5 #[.string ⟨ln.toArray⟩,.bool B0,.string ⟨lr.toArray⟩,.slice aA la.length ac,.slice tA lt.length tc] _:=HS16_0.put 1 (.bool B0) rfl
 have HS16_2:St b c A ws g 115 w s5 #[.string ⟨ln.toArray⟩,.bool B0,.string ⟨lr.toArray⟩,.slice aA la.length ac,.slice tA lt.length tc] _:=HS16_1.put 2 (.string ⟨lr.toArray⟩) rfl
 have HS16_3:St b c A ws g 115 w s5 #[.string ⟨ln.toArray⟩,.bool B0,.string ⟨lr.toArray⟩,.slice aA la.length ac,.slice tA lt.length tc] _:=HS16_2.put 3 (.slice aA la.length ac) rfl
 have HS16:St b c A ws g 115 w s5 #[.string ⟨ln.toArray⟩,.bool B0,.string ⟨lr.toArray⟩,.slice aA la.length ac,.slice tA lt.length tc] _:=HS16_3.put 4 (.slice tA lt.length tc) rfl
 refine bodyPost_ret (results_cell_row rfl _ _ g _ _ _ _ rfl HS16.bl.2 Tryz.underlying115 rfl (by kernel_rfl)) rfl ?_
 have HW:=(Oth.refl g wc).own (i:=0) (v:=.string ⟨ln.toArray⟩) |>.own (i:=1) (v:=.bool B0) |>.own (i:=2) (v:=.string ⟨lr.toArray⟩) |>.own (i:=3) (v:=.slice aA la.length ac) |>.own (i:=4) (v:=.slice tA lt.length tc)
 have hgw:w.heap.size≤g+1:=by have:=HS11.out.hg;omega
 exact ⟨⟨ln,B0,lr,.slice aA la.length ac,.slice tA lt.length tc⟩,rfl,⟨rfl,rfl,rfl,LF.lasts (Mv.oth HW hgw (Nat.lt_succ_self _)) HLA.out,LF.lasts (Mv.oth HW hgw (Nat.lt_succ_self _)) HLT.out⟩,HS16.pc,HS16.ot⟩
end
end Go.Proofs.YtpbjkgpdkopgmaaGreatDoor
