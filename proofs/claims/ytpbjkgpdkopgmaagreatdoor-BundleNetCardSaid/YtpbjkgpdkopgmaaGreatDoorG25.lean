/- The contracts of includes, namespaces, members; what definitions, methods, fields begin with. The contracts of members, fields, methods. -/
import Derived.Test.YtpbjkgpdkopgmaaGreatDoorG24
import Derived.Deep.DeepCutAuto
import Derived.Deep.CutBlock
set_option linter.unusedVariables false
set_option linter.unusedSimpArgs false
set_option linter.unnecessarySimpa false
namespace Go.Proofs.YtpbjkgpdkopgmaaGreatDoor
open Go.RowKit
structure St (b c:Nat) (A:Option Addr) (ws:List TokV) (g:Nat) (T:TypeId) (w0:World) (s:PSt) (cells:Array Value) (w:World):Prop where
 pc:PC w b A c ws s
 bl:Blk w g g cells T
 ot:Oth b w0 w
 hb:b<g
 hg:w0.heap.size≤g
section
variable {b c g:Nat} {A:Option Addr} {ws:List TokV} {T:TypeId} {w0 w w':World} {s s':PSt} {cells cells':Array Value}
theorem St.step (h:St b c A ws g T w0 s cells w) (hp:PC w' b A c ws s') (ho:Oth b w w'):St b c A ws g T w0 s' cells w':=⟨hp,ho.blk h.bl (by have:=h.hb;omega),h.ot.trans ho,h.hb,h.hg⟩
theorem St.nx (h:St b c A ws g T w0 s cells w) (hn:Nx w w'):St b c A ws g T w0 s cells w':=h.step (h.pc.nx hn) (Oth.nx hn)
theorem St.put (h:St b c A ws g T w0 s cells w) (i:Nat) (v:Value) (hc:cells.setIfInBounds i v=cells'):St b c A ws g T w0 s cells' (w.setCell ⟨g,i,none⟩ v) :=
 ⟨h.pc.apart (Oth.set w g i v) h.hb,hc ▸ h.bl.put i v,h.ot.apart (Oth.set w g i v) h.hg,h.hb,h.hg⟩
theorem St.eq (h:St b c A ws g T w0 s cells w) (hs:s=s') (hc:cells=cells'):St b c A ws g T w0 s' cells' w:=hs ▸ hc ▸ h
theorem St.new (h:PC w0 b A c ws s) (hg:w0.heap.size=g):St b c A ws g T w0 s cells (w0.alloc (.cells cells T)) :=
 ⟨h.nx (nx0 _ _),hg ▸ Blk.new w0 cells T,Oth.nx (nx0 _ _),hg ▸ h.bw,Nat.le_of_eq hg⟩
theorem St.ce (h:St b c A ws g T w0 s cells w) (i:Nat):w.cell? ⟨g,i,none⟩=cells[i]?:=h.bl.cell i
theorem St.fr (h:St b c A ws g T w0 s cells w) (i:Nat):w.frozen? ⟨g,i,none⟩=false:=h.bl.free i
end
section
variable {w:World} {b c:Nat} {A:Option Addr} {ws:List TokV} {s:PSt}
set_option maxRecDepth 100000 in
set_option maxHeartbeats 3200000 in
theorem atDef_any (h0:PC w b A c ws s) (B:Bool) (hB:atDefP ws s=B) :
  Calls Tryz.prog 57 #[.pointer (some ⟨b,0,none⟩)] w fun e w'=>e = .returned (.bool B)∧Nx w w':=by
 have H:=Lib.hid h0
 obtain ⟨N,hN⟩:∃ N,Hid (atNameP ws s=N):=⟨_,rfl⟩
 obtain ⟨⟨tk,tt,tn,td,tp⟩,hT⟩:∃ T,Hid (wordP ws s=T):=⟨_,rfl⟩
 obtain ⟨K,hK⟩:∃ K,Hid (defK tt=K):=⟨_,rfl⟩
 have HB:Hid ((N && decide (K≠0))=B):=by unfold Hid;rw [← hB];unfold atDefP;rw [hN.out,hT.out,hK.out]
 have F1:∀ w1,(Instr.field 92 (.agg #[.int .i64 (tk:Int),.string ⟨tt.toArray⟩,.int .i64 tn,.int .u64 (td:Int),.int .i64 (tp:Int)]) 1).run Tryz.prog w1 = .ok (.string ⟨tt.toArray⟩) w1:=fun w1=>(tok_field _ _ _ _ _ w1).2.1
 clear h0 hB
 go_enter Tryz.func57,Tryz.ntmps57
 go_wp2_with fail
 refine (atName_any H.out N hN.out).mono ?_;rintro e w1 ⟨rfl,hn1⟩
 have HN1:=Lib.hid hn1
 clear hn1
 cases N
 ·obtain rfl:false=B:=HB.out
  go_wp2_with fail
  go_ret
  exact ⟨rfl,HN1.out⟩
 ·have heq:((K:Int) != 0)=B:=by rw [← HB.out];rw [Bool.eq_iff_iff];simp
  have HEQ:=Lib.hid heq
  clear heq
  go_wp2_with fail
  refine (word_any' (H.out.nx HN1.out) _ _ _ _ _ hT.out).mono ?_;rintro e w2 ⟨rfl,hn2⟩
  have HN2:=Lib.hid hn2
  clear hn2
  go_wp2_with fail
  refine (definition_any w2 _ tt (Tx.of tt) K hK.out).mono ?_;rintro e w3 ⟨rfl,rfl⟩
  have heq:=HEQ.out
  go_wp2_with fail
  go_ret
  exact ⟨rfl,HN1.out.trans HN2.out⟩
set_option maxRecDepth 100000 in
set_option maxHeartbeats 3200000 in
theorem atMet_any (h0:PC w b A c ws s) (B:Bool) (hB:atMetP ws s=B) :
  Calls Tryz.prog 105 #[.pointer (some ⟨b,0,none⟩)] w fun e w'=>e = .returned (.bool B)∧Nx w w':=by
 have H:=Lib.hid h0
 obtain ⟨B1,hB1⟩:∃ B,Hid (isP ws kOneway s=B):=⟨_,rfl⟩
 obtain ⟨B2,hB2⟩:∃ B,Hid (isP ws kVoid s=B):=⟨_,rfl⟩
 obtain ⟨B3,hB3⟩:∃ B,Hid (atTypeP ws s=B):=⟨_,rfl⟩
 have HB:Hid ((B1 || B2 || B3)=B):=by unfold Hid;rw [← hB];unfold atMetP;rw [hB1.out,hB2.out,hB3.out]
 clear h0 hB
 go_enter Tryz.func105,Tryz.ntmps105
 go_wp2_with fail
 refine (is_any H.out _ kOneway (Tx.of _) B1 hB1.out).mono ?_;rintro e w1 ⟨rfl,hn1⟩
 have HN1:=Lib.hid hn1
 have HP1:=Lib.hid (H.out.nx hn1)
 clear hn1
 cases B1
 ·go_wp2_with fail
  refine (is_any HP1.out _ kVoid (Tx.of _) B2 hB2.out).mono ?_;rintro e w2 ⟨rfl,hn2⟩
  have HN2:=Lib.hid (HN1.out.trans hn2)
  have HP2:=Lib.hid (HP1.out.nx hn2)
  clear hn2
  cases B2
  ·obtain rfl:B3=B:=HB.out
   go_wp2_with fail
   refine (atType_any HP2.out B3 hB3.out).mono ?_;rintro e w3 ⟨rfl,hn3⟩
   go_wp2_with fail
   go_ret
   exact ⟨rfl,HN2.out.trans hn3⟩
  ·obtain rfl:true=B:=HB.out
   go_wp2_with fail
   go_ret
   exact ⟨rfl,HN2.out⟩
 ·obtain rfl:true=B:=HB.out
  go_wp2_with fail
  go_ret
  exact ⟨rfl,HN1.out⟩
set_option maxRecDepth 100000 in
set_option maxHeartbeats 3200000 in
theorem atField_any (h0:PC w b A c ws s) (B:Bool) (hB:atFieldP ws s=B) :
  Calls Tryz.prog 151 #[.pointer (some ⟨b,0,none⟩)] w fun e w'=>e = .returned (.bool B)∧Nx w w':=by
 have H:=Lib.hid h0
 obtain ⟨⟨tk,tt,tn,td,tp⟩,hT⟩:∃ T,Hid (wordP ws s=T):=⟨_,rfl⟩
 obtain ⟨B0,hB0⟩:∃ B,Hid (decide (tk=2)=B):=⟨_,rfl⟩
 obtain ⟨B1,hB1⟩:∃ B,Hid (isP ws kRequired s=B):=⟨_,rfl⟩
 obtain ⟨B2,hB2⟩:∃ B,Hid (isP ws kOptional s=B):=⟨_,rfl⟩
 obtain ⟨B3,hB3⟩:∃ B,Hid (atTypeP ws s=B):=⟨_,rfl⟩
 have HB:Hid ((B0 || B1 || B2 || B3)=B):=by unfold Hid;rw [← hB];unfold atFieldP;rw [hT.out,hB1.out,hB2.out,hB3.out];dsimp only;rw [hB0.out]
 have heq:((tk:Int) == 2)=B0:=by rw [← hB0.out];rw [Bool.eq_iff_iff];simp;omega
 have F0:∀ w1,(Instr.field 92 (.agg #[.int .i64 (tk:Int),.string ⟨tt.toArray⟩,.int .i64 tn,.int .u64 (td:Int),.int .i64 (tp:Int)]) 0).run Tryz.prog w1 = .ok (.int .i64 (tk:Int)) w1:=fun w1=>(tok_field _ _ _ _ _ w1).1
 clear h0 hB
 go_enter Tryz.func151,Tryz.ntmps151
 go_wp2_with fail
 refine (word_any' H.out _ _ _ _ _ hT.out).mono ?_;rintro e w0 ⟨rfl,hn0⟩
 have HN0:=Lib.hid hn0
 have HP0:=Lib.hid (H.out.nx hn0)
 clear hn0
 cases B0
 ·go_wp2_with fail
  refine (is_any HP0.out _ kRequired (Tx.of _) B1 hB1.out).mono ?_;rintro e w1 ⟨rfl,hn1⟩
  have HN1:=Lib.hid (HN0.out.trans hn1)
  have HP1:=Lib.hid (HP0.out.nx hn1)
  clear hn1
  cases B1
  ·go_wp2_with fail
   refine (is_any HP1.out _ kOptional (Tx.of _) B2 hB2.out).mono ?_;rintro e w2 ⟨rfl,hn2⟩
   have HN2:=Lib.hid (HN1.out.trans hn2)
   have HP2:=Lib.hid (HP1.out.nx hn2)
   clear hn2
   cases B2
   ·obtain rfl:B3=B:=HB.out
    go_wp2_with fail
    refine (atType_any HP2.out B3 hB3.out).mono ?_;rintro e w3 ⟨rfl,hn3⟩
    go_wp2_with fail
    go_ret
    exact ⟨rfl,HN2.out.trans hn3⟩
   ·obtain rfl:true=B:=HB.out
    go_wp2_with fail
    go_ret
    exact ⟨rfl,HN2.out⟩
  ·obtain rfl:true=B:=HB.out
   go_wp2_with fail
   go_ret
   exact ⟨rfl,HN1.out⟩
 ·obtain rfl:true=B:=HB.out
  go_wp2_with fail
  go_ret
  exact ⟨rfl,HN0.out⟩
set_option maxRecDepth 100000 in
set_option maxHeartbeats 3200000 in
theorem inc_any {E:World→Prop}:ReadC vluI (REq (α:=List UInt8)) b c A ws E 53 #[.pointer (some ⟨b,0,none⟩)] (isP ws kInclude) (incP ws):=by
 intro w s h0 _ hp y s' hr
 have H:=Lib.hid h0
 have HR:=Lib.hid hr
 have HK:=Lib.hid (is_k hp)
 obtain ⟨⟨wk,wt,wn,wd,wp⟩,hW⟩:∃ T,Hid (wordP ws s=T):=⟨_,rfl⟩
 have htx:=h0.fin.word (nextP s)
 obtain ⟨⟨tk,tt,tn,td,tp⟩,hT⟩:∃ T,Hid (wordP ws (nextP s)=T):=⟨_,rfl⟩
 rw [hT.out] at htx
 have HTX:Hid ((tt.length:Int)≤8000):=by unfold Hid;have:((tt.length:Nat):Int)≤2000:=htx;omega
 obtain ⟨Q,hQ⟩:∃ B,Hid (plainP tt=B):=⟨_,rfl⟩
 have F1:∀ w1,(Instr.field 92 (.agg #[.int .i64 (tk:Int),.string ⟨tt.toArray⟩,.int .i64 tn,.int .u64 (td:Int),.int .i64 (tp:Int)]) 1).run Tryz.prog w1 = .ok (.string ⟨tt.toArray⟩) w1:=fun w1=>(tok_field _ _ _ _ _ w1).2.1
 have HR2:Hid ((if decide (tk=4) && Q then (tt,nextP (nextP s)) else ([],failP 2 (nextP s)))=(y,s')):=by
  unfold Hid;rw [← hr];unfold incP;dsimp only;rw [hT.out,hQ.out]
 clear h0 hr hp htx HR
 go_enter Tryz.func53,Tryz.ntmps53
 go_wp2_with fail
 refine (next_any H.out HK.out _ _ _ _ _ hW.out).mono ?_;rintro e w1 ⟨rfl,hp1,ho1⟩
 have HP1:=Lib.hid hp1
 have HO1:=Lib.hid ho1
 clear hp1 ho1
 go_wp2_with fail
 refine (word_any' HP1.out _ _ _ _ _ hT.out).mono ?_;rintro e w2 ⟨rfl,hn2⟩
 obtain ⟨g5,hg5⟩:∃ g,w2.heap.size=g:=⟨_,rfl⟩
 have hB5:=Blk.new w2 #[.int .i64 (tk:Int),.string ⟨tt.toArray⟩,.int .i64 tn,.int .u64 (td:Int),.int .i64 (tp:Int)] 92
 rw [hg5] at hB5
 have hn3:Nx w1 _:=Nx.trans hn2 (nx0 w2 (.cells #[.int .i64 (tk:Int),.string ⟨tt.toArray⟩,.int .i64 tn,.int .u64 (td:Int),.int .i64 (tp:Int)] 92))
 have HB5:=Lib.hid hB5
 have HN3:=Lib.hid hn3
 clear hB5 hn3 hn2
 go_upto_region 3 with (fail)
 generalize World.alloc w2 _=w3 at *
 clear hg5
 obtain ⟨t0,t1,t2,t3,t4,-⟩:=cellsP5 HB5.out
 have HP3:=Lib.hid (HP1.out.nx HN3.out)
 have HO3:=Lib.hid (HO1.out.trans (Oth.nx HN3.out))
 by_cases h4:tk=4
 ·subst h4
  have HK4:=Lib.hid (word_k (ws:=ws) (s:=nextP s) (k:=4) (by rw [hT.out]) (by decide))
  go_wp2_with fail
  refine (plain_any' w3 _ tt (Tx.of tt) Q hQ.out HTX.out HP3.out.tab HP3.out.mx).mono ?_;rintro e w4 ⟨rfl,hn4⟩
  have HP4:=Lib.hid (HP3.out.nx hn4)
  have HO4:=Lib.hid (HO3.out.trans (Oth.nx hn4))
  clear hn4
  cases Q
  ·have hx:=HR2.out
   simp at hx
   obtain ⟨rfl,rfl⟩:=hx
   go_wp2_with fail
   refine (fail_any HP4.out 2 (by decide) (by decide)).mono ?_;rintro e w5 ⟨rfl,hp5,ho5⟩
   go_wp2_with fail
   go_ret
   exact ⟨[],rfl,rfl,hp5,HO4.out.trans ho5⟩
  ·have hx:=HR2.out
   simp at hx
   obtain ⟨rfl,rfl⟩:=hx
   have F2:∀ w1,(Instr.field 92 (.agg #[.int .i64 4,.string ⟨tt.toArray⟩,.int .i64 tn,.int .u64 (td:Int),.int .i64 (tp:Int)]) 1).run Tryz.prog w1 = .ok (.string ⟨tt.toArray⟩) w1:=fun w1=>(tok_field _ _ _ _ _ w1).2.1
   go_wp2_with fail
   refine (next_any HP4.out HK4.out _ _ _ _ _ hT.out).mono ?_;rintro e w5 ⟨rfl,hp5,ho5⟩
   go_wp2_with fail
   go_ret
   exact ⟨tt,rfl,rfl,hp5,HO4.out.trans ho5⟩
 ·have b4:((tk:Int) == 4)=false:=by rw [beq_eq_false_iff_ne];omega
  have hx:=HR2.out
  rw [decide_eq_false h4] at hx
  simp at hx
  obtain ⟨rfl,rfl⟩:=hx
  clear h4
  go_wp2_with fail
  refine (fail_any HP3.out 2 (by decide) (by decide)).mono ?_;rintro e w5 ⟨rfl,hp5,ho5⟩
  go_wp2_with fail
  go_ret
  exact ⟨[],rfl,rfl,hp5,HO3.out.trans ho5⟩
set_option maxRecDepth 100000 in
set_option maxHeartbeats 3200000 in
theorem spc_any {E:World→Prop}:ReadC vluS (REq (α:=Spc)) b c A ws E 55 #[.pointer (some ⟨b,0,none⟩)] (isP ws kNamespace) (spcP ws):=by
 intro w s h0 _ hp y s' hr
 have HK:=Lib.hid (is_k hp)
 obtain ⟨⟨wk,wt,wn,wd,wp⟩,hW⟩:∃ T,Hid (wordP ws s=T):=⟨_,rfl⟩
 obtain ⟨B1,hB1⟩:∃ B,Hid (isP ws [42] (nextP s)=B):=⟨_,rfl⟩
 obtain ⟨⟨l1,s1⟩,h1⟩:∃ r,Hid ((if B1 then ((wordP ws (nextP s)).t,nextP (nextP s)) else qualN ws (nextP s))=r):=⟨_,rfl⟩
 obtain ⟨⟨l2,s2⟩,h2⟩:∃ r,Hid (qualN ws s1=r):=⟨_,rfl⟩
 have hx:(⟨l1,l2⟩,s2)=(y,s'):=by rw [← hr];unfold spcP;dsimp only;rw [hB1.out,h1.out,h2.out]
 simp only [Prod.mk.injEq] at hx
 obtain ⟨rfl,rfl⟩:=hx
 obtain ⟨g,hg⟩:∃ g,w.heap.size=g:=⟨_,rfl⟩
 have HS1:Hid (St b c A ws g 81 w s #[.string ⟨#[]⟩,.string ⟨#[]⟩] (w.alloc (.cells #[.string ⟨#[]⟩,.string ⟨#[]⟩] 81))):=St.new h0 hg
 clear h0 hr hp
 go_enter Tryz.func55,Tryz.ntmps55
 go_upto_region 1 with (fail)
 generalize World.alloc w _=w1 at *
 clear hg
 go_wp2_with fail
 refine (next_any HS1.out.pc HK.out _ _ _ _ _ hW.out).mono ?_;rintro e w2 ⟨rfl,hp2,ho2⟩
 have HS2:=Lib.hid (HS1.out.step hp2 ho2)
 clear hp2 ho2
 go_wp2_with fail
 refine (is_any HS2.out.pc _ [42] (Tx.of _) B1 hB1.out).mono ?_;rintro e w3 ⟨rfl,hn3⟩
 have HS3:=Lib.hid (HS2.out.nx hn3)
 clear hn3
 go_upto_if 6 with (fail)
 go_cut [] (fun wx=>St b c A ws g 81 w s1 #[.string ⟨l1.toArray⟩,.string ⟨#[]⟩] wx)
 case first =>
  cases B1
  ·have HQ:Hid (qualN ws (nextP s)=(l1,s1)):=h1.out
   go_wp2_with fail
   refine (qualN_any HS3.out.pc l1 s1 HQ.out).mono ?_;rintro e w4 ⟨rfl,hp4,ho4⟩
   have HS4:=Lib.hid (HS3.out.step hp4 ho4)
   clear hp4 ho4
   have c0:w4.cell? ⟨g,0,none⟩=some (.string ⟨#[]⟩):=HS4.out.ce 0
   have f0:=HS4.out.fr 0
   go_wp2_with fail
   go_meet
   case rel=>exact HS4.out.put 0 _ rfl
  ·obtain ⟨⟨tk,tt,tn,td,tp⟩,hT⟩:∃ T,Hid (wordP ws (nextP s)=T):=⟨_,rfl⟩
   have hx:=h1.out
   rw [if_pos rfl,hT.out] at hx
   simp only [Prod.mk.injEq] at hx
   obtain ⟨rfl,rfl⟩:=hx
   have HK2:=Lib.hid (is_k hB1.out)
   have F1:∀ w1,(Instr.field 92 (.agg #[.int .i64 (tk:Int),.string ⟨tt.toArray⟩,.int .i64 tn,.int .u64 (td:Int),.int .i64 (tp:Int)]) 1).run Tryz.prog w1 = .ok (.string ⟨tt.toArray⟩) w1:=fun w1=>(tok_field _ _ _ _ _ w1).2.1
   go_wp2_with fail
   refine (next_any HS3.out.pc HK2.out _ _ _ _ _ hT.out).mono ?_;rintro e w4 ⟨rfl,hp4,ho4⟩
   have HS4:=Lib.hid (HS3.out.step hp4 ho4)
   clear hp4 ho4
   have c0:w4.cell? ⟨g,0,none⟩=some (.string ⟨#[]⟩):=HS4.out.ce 0
   have f0:=HS4.out.fr 0
   go_wp2_with fail
   go_meet
   case rel=>exact HS4.out.put 0 _ rfl
 case rest =>
 have HS5:=Lib.hid hcut
 clear hcut
 go_wp2_with fail
 refine (qualN_any HS5.out.pc l2 s2 h2.out).mono ?_;rintro e w6 ⟨rfl,hp6,ho6⟩
 have HS6:=Lib.hid (HS5.out.step hp6 ho6)
 clear hp6 ho6
 have c0:w6.cell? ⟨g,0,none⟩=some (.string ⟨l1.toArray⟩):=HS6.out.ce 0
 have c1:w6.cell? ⟨g,1,none⟩=some (.string ⟨#[]⟩):=HS6.out.ce 1
 have f0:=HS6.out.fr 0
 have f1:=HS6.out.fr 1
 go_wp2_with fail
 have HS7:=(HS6.out.put 1 (.string ⟨l2.toArray⟩) rfl).put 0 (.string ⟨l1.toArray⟩) rfl |>.put 1 (.string ⟨l2.toArray⟩) rfl
 refine bodyPost_ret (results_cell_row rfl _ _ g _ _ _ _ rfl HS7.bl.2 Tryz.underlying81 rfl (by kernel_rfl)) rfl ?_
 exact ⟨⟨l1,l2⟩,rfl,rfl,HS7.pc,HS7.ot⟩
end
end Go.Proofs.YtpbjkgpdkopgmaaGreatDoor
namespace Go.Proofs.YtpbjkgpdkopgmaaGreatDoor
open Go.RowKit
section
variable {b c:Nat} {A:Option Addr} {ws:List TokV}
set_option maxRecDepth 100000 in
set_option maxHeartbeats 3200000 in
theorem mem_any {E:World→Prop}:ReadC vluM (REq (α:=Mem)) b c A ws E 102 #[.pointer (some ⟨b,0,none⟩)] (atPlainP ws) (memP ws):=by
 intro w s h0 _ hp y s' hr
 obtain ⟨⟨l1,s1⟩,h1⟩:∃ r,Hid (plainN ws s=r):=⟨_,rfl⟩
 obtain ⟨B1,hB1⟩:∃ B,Hid (isP ws [61] s1=B):=⟨_,rfl⟩
 have HR:Hid (memP ws s=(y,s')):=hr
 obtain ⟨g,hg⟩:∃ g,w.heap.size=g:=⟨_,rfl⟩
 have HS1:Hid (St b c A ws g 118 w s #[.string ⟨#[]⟩,.bool false,.int .i64 0] (w.alloc (.cells #[.string ⟨#[]⟩,.bool false,.int .i64 0] 118))):=St.new h0 hg
 clear h0 hr hp
 go_enter Tryz.func102,Tryz.ntmps102
 go_upto_region 1 with (fail)
 generalize World.alloc w _=w1 at *
 clear hg
 go_wp2_with fail
 refine (plainN_any HS1.out.pc l1 s1 h1.out).mono ?_;rintro e w2 ⟨rfl,hp2,ho2⟩
 have hs2:=HS1.out.step hp2 ho2
 have c0:w2.cell? ⟨g,0,none⟩=some (.string ⟨#[]⟩):=hs2.ce 0
 have f0:=hs2.fr 0
 have HS3:Hid (St b c A ws g 118 w s1 #[.string ⟨l1.toArray⟩,.bool false,.int .i64 0] (w2.setCell ⟨g,0,none⟩ (.string ⟨l1.toArray⟩))):=hs2.put 0 _ rfl
 clear hp2 ho2 hs2
 go_wp2_with fail
 refine (take_any' HS3.out.pc _ [61] (Tx.of _) B1 hB1.out).mono ?_;rintro e w4 ⟨rfl,hp4,ho4⟩
 have HS4:=Lib.hid (HS3.out.step hp4 ho4)
 clear hp4 ho4 c0 f0
 cases B1
 ·have hx:=HR.out
  unfold memP at hx
  dsimp only at hx
  rw [h1.out] at hx
  dsimp only at hx
  rw [hB1.out,if_neg (by decide)] at hx
  simp only [Prod.mk.injEq] at hx
  obtain ⟨rfl,rfl⟩:=hx
  have hs4:St b c A ws g 118 w s1 #[.string ⟨l1.toArray⟩,.bool false,.int .i64 0] w4:=HS4.out
  have c0:w4.cell? ⟨g,0,none⟩=some (.string ⟨l1.toArray⟩):=hs4.ce 0
  have c1:w4.cell? ⟨g,1,none⟩=some (.bool false):=hs4.ce 1
  have c2:w4.cell? ⟨g,2,none⟩=some (.int .i64 0):=hs4.ce 2
  have f0:=hs4.fr 0
  have f1:=hs4.fr 1
  have f2:=hs4.fr 2
  have HS5:=Lib.hid hs4
  clear hs4
  go_wp2_with fail
  have HS7:=HS5.out.put 0 (.string ⟨l1.toArray⟩) rfl |>.put 1 (.bool false) rfl |>.put 2 (.int .i64 0) rfl
  refine bodyPost_ret (results_cell_row rfl _ _ g _ _ _ _ rfl HS7.bl.2 Tryz.underlying118 rfl (by kernel_rfl)) rfl ?_
  exact ⟨⟨l1,false,0⟩,rfl,rfl,HS7.pc,HS7.ot⟩
 ·obtain ⟨⟨tk,tt,tn,td,tp⟩,hT⟩:∃ T,Hid (wordP ws (nextP s1)=T):=⟨_,rfl⟩
  obtain ⟨s2,hs2⟩:∃ s2,Hid ((if tk=2 then nextP s1 else failP 2 (nextP s1))=s2):=⟨_,rfl⟩
  obtain ⟨⟨uk,ut,un,ud,up⟩,hU⟩:∃ T,Hid (wordP ws s2=T):=⟨_,rfl⟩
  have hx:=HR.out
  unfold memP at hx
  dsimp only at hx
  rw [h1.out] at hx
  dsimp only at hx
  rw [hB1.out,if_pos rfl,hT.out] at hx
  dsimp only at hx
  rw [hs2.out,hU.out] at hx
  simp only [Prod.mk.injEq] at hx
  obtain ⟨rfl,rfl⟩:=hx
  have HS5:Hid (St b c A ws g 118 w (nextP s1) #[.string ⟨l1.toArray⟩,.bool false,.int .i64 0] w4):=HS4.out
  have HK:Hid (s2.e=0→(ws.getD s2.i tok0).k≠6):=by
   unfold Hid
   rw [← hs2.out]
   split
   ·rename_i h;exact word_k (k:=2) (by rw [hT.out];exact h) (by decide)
   ·exact fail_k (by decide)
  have F0:∀ w1,(Instr.field 92 (.agg #[.int .i64 (tk:Int),.string ⟨tt.toArray⟩,.int .i64 tn,.int .u64 (td:Int),.int .i64 (tp:Int)]) 0).run Tryz.prog w1 = .ok (.int .i64 (tk:Int)) w1:=fun w1=>(tok_field _ _ _ _ _ w1).1
  have F2:∀ w1,(Instr.field 92 (.agg #[.int .i64 (uk:Int),.string ⟨ut.toArray⟩,.int .i64 un,.int .u64 (ud:Int),.int .i64 (up:Int)]) 2).run Tryz.prog w1 = .ok (.int .i64 un) w1:=fun w1=>(tok_field _ _ _ _ _ w1).2.2.1
  go_wp2_with fail
  refine (word_any' HS5.out.pc _ _ _ _ _ hT.out).mono ?_;rintro e w5 ⟨rfl,hn5⟩
  have HS6:=Lib.hid (HS5.out.nx hn5)
  clear hn5
  obtain ⟨Q,hQ⟩:∃ B,Hid (((tk:Int) != 2)=B):=⟨_,rfl⟩
  have hq:=hQ.out
  go_upto_if 13 with (fail)
  go_cut [] (fun wx=>St b c A ws g 118 w s2 #[.string ⟨l1.toArray⟩,.bool false,.int .i64 0] wx)
  case first =>
   cases Q
   ·have h2:tk=2:=by have:=hQ.out;simp at this;omega
    have HS7:Hid (St b c A ws g 118 w s2 #[.string ⟨l1.toArray⟩,.bool false,.int .i64 0] w5):=by have:=hs2.out;rw [if_pos h2] at this;exact this ▸ HS6.out
    clear h2
    go_wp2_with fail
    go_meet
    case rel=>exact HS7.out
   ·have h2:¬ tk=2:=by have:=hQ.out;simp at this;omega
    have HE:Hid (failP 2 (nextP s1)=s2):=by have:=hs2.out;rw [if_neg h2] at this;exact this
    clear h2
    go_wp2_with fail
    refine (fail_any HS6.out.pc 2 (by decide) (by decide)).mono ?_;rintro e w6 ⟨rfl,hp6,ho6⟩
    have HS7:=Lib.hid (HS6.out.step hp6 ho6)
    clear hp6 ho6
    go_wp2_with fail
    go_meet
    case rel=>exact HE.out ▸ HS7.out
  case rest =>
  have HS8:=Lib.hid hcut
  clear hcut hq
  go_wp2_with fail
  refine (next_any HS8.out.pc HK.out _ _ _ _ _ hU.out).mono ?_;rintro e w7 ⟨rfl,hp7,ho7⟩
  have hs7:=HS8.out.step hp7 ho7
  have c0:w7.cell? ⟨g,0,none⟩=some (.string ⟨l1.toArray⟩):=hs7.ce 0
  have c1:w7.cell? ⟨g,1,none⟩=some (.bool false):=hs7.ce 1
  have c2:w7.cell? ⟨g,2,none⟩=some (.int .i64 0):=hs7.ce 2
  have f0:=hs7.fr 0
  have f1:=hs7.fr 1
  have f2:=hs7.fr 2
  have HS9:=Lib.hid hs7
  clear hs7 hp7 ho7
  go_wp2_with fail
  have HS7:=HS9.out.put 1 (.bool true) rfl |>.put 2 (.int .i64 un) rfl |>.put 0 (.string ⟨l1.toArray⟩) rfl |>.put 1 (.bool true) rfl |>.put 2 (.int .i64 un) rfl
  refine bodyPost_ret (results_cell_row rfl _ _ g _ _ _ _ rfl HS7.bl.2 Tryz.underlying118 rfl (by kernel_rfl)) rfl ?_
  exact ⟨⟨l1,true,un⟩,rfl,rfl,HS7.pc,HS7.ot⟩
theorem atField_at {E:World→Prop}:AtC b c A ws E 151 #[.pointer (some ⟨b,0,none⟩)] (atFieldP ws):=fun w s h0 _ B hB=>atField_any h0 B hB
theorem atPlain_at {E:World→Prop}:AtC b c A ws E 101 #[.pointer (some ⟨b,0,none⟩)] (atPlainP ws):=fun w s h0 _ B hB=>atPlain_any h0 B hB
theorem atMet_at {E:World→Prop}:AtC b c A ws E 105 #[.pointer (some ⟨b,0,none⟩)] (atMetP ws):=fun w s h0 _ B hB=>atMet_any h0 B hB
theorem atDef_at {E:World→Prop}:AtC b c A ws E 57 #[.pointer (some ⟨b,0,none⟩)] (atDefP ws):=fun w s h0 _ B hB=>atDef_any h0 B hB
def fieldQ (ws:List TokV) (s:PSt) (tp:PSt→List UInt8×PSt) (cp:PSt→Con×PSt):Fld×PSt :=
 let h:=decide ((wordP ws s).k=2)
 let s1:=if h then needP ws [58] (nextP s) else s
 let t:=tp (reqN ws s1)
 let n:=plainN ws t.2
 let c:=if isP ws [61] n.2 then cp (nextP n.2) else (con0,n.2)
 (⟨h,if h then (wordP ws s).n else 0,reqP ws s1,t.1,n.1,isP ws [61] n.2,c.1⟩,c.2)
theorem fieldQ_eq (ws:List TokV) (s:PSt):fieldP ws s=fieldQ ws s (typeP ws 12) (conP ws 12):=rfl
set_option maxRecDepth 100000 in
set_option maxHeartbeats 6400000 in
theorem field_any {E:World→Prop}:ReadC vluF RF b c A ws E 152 #[.pointer (some ⟨b,0,none⟩)] (atFieldP ws) (fieldP ws):=by
 intro w s h0 _ hp y s' hr
 have HTY:Hid (∀ (w:World) (s:PSt),PC w b A c ws s→∀ (l:List UInt8) (s':PSt),typeP ws 12 s=(l,s') →
   Calls Tryz.prog 96 #[.pointer (some ⟨b,0,none⟩),.int .i64 1] w fun e w'=>e = .returned (.string ⟨l.toArray⟩)∧PC w' b A c ws s'∧Oth b w w'):=fun w s h l s' hr=>type_any h l s' hr
 have HCO:Hid (∀ (w:World) (s:PSt),PC w b A c ws s→∀ (y:Con) (s':PSt),conP ws 12 s=(y,s') →
   Calls Tryz.prog 99 #[.pointer (some ⟨b,0,none⟩),.int .i64 1] w fun e w'=>∃ x,e = .returned (vluC x)∧RC 13 w' (Fm w.heap.size) x y∧PC w' b A c ws s'∧Oth b w w'):=fun w s h y s' hr=>con_any h y s' hr
 rw [fieldQ_eq] at hr
 generalize typeP ws 12=tp' at *
 generalize conP ws 12=cp at *
 obtain ⟨⟨tk,tt,tn,td,tp⟩,hT⟩:∃ T,Hid (wordP ws s=T):=⟨_,rfl⟩
 obtain ⟨B0,hB0⟩:∃ B,Hid (decide (tk=2)=B):=⟨_,rfl⟩
 obtain ⟨s1,h1⟩:∃ s1,Hid ((if B0 then needP ws [58] (nextP s) else s)=s1):=⟨_,rfl⟩
 obtain ⟨s2,h2⟩:∃ s2,Hid (reqN ws s1=s2):=⟨_,rfl⟩
 obtain ⟨q,hq⟩:∃ q,Hid (reqP ws s1=q):=⟨_,rfl⟩
 obtain ⟨⟨lt,s3⟩,h3⟩:∃ r,Hid (tp' s2=r):=⟨_,rfl⟩
 obtain ⟨⟨ln,s4⟩,h4⟩:∃ r,Hid (plainN ws s3=r):=⟨_,rfl⟩
 obtain ⟨B4,hB4⟩:∃ B,Hid (isP ws [61] s4=B):=⟨_,rfl⟩
 obtain ⟨⟨yc,s5⟩,h5⟩:∃ r,Hid ((if B4 then cp (nextP s4) else (con0,s4))=r):=⟨_,rfl⟩
 have hx:((⟨B0,if B0 then tn else 0,q,lt,ln,B4,yc⟩:Fld),s5)=(y,s'):=by
  rw [← hr];unfold fieldQ;dsimp only;rw [hT.out];dsimp only;rw [hB0.out,h1.out,h2.out,h3.out];dsimp only;rw [h4.out];dsimp only;rw [hB4.out,h5.out,hq.out]
 simp only [Prod.mk.injEq] at hx
 obtain ⟨rfl,rfl⟩:=hx
 obtain ⟨N,hN⟩:∃ N:Int,Hid ((if B0 then tn else 0)=N):=⟨_,rfl⟩
 rw [hN.out]
 obtain ⟨g,hg⟩:∃ g,w.heap.size=g:=⟨_,rfl⟩
 have HS1:Hid (St b c A ws g 75 w s #[.bool false,.int .i64 0,.int .i64 0,.string ⟨#[]⟩,.string ⟨#[]⟩,.bool false,.int .i64 0,.int .i64 0,.int .u64 0,.string ⟨#[]⟩,.slice none 0 0] (w.alloc (.cells #[.bool false,.int .i64 0,.int .i64 0,.string ⟨#[]⟩,.string ⟨#[]⟩,.bool false,.int .i64 0,.int .i64 0,.int .u64 0,.string ⟨#[]⟩,.slice none 0 0] 75))):=St.new h0 hg
 have F0:∀ w1,(Instr.field 92 (.agg #[.int .i64 (tk:Int),.string ⟨tt.toArray⟩,.int .i64 tn,.int .u64 (td:Int),.int .i64 (tp:Int)]) 0).run Tryz.prog w1 = .ok (.int .i64 (tk:Int)) w1:=fun w1=>(tok_field _ _ _ _ _ w1).1
 have F2:∀ w1,(Instr.field 92 (.agg #[.int .i64 (tk:Int),.string ⟨tt.toArray⟩,.int .i64 tn,.int .u64 (td:Int),.int .i64 (tp:Int)]) 2).run Tryz.prog w1 = .ok (.int .i64 tn) w1:=fun w1=>(tok_field _ _ _ _ _ w1).2.2.1
 have heq:((tk:Int) == 2)=B0:=by rw [← hB0.out];rw [Bool.eq_iff_iff];simp;omega
 have hq2:q≤2:=by rw [← hq.out];unfold reqP;split <;> (try split) <;> omega
 have HQ2:=Lib.hid hq2
 clear h0 hr hp hq2
 go_enter Tryz.func152,Tryz.ntmps152
 go_upto_region 1 with (fail)
 generalize World.alloc w _=w1 at *
 clear hg
 go_wp2_with fail
 refine (word_any' HS1.out.pc _ _ _ _ _ hT.out).mono ?_;rintro e w2 ⟨rfl,hn2⟩
 have HS2:=Lib.hid (HS1.out.nx hn2)
 clear hn2
 go_upto_if 6 with (fail)
 go_cut [] (fun wx=>St b c A ws g 75 w s1 #[.bool B0,.int .i64 N,.int .i64 0,.string ⟨#[]⟩,.string ⟨#[]⟩,.bool false,.int .i64 0,.int .i64 0,.int .u64 0,.string ⟨#[]⟩,.slice none 0 0] wx)
 case first =>
  cases B0
  ·obtain rfl:s=s1:=h1.out
   obtain rfl:0=N:=hN.out
   go_wp2_with fail
   go_meet
   case rel=>exact HS2.out
  ·obtain rfl:tn=N:=hN.out
   have HE1:Hid (needP ws [58] (nextP s)=s1):=h1.out
   have HK:=Lib.hid (word_k (ws:=ws) (s:=s) (k:=2) (by rw [hT.out];simpa using hB0.out) (by decide))
   go_wp2_with fail
   refine (next_any HS2.out.pc HK.out _ _ _ _ _ hT.out).mono ?_;rintro e w3 ⟨rfl,hp3,ho3⟩
   have hs3:=HS2.out.step hp3 ho3
   have c0:w3.cell? ⟨g,0,none⟩=some (.bool false):=hs3.ce 0
   have c1:w3.cell? ⟨g,1,none⟩=some (.int .i64 0):=hs3.ce 1
   have f0:=hs3.fr 0
   have f1:=hs3.fr 1
   have HS3:Hid (St b c A ws g 75 w (nextP s) #[.bool true,.int .i64 tn,.int .i64 0,.string ⟨#[]⟩,.string ⟨#[]⟩,.bool false,.int .i64 0,.int .i64 0,.int .u64 0,.string ⟨#[]⟩,.slice none 0 0] ((w3.setCell ⟨g,0,none⟩ (.bool true)).setCell ⟨g,1,none⟩ (.int .i64 tn))):=(hs3.put 0 _ rfl).put 1 _ rfl
   clear hp3 ho3 hs3
   go_wp2_with fail
   refine (need_any HS3.out.pc _ [58] (Tx.of _) _ rfl).mono ?_;rintro e w4 ⟨rfl,hp4,ho4⟩
   have HS4:=Lib.hid (HS3.out.step hp4 ho4)
   clear hp4 ho4 c0 c1 f0 f1
   go_wp2_with fail
   go_meet
   case rel=>exact HE1.out ▸ HS4.out
 case rest =>
 have HS5:=Lib.hid hcut
 clear hcut heq F0 F2
 obtain ⟨B1,hB1⟩:∃ B,Hid (isP ws kRequired s1=B):=⟨_,rfl⟩
 obtain ⟨B2,hB2⟩:∃ B,Hid (isP ws kOptional s1=B):=⟨_,rfl⟩
 go_upto_block 0 with (fail)
 go_cut [] (fun wx=>St b c A ws g 75 w s2 #[.bool B0,.int .i64 N,.int .i64 (q:Int),.string ⟨#[]⟩,.string ⟨#[]⟩,.bool false,.int .i64 0,.int .i64 0,.int .u64 0,.string ⟨#[]⟩,.slice none 0 0] wx)
 case first =>
  go_wp2_with fail
  refine (take_any' HS5.out.pc _ kRequired (Tx.of _) B1 hB1.out).mono ?_;rintro e w6 ⟨rfl,hp6,ho6⟩
  have HS6:=Lib.hid (HS5.out.step hp6 ho6)
  clear hp6 ho6
  have h2':=h2.out
  have hq':=hq.out
  unfold reqN at h2'
  unfold reqP at hq'
  rw [hB1.out] at h2' hq'
  cases B1
  ·rw [if_neg (by decide),hB2.out] at hq'
   rw [if_neg (by decide)] at h2'
   unfold takeP at h2'
   rw [hB2.out] at h2'
   have H2:=Lib.hid h2'
   have HQ:=Lib.hid hq'
   clear h2' hq'
   have HS6':Hid (St b c A ws g 75 w s1 #[.bool B0,.int .i64 N,.int .i64 0,.string ⟨#[]⟩,.string ⟨#[]⟩,.bool false,.int .i64 0,.int .i64 0,.int .u64 0,.string ⟨#[]⟩,.slice none 0 0] w6):=HS6.out
   go_wp2_with fail
   refine (take_any' HS6'.out.pc _ kOptional (Tx.of _) B2 hB2.out).mono ?_;rintro e w7 ⟨rfl,hp7,ho7⟩
   have HS7:=Lib.hid (HS6'.out.step hp7 ho7)
   clear hp7 ho7
   cases B2
   ·obtain rfl:s1=s2:=H2.out
    obtain rfl:0=q:=HQ.out
    go_wp2_with fail
    go_meet
    case rel=>exact HS7.out
   ·obtain rfl:nextP s1=s2:=H2.out
    obtain rfl:2=q:=HQ.out
    have c2:w7.cell? ⟨g,2,none⟩=some (.int .i64 0):=HS7.out.ce 2
    have f2:=HS7.out.fr 2
    go_wp2_with fail
    go_meet
    case rel=>exact HS7.out.put 2 _ rfl
  ·rw [if_pos rfl] at hq' h2'
   obtain rfl:nextP s1=s2:=h2'
   obtain rfl:1=q:=hq'
   have c2:w6.cell? ⟨g,2,none⟩=some (.int .i64 0):=HS6.out.ce 2
   have f2:=HS6.out.fr 2
   go_wp2_with fail
   go_meet
   case rel=>exact HS6.out.put 2 _ rfl
 case rest =>
 have HS8:=Lib.hid hcut
 clear hcut
 go_wp2_with fail
 refine (HTY.out _ s2 HS8.out.pc lt s3 h3.out).mono ?_;rintro e w9 ⟨rfl,hp9,ho9⟩
 have hs9:=HS8.out.step hp9 ho9
 have c3:w9.cell? ⟨g,3,none⟩=some (.string ⟨#[]⟩):=hs9.ce 3
 have f3:=hs9.fr 3
 have HS9:Hid (St b c A ws g 75 w s3 #[.bool B0,.int .i64 N,.int .i64 (q:Int),.string ⟨lt.toArray⟩,.string ⟨#[]⟩,.bool false,.int .i64 0,.int .i64 0,.int .u64 0,.string ⟨#[]⟩,.slice none 0 0] (w9.setCell ⟨g,3,none⟩ (.string ⟨lt.toArray⟩))):=hs9.put 3 _ rfl
 clear hp9 ho9 hs9
 go_wp2_with fail
 refine (plainN_any HS9.out.pc ln s4 h4.out).mono ?_;rintro e w10 ⟨rfl,hp10,ho10⟩
 have hs10:=HS9.out.step hp10 ho10
 clear c3 f3
 have c4:w10.cell? ⟨g,4,none⟩=some (.string ⟨#[]⟩):=hs10.ce 4
 have f4:=hs10.fr 4
 have HS10:Hid (St b c A ws g 75 w s4 #[.bool B0,.int .i64 N,.int .i64 (q:Int),.string ⟨lt.toArray⟩,.string ⟨ln.toArray⟩,.bool false,.int .i64 0,.int .i64 0,.int .u64 0,.string ⟨#[]⟩,.slice none 0 0] (w10.setCell ⟨g,4,none⟩ (.string ⟨ln.toArray⟩))):=hs10.put 4 _ rfl
 clear hp10 ho10 hs10
 go_wp2_with fail
 refine (take_any' HS10.out.pc _ [61] (Tx.of _) B4 hB4.out).mono ?_;rintro e w11 ⟨rfl,hp11,ho11⟩
 have HS11:=Lib.hid (HS10.out.step hp11 ho11)
 clear hp11 ho11 c4 f4
 go_upto_if 29 with (fail)
 go_cut [] (fun wx=>∃ (xk:Nat) (xn:Int) (xd:Nat) (xs:List UInt8) (xA:Option Addr) (xm xc:Nat),St b c A ws g 75 w s5 #[.bool B0,.int .i64 N,.int .i64 (q:Int),.string ⟨lt.toArray⟩,.string ⟨ln.toArray⟩,.bool B4,.int .i64 (xk:Int),.int .i64 xn,.int .u64 (xd:Int),.string ⟨xs.toArray⟩,.slice xA xm xc] wx∧RC 13 wx (Fm (g+1)) ⟨xk,xn,xd,xs,.slice xA xm xc⟩ yc)
 case first =>
  cases B4
  ·have hx:=h5.out
   rw [if_neg (by decide)] at hx
   simp only [Prod.mk.injEq] at hx
   obtain ⟨rfl,rfl⟩:=hx
   go_wp2_with fail
   go_meet
   case rel=>exact ⟨0,0,0,[],none,0,0,HS11.out,rc_con0⟩
  ·have HCP:Hid (cp (nextP s4)=(yc,s5)):=h5.out
   have HS12:Hid (St b c A ws g 75 w (nextP s4) #[.bool B0,.int .i64 N,.int .i64 (q:Int),.string ⟨lt.toArray⟩,.string ⟨ln.toArray⟩,.bool false,.int .i64 0,.int .i64 0,.int .u64 0,.string ⟨#[]⟩,.slice none 0 0] w11):=HS11.out
   go_wp2_with fail
   refine (HCO.out _ _ HS12.out.pc yc s5 HCP.out).mono ?_;rintro e w12 ⟨⟨xk,xn,xd,xs,xl⟩,rfl,hr12,hp12,ho12⟩
   obtain ⟨xy,-,xh⟩:=RC.of hr12
   obtain ⟨xA,xc,-,rfl,-,-,-,-,-⟩:=xh.sl conA_size
   clear xh
   rw [show vluC ⟨xk,xn,xd,xs,.slice xA xy.length xc⟩ = .agg #[.int .i64 (xk:Int),.int .i64 xn,.int .u64 (xd:Int),.string ⟨xs.toArray⟩,.slice xA xy.length xc] from rfl]
   have hs12:=HS12.out.step hp12 ho12
   have c5:w12.cell? ⟨g,5,none⟩=some (.bool false):=hs12.ce 5
   have c6:w12.cell? ⟨g,6,none⟩=some (.int .i64 0):=hs12.ce 6
   have c7:w12.cell? ⟨g,7,none⟩=some (.int .i64 0):=hs12.ce 7
   have c8:w12.cell? ⟨g,8,none⟩=some (.int .u64 0):=hs12.ce 8
   have c9:w12.cell? ⟨g,9,none⟩=some (.string ⟨#[]⟩):=hs12.ce 9
   have c10:w12.cell? ⟨g,10,none⟩=some (.slice none 0 0):=hs12.ce 10
   have f5:=hs12.fr 5
   have f6:=hs12.fr 6
   have f7:=hs12.fr 7
   have f8:=hs12.fr 8
   have f9:=hs12.fr 9
   have f10:=hs12.fr 10
   have HS13:=Lib.hid hs12
   have HR12:Hid (RC 13 w12 (Fm (g+1)) ⟨xk,xn,xd,xs,.slice xA xy.length xc⟩ yc):=RC.lasts _ (Mv.less (by have:=HS12.out.bl.lt;omega)) hr12
   clear hs12 hp12 ho12 hr12
   go_wp2_with fail
   go_meet
   case rel =>
    have HS14_0:St b c A ws g 75 w s5 #[.bool B0,.int .i64 N,.int .i64 (q:Int),.string ⟨lt.toArray⟩,.string ⟨ln.toArray⟩,.bool true,.int .i64 0,.int .i64 0,.int .u64 0,.string ⟨#[]⟩,.slice none 0 0] _:=HS13.out.put 5 (.bool true) rfl
    have HS14_1:St b c A ws g 75 w s5 #[.bool B0,.int .i64 N,.int .i64 (q:Int),.string ⟨lt.toArray⟩,.string ⟨ln.toArray⟩,.bool true,.int .i64 (xk:Int),.int .i64 0,.int .u64 0,.string ⟨#[]⟩,.slice none 0 0] _:=HS14_0.put 6 (.int .i64 (xk:Int)) rfl
    have HS14_2:St b c A ws g 75 w s5 #[.bool B0,.int .i64 N,.int .i64 (q:Int),.string ⟨lt.toArray⟩,.string ⟨ln.toArray⟩,.bool true,.int .i64 (xk:Int),.int .i64 xn,.int .u64 0,.string ⟨#[]⟩,.slice none 0 0] _:=HS14_1.put 7 (.int .i64 xn) rfl
    have HS14_3:St b c A ws g 75 w s5 #[.bool B0,.int .i64 N,.int .i64 (q:Int),.string ⟨lt.toArray⟩,.string ⟨ln.toArray⟩,.bool true,.int .i64 (xk:Int),.int .i64 xn,.int .u64 (xd:Int),.string ⟨#[]⟩,.slice none 0 0] _:=HS14_2.put 8 (.int .u64 (xd:Int)) rfl
    have HS14_4:St b c A ws g 75 w s5 #[.bool B0,.int .i64 N,.int .i64 (q:Int),.string ⟨lt.toArray⟩,.string ⟨ln.toArray⟩,.bool true,.int .i64 (xk:Int),.int .i64 xn,.int .u64 (xd:Int),.string ⟨xs.toArray⟩,.slice none 0 0] _:=HS14_3.put 9 (.string ⟨xs.toArray⟩) rfl
    have HS14:St b c A ws g 75 w s5 #[.bool B0,.int .i64 N,.int .i64 (q:Int),.string ⟨lt.toArray⟩,.string ⟨ln.toArray⟩,.bool true,.int .i64 (xk:Int),.int .i64 xn,.int .u64 (xd:Int),.string ⟨xs.toArray⟩,.slice xA xy.length xc] _:=HS14_4.put 10 (.slice xA xy.length xc) rfl
    refine ⟨xk,xn,xd,xs,xA,xy.length,xc,HS14,?_⟩
    have HW:=(Oth.refl g w12).own (i:=5) (v:=.bool true) |>.own (i:=6) (v:=.int .i64 (xk:Int)) |>.own (i:=7) (v:=.int .i64 xn) |>.own (i:=8) (v:=.int .u64 (xd:Int)) |>.own (i:=9) (v:=.string ⟨xs.toArray⟩) |>.own (i:=10) (v:=.slice xA xy.length xc)
    exact RC.lasts _ (Mv.oth HW (Nat.le_refl _) (Nat.lt_succ_self _)) HR12.out
 case rest =>
 obtain ⟨xk,xn,xd,xs,xA,xm,xc,hs15,hr15⟩:=hcut
 have c0:wc.cell? ⟨g,0,none⟩=some (.bool B0):=hs15.ce 0
 have c1:wc.cell? ⟨g,1,none⟩=some (.int .i64 N):=hs15.ce 1
 have c2:wc.cell? ⟨g,2,none⟩=some (.int .i64 (q:Int)):=hs15.ce 2
 have c3:wc.cell? ⟨g,3,none⟩=some (.string ⟨lt.toArray⟩):=hs15.ce 3
 have c4:wc.cell? ⟨g,4,none⟩=some (.string ⟨ln.toArray⟩):=hs15.ce 4
 have c5:wc.cell? ⟨g,5,none⟩=some (.bool B4):=hs15.ce 5
 have c6:wc.cell? ⟨g,6,none⟩=some (.int .i64 (xk:Int)):=hs15.ce 6
 have c7:wc.cell? ⟨g,7,none⟩=some (.int .i64 xn):=hs15.ce 7
 have c8:wc.cell? ⟨g,8,none⟩=some (.int .u64 (xd:Int)):=hs15.ce 8
 have c9:wc.cell? ⟨g,9,none⟩=some (.string ⟨xs.toArray⟩):=hs15.ce 9
 have c10:wc.cell? ⟨g,10,none⟩=some (.slice xA xm xc):=hs15.ce 10
 have f0:=hs15.fr 0
 have f1:=hs15.fr 1
 have f2:=hs15.fr 2
 have f3:=hs15.fr 3
 have f4:=hs15.fr 4
 have f5:=hs15.fr 5
 have f6:=hs15.fr 6
 have f7:=hs15.fr 7
 have f8:=hs15.fr 8
 have f9:=hs15.fr 9
 have f10:=hs15.fr 10
 have HS15:=Lib.hid hs15
 have HR15:=Lib.hid hr15
 clear hs15 hr15
 go_wp2_with fail
 have HS16_0:St b c A ws g 75 w s5 #[.bool B0,.int .i64 N,.int .i64 (q:Int),.string ⟨lt.toArray⟩,.string ⟨ln.toArray⟩,.bool B4,.int .i64 (xk:Int),.int .i64 xn,.int .u64 (xd:Int),.string ⟨xs.toArray⟩,.slice xA xm xc] _:=HS15.out.put 0 (.bool B0) rfl
 have HS16_1:St b c A ws g 75 w s5 #[.bool B0,.int .i64 N,.int .i64 (q:Int),.string ⟨lt.toArray⟩,.string ⟨ln.toArray⟩,.bool B4,.int .i64 (xk:Int),.int .i64 xn,.int .u64 (xd:Int),.string ⟨xs.toArray⟩,.slice xA xm xc] _:=HS16_0.put 1 (.int .i64 N) rfl
 have HS16_2:St b c A ws g 75 w s5 #[.bool B0,.int .i64 N,.int .i64 (q:Int),.string ⟨lt.toArray⟩,.string ⟨ln.toArray⟩,.bool B4,.int .i64 (xk:Int),.int .i64 xn,.int .u64 (xd:Int),.string ⟨xs.toArray⟩,.slice xA xm xc] _:=HS16_1.put 2 (.int .i64 (q:Int)) rfl
 have HS16_3:St b c A ws g 75 w s5 #[.bool B0,.int .i64 N,.int .i64 (q:Int),.string ⟨lt.toArray⟩,.string ⟨ln.toArray⟩,.bool B4,.int .i64 (xk:Int),.int .i64 xn,.int .u64 (xd:Int),.string ⟨xs.toArray⟩,.slice xA xm xc] _:=HS16_2.put 3 (.string ⟨lt.toArray⟩) rfl
 have HS16_4:St b c A ws g 75 w s5 #[.bool B0,.int .i64 N,.int .i64 (q:Int),.string ⟨lt.toArray⟩,.string ⟨ln.toArray⟩,.bool B4,.int .i64 (xk:Int),.int .i64 xn,.int .u64 (xd:Int),.string ⟨xs.toArray⟩,.slice xA xm xc] _:=HS16_3.put 4 (.string ⟨ln.toArray⟩) rfl
 have HS16_5:St b c A ws g 75 w s5 #[.bool B0,.int .i64 N,.int .i64 (q:Int),.string ⟨lt.toArray⟩,.string ⟨ln.toArray⟩,.bool B4,.int .i64 (xk:Int),.int .i64 xn,.int .u64 (xd:Int),.string ⟨xs.toArray⟩,.slice xA xm xc] _:=HS16_4.put 5 (.bool B4) rfl
 have HS16_6:St b c A ws g 75 w s5 #[.bool B0,.int .i64 N,.int .i64 (q:Int),.string ⟨lt.toArray⟩,.string ⟨ln.toArray⟩,.bool B4,.int .i64 (xk:Int),.int .i64 xn,.int .u64 (xd:Int),.string ⟨xs.toArray⟩,.slice xA xm xc] _:=HS16_5.put 6 (.int .i64 (xk:Int)) rfl
 have HS16_7:St b c A ws g 75 w s5 #[.bool B0,.int .i64 N,.int .i64 (q:Int),.string ⟨lt.toArray⟩,.string ⟨ln.toArray⟩,.bool B4,.int .i64 (xk:Int),.int .i64 xn,.int .u64 (xd:Int),.string ⟨xs.toArray⟩,.slice xA xm xc] _:=HS16_6.put 7 (.int .i64 xn) rfl
 have HS16_8:St b c A ws g 75 w s5 #[.bool B0,.int .i64 N,.int .i64 (q:Int),.string ⟨lt.toArray⟩,.string ⟨ln.toArray⟩,.bool B4,.int .i64 (xk:Int),.int .i64 xn,.int .u64 (xd:Int),.string ⟨xs.toArray⟩,.slice xA xm xc] _:=HS16_7.put 8 (.int .u64 (xd:Int)) rfl
 have HS16_9:St b c A ws g 75 w s5 #[.bool B0,.int .i64 N,.int .i64 (q:Int),.string ⟨lt.toArray⟩,.string ⟨ln.toArray⟩,.bool B4,.int .i64 (xk:Int),.int .i64 xn,.int .u64 (xd:Int),.string ⟨xs.toArray⟩,.slice xA xm xc] _:=HS16_8.put 9 (.string ⟨xs.toArray⟩) rfl
 have HS16:St b c A ws g 75 w s5 #[.bool B0,.int .i64 N,.int .i64 (q:Int),.string ⟨lt.toArray⟩,.string ⟨ln.toArray⟩,.bool B4,.int .i64 (xk:Int),.int .i64 xn,.int .u64 (xd:Int),.string ⟨xs.toArray⟩,.slice xA xm xc] _:=HS16_9.put 10 (.slice xA xm xc) rfl
 refine bodyPost_ret (results_cell_row rfl _ _ g _ _ _ _ rfl HS16.bl.2 Tryz.underlying75 rfl (by kernel_rfl)) rfl ?_
 have HW:=(Oth.refl g wc).own (i:=0) (v:=.bool B0) |>.own (i:=1) (v:=.int .i64 N) |>.own (i:=2) (v:=.int .i64 (q:Int)) |>.own (i:=3) (v:=.string ⟨lt.toArray⟩) |>.own (i:=4) (v:=.string ⟨ln.toArray⟩) |>.own (i:=5) (v:=.bool B4) |>.own (i:=6) (v:=.int .i64 (xk:Int)) |>.own (i:=7) (v:=.int .i64 xn) |>.own (i:=8) (v:=.int .u64 (xd:Int)) |>.own (i:=9) (v:=.string ⟨xs.toArray⟩) |>.own (i:=10) (v:=.slice xA xm xc)
 refine ⟨⟨B0,N,q,lt,ln,B4,⟨xk,xn,xd,xs,.slice xA xm xc⟩⟩,rfl,⟨rfl,rfl,rfl,rfl,rfl,rfl,?_⟩,HS16.pc,HS16.ot⟩
 exact RC.lasts _ (Mv.oth HW (by have:=HS15.out.hg;omega) (Nat.lt_succ_self _)) HR15.out
end
end Go.Proofs.YtpbjkgpdkopgmaaGreatDoor
