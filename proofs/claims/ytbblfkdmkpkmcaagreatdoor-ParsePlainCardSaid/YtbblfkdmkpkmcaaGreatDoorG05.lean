/- The contracts of the cursor's small steps. The contracts of the cursor's word and sign. The text of types, step by step. Plain lemmas. What the parser of types needs, and leaves. -/
import Derived.Test.YtbblfkdmkpkmcaaGreatDoorG04
import Derived.StillTailTactics
import Derived.Deep.CutBlock
import Derived.ChangeKeysEq
import Derived.Laws.Rows
import Derived.Laws.ResultCell
import Derived.Test.YtbblfkdmkpkmcaaGreatDoorG03
set_option linter.unusedVariables false
set_option linter.unusedSimpArgs false
set_option linter.unnecessarySimpa false
namespace Go.Proofs.YtbblfkdmkpkmcaaGreatDoor
open Go.RowKit
theorem tok_field (a0 a1 a2 a3 a4:Value) (w:World) :
  (Instr.field 68 (.agg #[a0,a1,a2,a3,a4]) 0).run Tryz.prog w = .ok a0 w∧(Instr.field 68 (.agg #[a0,a1,a2,a3,a4]) 1).run Tryz.prog w = .ok a1 w ∧
  (Instr.field 68 (.agg #[a0,a1,a2,a3,a4]) 2).run Tryz.prog w = .ok a2 w∧(Instr.field 68 (.agg #[a0,a1,a2,a3,a4]) 3).run Tryz.prog w = .ok a3 w ∧
  (Instr.field 68 (.agg #[a0,a1,a2,a3,a4]) 4).run Tryz.prog w = .ok a4 w:=by
 have hu:=run_underlying (P:=Tryz.prog) Tryz.underlying68 w
 refine ⟨?_,?_,?_,?_,?_⟩ <;>
  (unfold Instr.field;simp [Sem.run_bind,hu,Result.andThen_ok,asAgg];exact run_part_plain _ (by kernel_rfl) rfl)
theorem cellsP5 {w:World} {B g:Nat} {T:TypeId} {a0 a1 a2 a3 a4:Value} (h:Blk w B g #[a0,a1,a2,a3,a4] T) :
  w.cell? ⟨g,0,none⟩=some a0∧w.cell? ⟨g,1,none⟩=some a1∧w.cell? ⟨g,2,none⟩=some a2∧w.cell? ⟨g,3,none⟩=some a3∧w.cell? ⟨g,4,none⟩=some a4 ∧
  w.frozen? ⟨g,0,none⟩=false∧w.frozen? ⟨g,1,none⟩=false∧w.frozen? ⟨g,2,none⟩=false∧w.frozen? ⟨g,3,none⟩=false∧w.frozen? ⟨g,4,none⟩=false :=
 ⟨h.cell 0,h.cell 1,h.cell 2,h.cell 3,h.cell 4,h.free 0,h.free 1,h.free 2,h.free 3,h.free 4⟩
theorem Blk.otherP {w:World} {B g k:Nat} {cs:Array Value} {T:TypeId} {v0 v1 v2 v3 v4:Value} (h:Blk w B g cs T) (hk:k≠g) :
  Blk (((((w.setCell ⟨k,0,none⟩ v0).setCell ⟨k,1,none⟩ v1).setCell ⟨k,2,none⟩ v2).setCell ⟨k,3,none⟩ v3).setCell ⟨k,4,none⟩ v4) B g cs T :=
 ((((h.other hk 0 v0).other hk 1 v1).other hk 2 v2).other hk 3 v3).other hk 4 v4
section
variable {w:World} {b c:Nat} {A:Option Addr} {ws:List TokV} {s:PSt}
set_option maxRecDepth 100000 in
set_option maxHeartbeats 1600000 in
theorem word_any' (h0:PC w b A c ws s) (tk:Nat) (tt:List UInt8) (tn:Int) (td tp:Nat) (ht:wordP ws s=⟨tk,tt,tn,td,tp⟩) :
  Calls Tryz.prog 57 #[.pointer (some ⟨b,0,none⟩)] w fun e w'=>e = .returned (.agg #[.int .i64 (tk:Int),.string ⟨tt.toArray⟩,.int .i64 tn,.int .u64 (td:Int),.int .i64 (tp:Int)])∧Nx w w':=by
 have HT:=Lib.hid ht
 clear ht
 obtain ⟨g0,hg0⟩:∃ g,w.heap.size=g:=⟨_,rfl⟩
 have hB0:=Blk.new w #[.int .i64 0,.string ⟨#[]⟩,.int .i64 0,.int .u64 0,.int .i64 0] 68
 rw [hg0] at hB0
 have hN0:Nx w (w.alloc (.cells #[.int .i64 0,.string ⟨#[]⟩,.int .i64 0,.int .u64 0,.int .i64 0] 68)):=nx0 _ _
 have h:=h0.nx hN0
 have HG0:Hid (w.heap.size≤g0):=Nat.le_of_eq hg0
 have HB0:=Lib.hid hB0
 have HN0:=Lib.hid hN0
 have c0:=h.c0
 have c1:=h.c1
 have c2:=h.c2
 by_cases he:s.e=0
 ·have b0:((s.e:Int) != 0)=false:=by rw [he];rfl
  have HW:Hid (wordP ws s=ws.getD s.i tok0):=by unfold Hid wordP;rw [if_neg (by simpa using he)]
  obtain ⟨g,rfl,hgw,hgb,hc⟩:=h.tok
  have hlt:(s.i:Int)<(ws.length:Int):=by have:=h.lt;omega
  have t0:=hc 0 (by decide)
  have t1:=hc 1 (by decide)
  have t2:=hc 2 (by decide)
  have t3:=hc 3 (by decide)
  have t4:=hc 4 (by decide)
  have hT:ws.getD s.i tok0=⟨tk,tt,tn,td,tp⟩:=by rw [← HW.out,HT.out]
  rw [hT] at t0 t1 t2 t3 t4
  have u0:(w.alloc (.cells #[.int .i64 0,.string ⟨#[]⟩,.int .i64 0,.int .u64 0,.int .i64 0] 68)).cell? ⟨g,s.i * 5,none⟩=some (.int .i64 (tk:Int)):=t0
  have u1:(w.alloc (.cells #[.int .i64 0,.string ⟨#[]⟩,.int .i64 0,.int .u64 0,.int .i64 0] 68)).cell? ⟨g,s.i * 5+1,none⟩=some (.string ⟨tt.toArray⟩):=t1
  have u2:(w.alloc (.cells #[.int .i64 0,.string ⟨#[]⟩,.int .i64 0,.int .u64 0,.int .i64 0] 68)).cell? ⟨g,s.i * 5+2,none⟩=some (.int .i64 tn):=t2
  have u3:(w.alloc (.cells #[.int .i64 0,.string ⟨#[]⟩,.int .i64 0,.int .u64 0,.int .i64 0] 68)).cell? ⟨g,s.i * 5+3,none⟩=some (.int .u64 (td:Int)):=t3
  have u4:(w.alloc (.cells #[.int .i64 0,.string ⟨#[]⟩,.int .i64 0,.int .u64 0,.int .i64 0] 68)).cell? ⟨g,s.i * 5+4,none⟩=some (.int .i64 (tp:Int)):=t4
  have hl3:(s.i:Int)≤2001:=by have:=h.lt;have:=h.fin.few;omega
  clear t0 t1 t2 t3 t4 hT hc h hB0 hN0 h0 he
  go_enter Tryz.func57,Tryz.ntmps57
  go_wp2_with fail
  generalize hW1:World.alloc _ _=w1 at *
  go_still_tail 10,(by kernel_rfl)
  change wpList _ _ _ _ _ w1.drew
  have HB1:Hid (Blk w1.drew g0 g0 #[.int .i64 0,.string ⟨#[]⟩,.int .i64 0,.int .u64 0,.int .i64 0] 68):=HB0.out
  have HN1:Hid (Nx w w1.drew):=HN0.out.dr 1
  clear HB0 HN0 c0 c1 c2 u0 u1 u2 u3 u4
  generalize w1.drew=w2 at *
  obtain ⟨d0,d1,d2,d3,d4,f0,f1,f2,f3,f4⟩:=cellsP5 HB1.out
  go_wp2_with fail
  refine bodyPost_ret (results_cell_row rfl _ _ g0 _ _ _ _ rfl (HB1.out.put5).2 Tryz.underlying68 rfl (by kernel_rfl)) rfl ?_
  exact ⟨rfl,HN1.out.put5 HG0.out⟩
 ·have b0:((s.e:Int) != 0)=true:=by rw [bne_iff_ne];omega
  have hW:wordP ws s=tok0:=by unfold wordP;rw [if_pos he]
  rw [HT.out] at hW
  unfold tok0 at hW
  simp only [TokV.mk.injEq] at hW
  obtain ⟨rfl,rfl,rfl,rfl,rfl⟩:=hW
  clear h hB0 hN0 h0 he
  go_enter Tryz.func57,Tryz.ntmps57
  go_wp2_with fail
  refine bodyPost_ret (results_cell_row rfl _ _ g0 _ _ _ _ rfl HB0.out.2 Tryz.underlying68 rfl (by kernel_rfl)) rfl ?_
  exact ⟨rfl,HN0.out⟩
set_option maxRecDepth 100000 in
set_option maxHeartbeats 1600000 in
theorem next_any (h0:PC w b A c ws s) (hk:s.e=0→(ws.getD s.i tok0).k≠6) (tk:Nat) (tt:List UInt8) (tn:Int) (td tp:Nat) (ht:wordP ws s=⟨tk,tt,tn,td,tp⟩) :
  Calls Tryz.prog 96 #[.pointer (some ⟨b,0,none⟩)] w fun e w'=>e = .returned (.agg #[.int .i64 (tk:Int),.string ⟨tt.toArray⟩,.int .i64 tn,.int .u64 (td:Int),.int .i64 (tp:Int)])∧PC w' b A c ws (nextP s)∧Oth b w w':=by
 have HT:=Lib.hid ht
 obtain ⟨g0,hg0⟩:∃ g,w.heap.size=g:=⟨_,rfl⟩
 have hB0:=Blk.new w #[.int .i64 0,.string ⟨#[]⟩,.int .i64 0,.int .u64 0,.int .i64 0] 68
 rw [hg0] at hB0
 have hN0:Nx w (w.alloc (.cells #[.int .i64 0,.string ⟨#[]⟩,.int .i64 0,.int .u64 0,.int .i64 0] 68)):=nx0 _ _
 have hbg:b≠g0:=by have:=h0.bw;omega
 have HG0:Hid (w.heap.size≤g0):=Nat.le_of_eq hg0
 have HB0:=Lib.hid hB0
 have HN0:=Lib.hid hN0
 have H:=Lib.hid (h0.nx hN0)
 have hlt:=h0.lt
 have hfew:=h0.fin.few
 have hnx:=h0.fin.next s.i hlt
 have HNX:=Lib.hid hnx
 have HK:=Lib.hid hk
 have hiI:(s.i:Int)≤2001:=by omega
 have H00:=Lib.hid h0
 clear h0 hN0 hB0 hk ht hnx
 go_enter Tryz.func96,Tryz.ntmps96
 go_wp2_with fail
 refine (word_any' H.out _ _ _ _ _ HT.out).mono ?_;rintro e w1 ⟨rfl,hn1⟩
 obtain ⟨g1,hg1⟩:∃ g,w1.heap.size=g:=⟨_,rfl⟩
 have hB1:=Blk.new w1 #[.int .i64 (tk:Int),.string ⟨tt.toArray⟩,.int .i64 tn,.int .u64 (td:Int),.int .i64 (tp:Int)] 68
 rw [hg1] at hB1
 have hn1':=hn1.trans (nx0 w1 (.cells #[.int .i64 (tk:Int),.string ⟨tt.toArray⟩,.int .i64 tn,.int .u64 (td:Int),.int .i64 (tp:Int)] 68))
 have HB1:=Lib.hid hB1
 have HN1:=Lib.hid hn1'
 have hbg1:b≠g1:=by have:=(H.out.nx hn1).bw;omega
 have hg01:g0≠g1:=by have:=(HB0.out.below hn1).lt;omega
 clear hB1 hn1' hn1
 go_upto_region 2 with (fail)
 generalize World.alloc _ _=w2 at *
 have P1:=H.out.nx HN1.out
 have c1:=P1.c1
 have c2:=P1.c2
 have f1:=P1.f 1
 have hB0:=HB0.out.below HN1.out
 obtain ⟨d0,d1,d2,d3,d4,e0,e1,e2,e3,e4⟩:=cellsP5 hB0
 obtain ⟨t0,t1,t2,t3,t4,-⟩:=cellsP5 HB1.out
 have HP1:=Lib.hid P1
 have HBg:=Lib.hid hB0
 have HN2:=Lib.hid (HN0.out.trans HN1.out)
 have HBG:=Lib.hid hbg
 clear P1 hB0
 by_cases he:s.e=0
 ·have b0:((s.e:Int) == 0)=true:=by rw [he];rfl
  have hnp:nextP s=⟨s.i+1,s.e⟩:=by unfold nextP;rw [if_neg (by simpa using he)]
  have HNP:=Lib.hid hnp
  have HHE:=Lib.hid he
  clear hnp he
  go_wp2_with fail
  refine bodyPost_ret (results_cell_row rfl _ _ g0 _ _ _ _ rfl ((HBg.out.other hbg _ _).put5).2 Tryz.underlying68 rfl (by kernel_rfl)) rfl ?_
  refine ⟨rfl,?_,?_⟩
  ·rw [HNP.out]
   exact H00.out.oth (((Oth.nx HN2.out).own).put5 HG0.out) ((HP1.out.cur.put 1 _).otherP (fun e=>hbg e.symm)) (HNX.out (HK.out HHE.out)) H00.out.el
  ·exact ((Oth.nx HN2.out).own).put5 HG0.out
 ·have b0:((s.e:Int) == 0)=false:=by rw [beq_eq_false_iff_ne];omega
  have hnp:nextP s=s:=by unfold nextP;rw [if_pos he]
  have HNP:=Lib.hid hnp
  have HHE:=Lib.hid he
  clear hnp he
  go_wp2_with fail
  refine bodyPost_ret (results_cell_row rfl _ _ g0 _ _ _ _ rfl (HBg.out.put5).2 Tryz.underlying68 rfl (by kernel_rfl)) rfl ?_
  refine ⟨rfl,?_,?_⟩
  ·rw [HNP.out]
   exact H00.out.nx (HN2.out.put5 HG0.out)
  ·exact Oth.nx (HN2.out.put5 HG0.out)
set_option maxRecDepth 100000 in
set_option maxHeartbeats 1600000 in
theorem fail_any (h0:PC w b A c ws s) (k:Nat) (hk:k≤18) (hk1:1≤k) :
  Calls Tryz.prog 58 #[.pointer (some ⟨b,0,none⟩),.int .i64 (k:Int)] w fun e w'=>e = .returned (.tuple #[])∧PC w' b A c ws (failP k s)∧Oth b w w':=by
 have H00:=Lib.hid h0
 have c2:=h0.c2
 have f2:=h0.f 2
 by_cases he:s.e=0
 ·have b0:((s.e:Int) == 0)=true:=by rw [he];rfl
  have hnp:failP k s=⟨s.i,k⟩:=by unfold failP;rw [if_neg (by simpa using he)]
  have HNP:=Lib.hid hnp
  clear hnp he h0
  go_enter Tryz.func58,Tryz.ntmps58
  go_wp2_with fail
  go_end0
  refine ⟨rfl,?_,Oth.set _ _ _ _⟩
  rw [HNP.out]
  exact H00.out.oth (Oth.set _ _ _ _) (H00.out.cur.put 2 _) H00.out.lt hk
 ·have b0:((s.e:Int) == 0)=false:=by rw [beq_eq_false_iff_ne];omega
  have hnp:failP k s=s:=by unfold failP;rw [if_pos he]
  have HNP:=Lib.hid hnp
  clear hnp he h0
  go_enter Tryz.func58,Tryz.ntmps58
  go_wp2_with fail
  go_end0
  refine ⟨rfl,?_,Oth.refl _ _⟩
  rw [HNP.out]
  exact H00.out
set_option maxRecDepth 100000 in
set_option maxHeartbeats 1600000 in
theorem is_any (h0:PC w b A c ws s) (u:ByteArray) (l:List UInt8) (hu:Tx u l) (B:Bool) (hB:isP ws l s=B) :
  Calls Tryz.prog 49 #[.pointer (some ⟨b,0,none⟩),.string u] w fun e w'=>e = .returned (.bool B)∧Nx w w':=by
 have H:=Lib.hid h0
 obtain ⟨⟨tk,tt,tn,td,tp⟩,hT⟩:∃ T,Hid (wordP ws s=T):=⟨_,rfl⟩
 have HB:Hid (((decide (tk=1) || decide (tk=5)) && decide (tt=l))=B):=by unfold isP at hB;rw [hT.out] at hB;exact hB
 have heq:(tt == u.toList)=decide (tt=l):=by
  rw [hu.toL]
  rw [Bool.eq_iff_iff];simp
 obtain ⟨E,hE⟩:∃ E,Hid (decide (tt=l)=E):=⟨_,rfl⟩
 rw [hE.out] at heq HB
 have HEQ:=Lib.hid heq
 clear h0 hu hB
 go_enter Tryz.func49,Tryz.ntmps49
 go_wp2_with fail
 refine (word_any' H.out _ _ _ _ _ hT.out).mono ?_;rintro e w1 ⟨rfl,hn1⟩
 have HN1:=Lib.hid hn1
 clear hn1
 have hN2:=Lib.hid ((HN1.out).trans (nx0 w1 (.cells #[.int .i64 (tk:Int),.string ⟨tt.toArray⟩,.int .i64 tn,.int .u64 (td:Int),.int .i64 (tp:Int)] 68)))
 by_cases h1:tk=1
 ·subst h1
  obtain rfl:E=B:=HB.out
  have heq:=HEQ.out
  clear HB
  go_wp2_with fail
  go_ret
  exact ⟨rfl,hN2.out⟩
 ·by_cases h5:tk=5
  ·subst h5
   obtain rfl:E=B:=HB.out
   have heq:=HEQ.out
   clear HB
   go_wp2_with fail
   go_ret
   exact ⟨rfl,hN2.out⟩
  ·have b1:((tk:Int) == 1)=false:=by rw [beq_eq_false_iff_ne];omega
   have b5:((tk:Int) == 5)=false:=by rw [beq_eq_false_iff_ne];omega
   obtain rfl:false=B:=by rw [← HB.out,decide_eq_false h1,decide_eq_false h5];rfl
   clear HB h1 h5
   go_wp2_with fail
   go_ret
   exact ⟨rfl,hN2.out⟩
set_option maxRecDepth 100000 in
set_option maxHeartbeats 1600000 in
theorem take_any' (h0:PC w b A c ws s) (u:ByteArray) (l:List UInt8) (hu:Tx u l) (B:Bool) (hB:isP ws l s=B) :
  Calls Tryz.prog 99 #[.pointer (some ⟨b,0,none⟩),.string u] w fun e w'=>e = .returned (.bool B)∧PC w' b A c ws (if B then nextP s else s)∧Oth b w w':=by
 have H:=Lib.hid h0
 have HU:=Lib.hid hu
 have HB:=Lib.hid hB
 have hk:B=true→s.e=0→(ws.getD s.i tok0).k≠6:=by
  intro hb he
  unfold isP at hB
  have hw:wordP ws s=ws.getD s.i tok0:=by unfold wordP;rw [if_neg (by simpa using he)]
  rw [hw,hb] at hB
  intro h6
  rw [h6] at hB
  simp at hB
 have HK:=Lib.hid hk
 clear h0 hu hB hk
 go_enter Tryz.func99,Tryz.ntmps99
 go_wp2_with fail
 refine (is_any H.out u l HU.out B HB.out).mono ?_;rintro e w1 ⟨rfl,hn1⟩
 have HN1:=Lib.hid hn1
 clear hn1
 cases B
 ·go_wp2_with fail
  go_ret
  exact ⟨rfl,H.out.nx HN1.out,Oth.nx HN1.out⟩
 ·have HK2:Hid (s.e=0→(ws.getD s.i tok0).k≠6):=HK.out rfl
  clear HK
  go_wp2_with fail
  refine (next_any (H.out.nx HN1.out) HK2.out _ _ _ _ _ rfl).mono ?_;rintro e w2 ⟨rfl,hp,ho⟩
  go_wp2_with fail
  go_ret
  exact ⟨rfl,hp,(Oth.nx HN1.out).trans ho⟩
set_option maxRecDepth 100000 in
set_option maxHeartbeats 1600000 in
theorem need_any (h0:PC w b A c ws s) (u:ByteArray) (l:List UInt8) (hu:Tx u l) (s':PSt) (hs:needP ws l s=s') :
  Calls Tryz.prog 104 #[.pointer (some ⟨b,0,none⟩),.string u] w fun e w'=>e = .returned (.tuple #[])∧PC w' b A c ws s'∧Oth b w w':=by
 have H:=Lib.hid h0
 have HU:=Lib.hid hu
 obtain ⟨B,hB⟩:∃ B,Hid (isP ws l s=B):=⟨_,rfl⟩
 have HS:Hid ((if B then nextP s else failP 2 s)=s'):=by unfold Hid;rw [← hs];unfold needP;rw [hB.out]
 clear h0 hu hs
 go_enter Tryz.func104,Tryz.ntmps104
 go_wp2_with fail
 refine (take_any' H.out u l HU.out B hB.out).mono ?_;rintro e w1 ⟨rfl,hp1,ho1⟩
 have HP1:=Lib.hid hp1
 have HO1:=Lib.hid ho1
 clear hp1 ho1
 cases B
 ·go_wp2_with fail
  refine (fail_any HP1.out 2 (by decide) (by decide)).mono ?_;rintro e w2 ⟨rfl,hp,ho⟩
  go_wp2_with fail
  go_end0
  exact ⟨rfl,HS.out ▸ hp,HO1.out.trans ho⟩
 ·go_wp2_with fail
  go_end0
  exact ⟨rfl,HS.out ▸ HP1.out,HO1.out⟩
set_option maxRecDepth 100000 in
set_option maxHeartbeats 1600000 in
theorem atName_any (h0:PC w b A c ws s) (B:Bool) (hB:atNameP ws s=B) :
  Calls Tryz.prog 100 #[.pointer (some ⟨b,0,none⟩)] w fun e w'=>e = .returned (.bool B)∧Nx w w':=by
 have H:=Lib.hid h0
 obtain ⟨⟨tk,tt,tn,td,tp⟩,hT⟩:∃ T,Hid (wordP ws s=T):=⟨_,rfl⟩
 have HB:Hid (decide (tk=1)=B):=by unfold atNameP at hB;rw [hT.out] at hB;exact hB
 have heq:((tk:Int) == 1)=decide (tk=1):=by rw [Bool.eq_iff_iff];simp;omega
 rw [HB.out] at heq
 clear h0 hB
 have F0:∀ w1,(Instr.field 68 (.agg #[.int .i64 (tk:Int),.string ⟨tt.toArray⟩,.int .i64 tn,.int .u64 (td:Int),.int .i64 (tp:Int)]) 0).run Tryz.prog w1 = .ok (.int .i64 (tk:Int)) w1:=fun w1=>(tok_field _ _ _ _ _ w1).1
 go_enter Tryz.func100,Tryz.ntmps100
 go_wp2_with fail
 refine (word_any' H.out _ _ _ _ _ hT.out).mono ?_;rintro e w1 ⟨rfl,hn1⟩
 go_wp2_with fail
 go_ret
 exact ⟨rfl,hn1⟩
end
end Go.Proofs.YtbblfkdmkpkmcaaGreatDoor
namespace Go.Proofs.YtbblfkdmkpkmcaaGreatDoor
open Go.RowKit
def atK (b:Nat) (w:World):Nat:=match w.cell? ⟨b,1,none⟩ with
 | some (.int _ n)=>n.toNat
 | _=>0
theorem CurK.at_ {w:World} {b:Nat} {s:ByteArray} {o:Nat} {d dp:Int} {v:Value} {sb:Nat} (h:CurK w b s (o:Int) d dp v sb):atK b w=o:=by
 unfold atK
 rw [show w.cell? ⟨b,1,none⟩=some (.int .i64 (o:Int)) from h.cell 1]
 simp
theorem span_at (p:UInt8→Bool) (l:List UInt8) (i:Nat) (h:i<l.length):spanN p (l.drop i)=if p l[i] then spanN p (l.drop (i+1))+1 else 0:=by
 rw [List.drop_eq_getElem_cons h]
 rfl
theorem Tx.byteK {s:ByteArray} {l:List UInt8} (h:Tx s l) (o:Nat) (c:UInt8) (r:List UInt8) (hd:l.drop o=c :: r):o<l.length∧∃ hp:o<s.size,s[o]'hp=c:=by
 have h1:o<l.length:=by
  rcases Nat.lt_or_ge o l.length with h | h
  ·exact h
  ·rw [List.drop_eq_nil_iff.2 h] at hd;cases hd
 obtain ⟨hp,e⟩:=h.idx o h1
 refine ⟨h1,hp,?_⟩
 rw [e]
 have e2:=List.drop_eq_getElem_cons h1
 rw [e2] at hd
 injection hd
theorem drop_cons {l r:List UInt8} {o:Nat} {c:UInt8} (hd:l.drop o=c :: r):l.drop (o+1)=r:=by
 rw [← List.drop_drop,hd];rfl
theorem CurK.drew {w:World} {b:Nat} {s:ByteArray} {o d dp:Int} {v:Value} {sb:Nat} (h:CurK w b s o d dp v sb) (n:Nat):CurK (w.drewN n) b s o d dp v sb:=Blk.drew h n
theorem CurK.put1 {w:World} {b:Nat} {s:ByteArray} {o d dp:Int} {v:Value} {sb:Nat} (h:CurK w b s o d dp v sb) (o':Int):CurK (w.setCell ⟨b,1,none⟩ (.int .i64 o')) b s o' d dp v sb:=Blk.put h 1 _
theorem CurK.put2 {w:World} {b:Nat} {s:ByteArray} {o d dp:Int} {v:Value} {sb:Nat} (h:CurK w b s o d dp v sb) (d':Int):CurK (w.setCell ⟨b,2,none⟩ (.int .i64 d')) b s o d' dp v sb:=Blk.put h 2 _
theorem CurK.put3 {w:World} {b:Nat} {s:ByteArray} {o d dp:Int} {v:Value} {sb:Nat} (h:CurK w b s o d dp v sb) (dp':Int):CurK (w.setCell ⟨b,3,none⟩ (.int .i64 dp')) b s o d dp' v sb:=Blk.put h 3 _
theorem CurK.put4 {w:World} {b:Nat} {s:ByteArray} {o d dp:Int} {v:Value} {sb:Nat} (h:CurK w b s o d dp v sb) (v':Value):CurK (w.setCell ⟨b,4,none⟩ v') b s o d dp v' sb:=Blk.put h 4 _
set_option maxRecDepth 100000 in
set_option maxHeartbeats 1600000 in
theorem word_any (b:Nat) (s:ByteArray) (l:List UInt8) (o:Nat) (d dp:Int) (v:Value) (sb:Nat) (w:World) (hC:CurK w b s (o:Int) d dp v sb) (hl:Tx s l) (ho:o≤l.length) (hs:(l.length:Int)≤8000) :
  Calls Tryz.prog 159 #[.pointer (some ⟨b,0,none⟩)] w fun e w'=>∃ u,e = .returned (.string u)∧Hid (Tx u ((l.drop o).take (spanN isNmS (l.drop o))))∧CurK w' b s ((o+spanN isNmS (l.drop o):Nat):Int) d dp v sb∧Oth b w w':=by
 have HL:=Lib.hid hl
 have HC:=Lib.hid hC
 obtain ⟨N,hN⟩:∃ N,Hid (spanN isNmS (l.drop o)=N):=⟨_,rfl⟩
 rw [hN.out]
 have hNl:o+N≤l.length:=by have:=spanN_le isNmS (l.drop o);rw [hN.out] at this;simp at this;omega
 have c1:w.cell? ⟨b,1,none⟩=some (.int .i64 (o:Int)):=hC.cell 1
 clear hl hC
 go_enter Tryz.func159,Tryz.ntmps159
 go_wp2_with fail
 clear c1
 go_loopw [] (fun wr=>∃ i:Nat,CurK wr b s (i:Int) d dp v sb∧o≤i∧i≤l.length∧Hid (N+o=spanN isNmS (l.drop i)+i)∧Oth b w wr) (fun wr=>10000 - atK b wr)
 case atStart=>exact ⟨o,HC.out,Nat.le_refl _,ho,by unfold Hid;rw [hN.out],Oth.refl _ _⟩
 case round =>
  obtain ⟨i,hC,hoi,hi,HS,hO⟩:=hrel
  have hat:=hC.at_
  have c0:wr.cell? ⟨b,0,none⟩=some (.string s):=hC.cell 0
  have c1:wr.cell? ⟨b,1,none⟩=some (.int .i64 (i:Int)):=hC.cell 1
  have f1:wr.frozen? ⟨b,1,none⟩=false:=hC.free 1
  have HAT:=Lib.hid hat
  have HC1:=Lib.hid hC
  have HO:=Lib.hid hO
  have hz:(s.size:Int)=(l.length:Int):=by rw [HL.out.size]
  have HZ:=Lib.hid hz
  clear hat hC hO hz
  obtain ⟨l1,hl1⟩:∃ l1,Hid (l.drop i=l1):=⟨_,rfl⟩
  have hl1n:l1.length+i=l.length:=by rw [← hl1.out];simp;omega
  rw [hl1.out] at HS
  cases l1 with
  | nil =>
   have hNi:N+o=i:=by have:=HS.out;rw [show spanN isNmS []=0 from rfl] at this;omega
   have hi1:(i:Int)≤(s.size:Int):=by rw [HZ.out];omega
   have hoiI:(o:Int)≤(i:Int):=by omega
   have g1:decide ((i:Int)<(s.size:Int))=false:=decide_eq_false (by rw [HZ.out];simp at hl1n;omega)
   have g2:¬ i<s.size:=by have:=HZ.out;simp at hl1n;omega
   have HNI:=Lib.hid hNi
   obtain ⟨u,hu,HU⟩:=HL.out.mid o i
   clear hNi
   go_wp2_with fail
   go_quiet (fail)
   go_wp2_with fail
   go_quiet (fail)
   go_wp2_with fail
   go_ret
   have h1:=HNI.out
   refine ⟨u,rfl,?_,?_,(HO.out.trans (Oth.nx (((Nx.refl _).dr _).dr _)))⟩
   ·unfold Hid
    rw [List.take_drop,show o+N=i by omega]
    exact HU.out
   ·rw [show o+N=i by omega]
    exact (HC1.out.drew _).drew _
  | cons c r =>
   obtain ⟨hil,hp,hxc⟩:=HL.out.byteK i c r hl1.out
   have hi8:(i:Int)≤8000:=by omega
   have g1:decide ((i:Int)<(s.size:Int))=true:=decide_eq_true (by omega)
   have hsp:spanN isNmS (c :: r)=if isNmS c then spanN isNmS r+1 else 0:=rfl
   obtain ⟨B,HB⟩:∃ B,Hid (isNmS c=B):=⟨_,rfl⟩
   have hcall:∀ w,Calls Tryz.prog 194 #[.int .u8 (c.toNat:Int)] w fun e w'=>e = .returned (.bool B)∧w'=w:=by
    intro w;have:=kisOfName_any c w;rw [HB.out] at this;exact this
   rw [HB.out] at hsp
   have HSP:=Lib.hid hsp
   have hi1:(i:Int)≤(s.size:Int):=by rw [HZ.out];omega
   have hoiI:(o:Int)≤(i:Int):=by omega
   obtain ⟨u,hu,HU⟩:=HL.out.mid o i
   clear hsp
   go_wp2_with fail
   go_quiet (exact Calls.quiet_of_same (hcall _))
   clear g1 hxc hp hcall
   generalize hW:World.drewN wr _=w1
   have hC1:CurK w1 b s (i:Int) d dp v sb:=by rw [← hW];exact HC1.out.drew _
   have hO1:Oth b w w1:=by rw [← hW];exact HO.out.trans (Oth.nx ((Nx.refl _).dr _))
   clear hW c0 c1 f1
   have c0:w1.cell? ⟨b,0,none⟩=some (.string s):=hC1.cell 0
   have c1:w1.cell? ⟨b,1,none⟩=some (.int .i64 (i:Int)):=hC1.cell 1
   have f1:w1.frozen? ⟨b,1,none⟩=false:=hC1.free 1
   have HC2:=Lib.hid hC1
   have HO2:=Lib.hid hO1
   clear hC1 hO1
   cases B
   ·go_wp2_with fail
    go_quiet (fail)
    go_wp2_with fail
    go_ret
    have h1:N+o=i:=by have:=HS.out;rw [HSP.out] at this;simpa using this
    refine ⟨u,rfl,?_,?_,(HO2.out.trans (Oth.nx ((Nx.refl _).dr _)))⟩
    ·unfold Hid
     rw [List.take_drop,show o+N=i by omega]
     exact HU.out
    ·rw [show o+N=i by omega]
     exact HC2.out.drew _
   ·go_wp2_with fail
    go_roundw
    case rel =>
     refine ⟨i+1,?_,by omega,by omega,?_,HO2.out.own⟩
     ·exact HC2.out.put1 _
     ·unfold Hid
      rw [HS.out,HSP.out,drop_cons hl1.out]
      simp
      omega
    case measure =>
     have h1:CurK (w1.setCell ⟨b,1,none⟩ (.int .i64 ((i:Int)+1))) b s ((i+1:Nat):Int) d dp v sb:=HC2.out.put1 _
     rw [h1.at_,HAT.out]
     omega
set_option maxRecDepth 100000 in
set_option maxHeartbeats 1600000 in
theorem take_any (b:Nat) (s:ByteArray) (l:List UInt8) (o:Nat) (d dp:Int) (v:Value) (sb:Nat) (x:UInt8) (w:World) (hC:CurK w b s (o:Int) d dp v sb) (hl:Tx s l) (ho:o≤l.length) (hs:(l.length:Int)≤8000) :
  Calls Tryz.prog 221 #[.pointer (some ⟨b,0,none⟩),.int .u8 (x.toNat:Int)] w fun e w'=>e = .returned (.bool (decide ((l.drop o).head? = some x))) ∧
   CurK w' b s ((o+(if (l.drop o).head? = some x then 1 else 0):Nat):Int) d dp v sb∧Oth b w w':=by
 have HL:=Lib.hid hl
 have HC:=Lib.hid hC
 have c0:w.cell? ⟨b,0,none⟩=some (.string s):=hC.cell 0
 have c1:w.cell? ⟨b,1,none⟩=some (.int .i64 (o:Int)):=hC.cell 1
 have f1:w.frozen? ⟨b,1,none⟩=false:=hC.free 1
 have hz:(s.size:Int)=(l.length:Int):=by rw [hl.size]
 have HZ:=Lib.hid hz
 obtain ⟨l1,hl1⟩:∃ l1,Hid (l.drop o=l1):=⟨_,rfl⟩
 have hl1n:l1.length+o=l.length:=by rw [← hl1.out];simp;omega
 rw [hl1.out]
 clear hl hC hz
 cases l1 with
 | nil =>
  have g1:((o:Int) == (s.size:Int))=true:=by rw [beq_iff_eq,HZ.out];simp at hl1n;omega
  go_enter Tryz.func221,Tryz.ntmps221
  go_wp2_with fail
  go_quiet (fail)
  go_wp2_with fail
  go_ret
  exact ⟨rfl,HC.out.drew _,Oth.nx ((Nx.refl _).dr _)⟩
 | cons c r =>
  obtain ⟨hol,hp,hxc⟩:=HL.out.byteK o c r hl1.out
  have g1:((o:Int) == (s.size:Int))=false:=by rw [beq_eq_false_iff_ne];omega
  have g2:(o:Int)<(s.size:Int):=by omega
  have ho8:(o:Int)≤8000:=by omega
  by_cases hx:c=x
  ·have g3:((c.toNat:Int) != (x.toNat:Int))=false:=by subst hx;simp
   have HX:=Lib.hid hx
   have e1:decide ((c :: r).head? = some x)=true:=by rw [hx];simp
   have e2:(c :: r).head? = some x:=by rw [hx];rfl
   rw [e1,if_pos e2]
   clear hx e1 e2
   go_enter Tryz.func221,Tryz.ntmps221
   go_wp2_with fail
   go_quiet (fail)
   go_wp2_with fail
   go_ret
   exact ⟨rfl,(HC.out.drew _).put1 _,(Oth.nx ((Nx.refl _).dr _)).own⟩
  ·have g3:((c.toNat:Int) != (x.toNat:Int))=true:=by
    rw [bne_iff_ne]
    intro h
    exact hx (UInt8.toNat_inj.1 (by omega))
   have e1:decide ((c :: r).head? = some x)=false:=decide_eq_false (by simpa using hx)
   have e2:¬ (c :: r).head? = some x:=by simpa using hx
   rw [e1,if_neg e2]
   clear hx e1 e2
   go_enter Tryz.func221,Tryz.ntmps221
   go_wp2_with fail
   go_quiet (fail)
   go_wp2_with fail
   go_ret
   exact ⟨rfl,HC.out.drew _,Oth.nx ((Nx.refl _).dr _)⟩
end Go.Proofs.YtbblfkdmkpkmcaaGreatDoor
namespace Go.Proofs.YtbblfkdmkpkmcaaGreatDoor
def innT (par:List UInt8→Nat×Ty×Nat) (k:Nat) (l:List UInt8):Nat×Ty×Nat :=
 if l.head?≠some 60 then noTy 2
 else if (par (l.drop 1)).1≠0 then noTy (par (l.drop 1)).1
 else if k=13 then
  if (l.drop (1+(par (l.drop 1)).2.2)).head?≠some 44 then noTy 2
  else if (par (l.drop (1+(par (l.drop 1)).2.2+1))).1≠0 then noTy (par (l.drop (1+(par (l.drop 1)).2.2+1))).1
  else if (l.drop (1+(par (l.drop 1)).2.2+1+(par (l.drop (1+(par (l.drop 1)).2.2+1))).2.2)).head?≠some 62 then noTy 2
  else (0,.mp (par (l.drop 1)).2.1 (par (l.drop (1+(par (l.drop 1)).2.2+1))).2.1,1+(par (l.drop 1)).2.2+1+(par (l.drop (1+(par (l.drop 1)).2.2+1))).2.2+1)
 else if (l.drop (1+(par (l.drop 1)).2.2)).head?≠some 62 then noTy 2
 else (0,.l1 k (par (l.drop 1)).2.1,1+(par (l.drop 1)).2.2+1)
def witT (r k:Nat) (l:List UInt8):Nat×Ty×Nat :=
 if k≠13∧k≠14∧k≠15 then (0,.bs k,0)
 else match r with
  | 0=>noTy 6
  | r+1=>innT (parT r) k l
def addT (n:Nat) (p:Nat×Ty×Nat):Nat×Ty×Nat:=if p.1≠0 then noTy p.1 else (0,p.2.1,n+p.2.2)
def nameT (w:List UInt8):Nat×Ty×Nat:=if nameOk w then (0,.nm w,w.length) else noTy 2
theorem wl (l:List UInt8):(l.take (spanN isNmS l)).length=spanN isNmS l:=by
 have:=spanN_le isNmS l
 simp;omega
theorem parT_word (r:Nat) (l:List UInt8):parT r l=if kindW (l.take (spanN isNmS l))=0 then nameT (l.take (spanN isNmS l)) else addT (spanN isNmS l) (witT r (kindW (l.take (spanN isNmS l))) (l.drop (spanN isNmS l))):=by
 unfold nameT
 rw [wl]
 cases r with
 | zero =>
  unfold parT witT
  generalize kindW (l.take (spanN isNmS l))=k
  by_cases h0:k=0
  ·rw [if_pos h0,if_pos h0]
  ·rw [if_neg h0,if_neg h0]
   by_cases h1:k≠13∧k≠14∧k≠15
   ·rw [if_pos h1,if_pos h1];rfl
   ·rw [if_neg h1,if_neg h1];rfl
 | succ r =>
  unfold parT witT
  generalize kindW (l.take (spanN isNmS l))=k
  generalize spanN isNmS l=N
  by_cases h0:k=0
  ·rw [if_pos h0,if_pos h0]
  ·rw [if_neg h0,if_neg h0]
   by_cases h1:k≠13∧k≠14∧k≠15
   ·rw [if_pos h1,if_pos h1];rfl
   ·rw [if_neg h1,if_neg h1]
    dsimp only
    unfold innT
    rw [List.drop_drop]
    generalize hp:parT r (l.drop (N+1))=p
    obtain ⟨pe,pt,pn⟩:=p
    dsimp only
    by_cases g1:(l.drop N).head?≠some 60
    ·rw [if_pos g1,if_pos g1];rfl
    ·rw [if_neg g1,if_neg g1]
     by_cases g2:pe≠0
     ·rw [if_pos g2,if_pos g2]
      unfold addT noTy
      rw [if_pos g2]
     ·rw [if_neg g2,if_neg g2]
      have e1:(l.drop N).drop (1+pn)=l.drop (N+1+pn):=by rw [List.drop_drop];congr 1;omega
      have e2:(l.drop N).drop (1+pn+1)=l.drop (N+1+pn+1):=by rw [List.drop_drop];congr 1;omega
      rw [e1,e2]
      by_cases h13:k=13
      ·rw [if_pos h13,if_pos h13]
       generalize hq:parT r (l.drop (N+1+pn+1))=q
       obtain ⟨qe,qt,qn⟩:=q
       dsimp only
       by_cases g3:(l.drop (N+1+pn)).head?≠some 44
       ·rw [if_pos g3,if_pos g3];rfl
       ·rw [if_neg g3,if_neg g3]
        by_cases g4:qe≠0
        ·rw [if_pos g4,if_pos g4]
         unfold addT noTy
         rw [if_pos g4]
        ·rw [if_neg g4,if_neg g4]
         have e3:(l.drop N).drop (1+pn+1+qn)=l.drop (N+1+pn+1+qn):=by rw [List.drop_drop];congr 1;omega
         rw [e3]
         by_cases g5:(l.drop (N+1+pn+1+qn)).head?≠some 62
         ·rw [if_pos g5,if_pos g5];rfl
         ·rw [if_neg g5,if_neg g5]
          unfold addT
          rw [if_neg (by simp)]
          congr 2
          dsimp only
          omega
      ·rw [if_neg h13,if_neg h13]
       by_cases g3:(l.drop (N+1+pn)).head?≠some 62
       ·rw [if_pos g3,if_pos g3];rfl
       ·rw [if_neg g3,if_neg g3]
        unfold addT
        rw [if_neg (by simp)]
        congr 2
        dsimp only
        omega
theorem names_len (t:Ty) (h:wfT t):(namesT t).length≤(showT t).length:=by
 induction t with
 | nm s =>
  cases s with
  | nil=>exact absurd h.1 (by decide)
  | cons c s=>simp [namesT,showT]
 | bs k=>simp [namesT]
 | l1 k a ih=>have:=ih h.2;simp [namesT,showT];omega
 | mp a b iha ihb=>have:=iha h.1;have:=ihb h.2;simp [namesT,showT];omega
theorem parT_names (r:Nat) (l:List UInt8) (h:(parT r l).1=0):(namesT (parT r l).2.1).length≤(parT r l).2.2∧(parT r l).2.2≤l.length:=by
 obtain ⟨h1,-,h3,h4⟩:=parT_sound r l h
 refine ⟨?_,h3⟩
 have:=names_len _ h1
 rw [← h4] at this
 simp at this
 omega
end Go.Proofs.YtbblfkdmkpkmcaaGreatDoor
namespace Go.Proofs.YtbblfkdmkpkmcaaGreatDoor
open Go.RowKit
theorem results_cell_tmp_rowK {P:Program} {fn:Func} {p u:Tmp} {ty:TypeId} (h:fn.results=#[.cell p ty,.tmp u]) (tmps:Array Value) (w:World) (g:Nat) (t:TypeId) (cs:Array Value) (fr:Nat×Nat) (d:TypeDesc)
  (hp:tmps.getD p undef = .pointer (some ⟨g,0,none⟩)) (hg:w.heap[g]? = some (.cells cs t fr))
  (hu:P.underlying ty=some d) (hd:(match d with | .struct _ | .array _ _=>true | _=>false)=true) (hi:(P.info? ty).map (·.size)=some cs.size) :
  (results fn tmps).run P w = .ok (.tuple #[.agg cs,tmps.getD u undef]) w:=by
 have hp':tmps[p]?.getD undef = .pointer (some ⟨g,0,none⟩):=by simpa using hp
 simp [results,h,hp',asAddr,run_loadVar_row w g t ty cs fr d hg hu hd hi]
theorem wpList_appN (w:World) {ops:Array Oper} {rest:List Oper} {o:Oper} {a:Act} {Q:Exit→Act→World→Prop} (hgd:o.guard=none) (s x:Operand)
  (ho:o.op = .call { callee:=.builtin .append,args:=#[s,x],argTypes:=#[23,23] })
  (B:Nat) (v:Value) (xs:List ByteArray) (y:ByteArray) (hs:a.eval s=v) (hown:OwnN w B v xs) (g:Nat) (hx:a.eval x = .slice (some ⟨g,0,none⟩) 1 1)
  (hy:w.cell? ⟨g,0,none⟩=some (.string y)) (h63:(xs.length:Int)≤100000) (hB:B≤w.heap.size)
  (h:∀ v' w',OwnN w' B v' (xs++[y])→(∀ b,Fr b v w v' w')→wpList Tryz.prog ops Q rest (a.put o.dst v') w'):wpList Tryz.prog ops Q (o :: rest) a w:=by
 refine wpList_plain hgd fun K hK=>?_
 obtain ⟨i,hi,hz,h1,h2⟩:=info_parts (show (Tryz.prog.info? 9).map (fun i=>(i.zero,i.size,i.bytes))=some (some (.string ⟨#[]⟩),1,16) by kernel_rfl)
 have hcells:∀ j u,((strC y).toList)[j]? = some u→w.cell? ((⟨g,0,none⟩:Addr).add j)=some u:=by
  intro j u hu
  have hj:j=0:=by
   rcases Nat.eq_zero_or_pos j with h | h
   ·exact h
   ·rw [List.getElem?_eq_none (by show (strC y).size≤j;rw [strC_size];exact h)] at hu;cases hu
  subst hj
  rw [Addr.add_lit,Nat.zero_add,hy,← hu];rfl
 obtain ⟨v',w',hrun,ho',hg,_,hloc⟩:=run_append_own_at (P:=Tryz.prog) w B 23 o.type 9 i _ 1 16 Tryz.underlying23 hi hz h1 h2 rfl (by decide) v xs.length (rowL strC xs) hown ⟨g,0,none⟩ 1 1 (strC y).toList (by rfl) hcells (by intro u hu;simp [strC] at hu;subst hu;rfl) (by simp [maxLen];omega)
  (by omega) hB
 have hown':OwnN w' B v' (xs++[y]):=by
  unfold OwnN OwnS
  rw [List.length_append,rowL_snoc]
  exact ho'
 have hFr:∀ b,Fr b v w v' w':=fun b=>⟨hg.os,hg.tape,hg.output,hg.size,fun k hk hb hv=>hg.block k hk (Ne.symm hv),fun k e=>by
  rcases hloc with h | h
  ·exact .inl (h ▸ e)
  ·rw [h] at e;cases e;exact .inr (Nat.le_refl _)⟩
 have:=hK _ _ (h v' w' hown' hFr)
 unfold Oper.wp execOp
 simp only [ho,resolve,invoke,builtin,Sem.run_bind,Sem.run_pure,Result.andThen_ok,List.map_toArray,List.map_cons,List.map_nil,hs,hx,hrun]
 exact this
def nmB (t:Ty):List ByteArray:=(namesT t).map fun x=>⟨x.toArray⟩
structure Pre (w:World) (b:Nat) (s:ByteArray) (l:List UInt8) (o D DP sb B:Nat) (v:Value) (ns:List ByteArray):Prop where
 cur:CurK w b s (o:Int) (D:Int) (DP:Int) v sb
 tx:Tx s l
 ho:o≤l.length
 hs:(l.length:Int)≤8000
 own:OwnN w B v ns
 nsl:ns.length≤o
 sg:Sg w sb
 sbB:sb<B
 sbb:sb≠b
 tab:TabK w
 maxc:MaxC w
 gb0:1≠b
 gb1:0≠b
 gB0:1 < B
 gB1:0 < B
 bB:b<B
 le:D≤DP
 dp:DP≤12
 bz:B≤w.heap.size
theorem Pre.ne {w:World} {b:Nat} {s:ByteArray} {l:List UInt8} {o D DP sb B:Nat} {v:Value} {ns:List ByteArray} (h:Pre w b s l o D DP sb B v ns) (g:Nat) (hg:g<B):v.ownBlock≠some g:=fun e=>by
 have:=(h.own.own g e).1
 omega
theorem Pre.fr {w w':World} {b:Nat} {s:ByteArray} {l:List UInt8} {o D DP sb B o' D' DP':Nat} {v v':Value} {ns ns':List ByteArray} (h:Pre w b s l o D DP sb B v ns) (hF:Fr b v w v' w')
  (hc:CurK w' b s (o':Int) (D':Int) (DP':Int) v' sb) (ho:o'≤l.length) (hown:OwnN w' B v' ns') (hn:ns'.length≤o') (hle:D'≤DP') (hdp:DP'≤12):Pre w' b s l o' D' DP' sb B v' ns' :=
 {cur:=hc,tx:=h.tx,ho:=ho,hs:=h.hs,own:=hown,nsl:=hn,sg:=hF.sg h.sg h.sbb (h.ne _ h.sbB),sbB:=h.sbB,sbb:=h.sbb,
  tab:=hF.tab h.tab h.gb0 (h.ne _ h.gB0),maxc:=hF.maxC h.maxc h.gb1 (h.ne _ h.gB1),gb0:=h.gb0,gb1:=h.gb1,gB0:=h.gB0,gB1:=h.gB1,bB:=h.bB,le:=hle,dp:=hdp,bz:=Nat.le_trans h.bz hF.size }
theorem Pre.ownFr {w w':World} {b:Nat} {s:ByteArray} {l:List UInt8} {o D DP sb B:Nat} {v:Value} {ns:List ByteArray} (h:Pre w b s l o D DP sb B v ns) (hO:Oth b w w'):OwnN w' B v ns :=
 h.own.keep fun k e=>hO.block k (h.own.own k e).2 (fun e'=>by have:=(h.own.own k e).1;have:=h.bB;omega)
theorem Pre.oth {w w':World} {b:Nat} {s:ByteArray} {l:List UInt8} {o D DP sb B o' D' DP':Nat} {v:Value} {ns:List ByteArray} (h:Pre w b s l o D DP sb B v ns) (hO:Oth b w w')
  (hc:CurK w' b s (o':Int) (D':Int) (DP':Int) v sb) (h1:o≤o') (ho:o'≤l.length) (hle:D'≤DP') (hdp:DP'≤12):Pre w' b s l o' D' DP' sb B v ns :=
 h.fr (Fr.oth hO v) hc ho (h.ownFr hO) (Nat.le_trans h.nsl h1) hle hdp
theorem Pre.nx {w w':World} {b:Nat} {s:ByteArray} {l:List UInt8} {o D DP sb B:Nat} {v:Value} {ns:List ByteArray} (h:Pre w b s l o D DP sb B v ns) (hN:Nx w w'):Pre w' b s l o D DP sb B v ns :=
 h.oth (Oth.nx hN) (Blk.below h.cur hN) (Nat.le_refl _) h.ho h.le h.dp
def Aft (b:Nat) (s:ByteArray) (o Dc D DP sb B:Nat) (v:Value) (ns:List ByteArray) (w w':World) (P:Nat×Ty×Nat):Prop :=
 ∃ (o' dp':Int) (v':Value),CurK w' b s o' (Dc:Int) dp' v' sb∧Fr b v w v' w' ∧
  (P.1=0→o'=((o+P.2.2:Nat):Int)∧dp'=((max DP (D+depthT P.2.1):Nat):Int)∧OwnN w' B v' (ns++nmB P.2.1))
def HeadIs (t:Ty) (K:Int) (N A C:ByteArray):Prop:=K=((headT t).1:Nat)∧Tx N (headT t).2.1∧Tx A (headT t).2.2.1∧Tx C (headT t).2.2.2
def NextR (b:Nat) (s:ByteArray) (o D DP sb B:Nat) (v:Value) (ns:List ByteArray) (w:World) (P:Nat×Ty×Nat) (e:Ending) (w':World):Prop :=
 ∃ (K:Int) (N A C:ByteArray),e = .returned (.tuple #[.agg #[.int .i64 K,.string N,.string A,.string C],.int .i64 (P.1:Nat)])∧(P.1=0→HeadIs P.2.1 K N A C)∧Aft b s o D D DP sb B v ns w w' P
def PartR (b:Nat) (s:ByteArray) (o Dc D DP sb B:Nat) (v:Value) (ns:List ByteArray) (w:World) (P:Nat×Ty×Nat) (e:Ending) (w':World):Prop :=
 ∃ A C:ByteArray,e = .returned (.tuple #[.agg #[.string A,.string C],.int .i64 (P.1:Nat)])∧(P.1=0→Tx A (headT P.2.1).2.2.1∧Tx C (headT P.2.1).2.2.2)∧Aft b s o Dc D DP sb B v ns w w' P
def NextC (r:Nat):Prop:=∀ (w:World) (b:Nat) (s:ByteArray) (l:List UInt8) (o D DP sb B:Nat) (v:Value) (ns:List ByteArray),Pre w b s l o D DP sb B v ns→D+r=12 →
 Calls Tryz.prog 120 #[.pointer (some ⟨b,0,none⟩)] w (NextR b s o D DP sb B v ns w (parT r (l.drop o)))
end Go.Proofs.YtbblfkdmkpkmcaaGreatDoor
