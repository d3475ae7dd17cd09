/- The contracts of the cursor's small steps. Plain and qualified names: as kind's reading of them, as strings.Split cuts them. Plain lemmas. The contracts of Reserved, Plain, qualified names, definitions' words. -/
import Derived.Test.YtpbjkgpdkopgmaaGreatDoorG18
import Derived.StillTailTactics
import Derived.Deep.CutBlock
import Derived.ChangeKeysEq
import Derived.Laws.Rows
import Derived.Laws.ResultCell
import Derived.Test.YtpbjkgpdkopgmaaGreatDoorG16
import Derived.Lib.Split
import Derived.Lib.IndexBytes
import Derived.Lib.IndexLaws
import Derived.Test.YtpbjkgpdkopgmaaGreatDoorShelf
import Derived.Deep.Light
set_option linter.unusedVariables false
set_option linter.unusedSimpArgs false
set_option linter.unnecessarySimpa false
namespace Go.Proofs.YtpbjkgpdkopgmaaGreatDoor
open Go.RowKit
theorem tok_field (a0 a1 a2 a3 a4:Value) (w:World) :
  (Instr.field 92 (.agg #[a0,a1,a2,a3,a4]) 0).run Tryz.prog w = .ok a0 w∧(Instr.field 92 (.agg #[a0,a1,a2,a3,a4]) 1).run Tryz.prog w = .ok a1 w ∧
  (Instr.field 92 (.agg #[a0,a1,a2,a3,a4]) 2).run Tryz.prog w = .ok a2 w∧(Instr.field 92 (.agg #[a0,a1,a2,a3,a4]) 3).run Tryz.prog w = .ok a3 w ∧
  (Instr.field 92 (.agg #[a0,a1,a2,a3,a4]) 4).run Tryz.prog w = .ok a4 w:=by
 have hu:=run_underlying (P:=Tryz.prog) Tryz.underlying92 w
 refine ⟨?_,?_,?_,?_,?_⟩ <;>
  (unfold Instr.field;simp [Sem.run_bind,hu,Result.andThen_ok,asAgg];exact run_part_plain _ (by kernel_rfl) rfl)
theorem cellsP5 {w:World} {B g:Nat} {T:TypeId} {a0 a1 a2 a3 a4:Value} (h:Blk w B g #[a0,a1,a2,a3,a4] T) :
  w.cell? ⟨g,0,none⟩=some a0∧w.cell? ⟨g,1,none⟩=some a1∧w.cell? ⟨g,2,none⟩=some a2∧w.cell? ⟨g,3,none⟩=some a3∧w.cell? ⟨g,4,none⟩=some a4 ∧
  w.frozen? ⟨g,0,none⟩=false∧w.frozen? ⟨g,1,none⟩=false∧w.frozen? ⟨g,2,none⟩=false∧w.frozen? ⟨g,3,none⟩=false∧w.frozen? ⟨g,4,none⟩=false :=
 ⟨h.cell 0,h.cell 1,h.cell 2,h.cell 3,h.cell 4,h.free 0,h.free 1,h.free 2,h.free 3,h.free 4⟩
theorem Blk.otherP {w:World} {B g k:Nat} {cs:Array Value} {T:TypeId} {v0 v1 v2 v3 v4:Value} (h:Blk w B g cs T) (hk:k≠g) :
  Blk (((((w.setCell ⟨k,0,none⟩ v0).setCell ⟨k,1,none⟩ v1).setCell ⟨k,2,none⟩ v2).setCell ⟨k,3,none⟩ v3).setCell ⟨k,4,none⟩ v4) B g cs T :=
 ((((h.other hk 0 v0).other hk 1 v1).other hk 2 v2).other hk 3 v3).other hk 4 v4
section
variable {w:World} {b c:Nat} {A:Option Addr} {ws:List TokV} {s:PSt}
set_option maxRecDepth 100000 in
set_option maxHeartbeats 1600000 in
theorem word_any' (h0:PC w b A c ws s) (tk:Nat) (tt:List UInt8) (tn:Int) (td tp:Nat) (ht:wordP ws s=⟨tk,tt,tn,td,tp⟩) :
  Calls Tryz.prog 59 #[.pointer (some ⟨b,0,none⟩)] w fun e w'=>e = .returned (.agg #[.int .i64 (tk:Int),.string ⟨tt.toArray⟩,.int .i64 tn,.int .u64 (td:Int),.int .i64 (tp:Int)])∧Nx w w':=by
 have HT:=Lib.hid ht
 clear ht
 obtain ⟨g0,hg0⟩:∃ g,w.heap.size=g:=⟨_,rfl⟩
 have hB0:=Blk.new w #[.int .i64 0,.string ⟨#[]⟩,.int .i64 0,.int .u64 0,.int .i64 0] 92
 rw [hg0] at hB0
 have hN0:Nx w (w.alloc (.cells #[.int .i64 0,.string ⟨#[]⟩,.int .i64 0,.int .u64 0,.int .i64 0] 92)):=nx0 _ _
 have h:=h0.nx hN0
 have HG0:Hid (w.heap.size≤g0):=Nat.le_of_eq hg0
 have HB0:=Lib.hid hB0
 have HN0:=Lib.hid hN0
 have c0:=h.c0
 have c1:=h.c1
 have c2:=h.c2
 by_cases he:s.e=0
 ·have b0:((s.e:Int) != 0)=false:=by rw [he];rfl
  have HW:Hid (wordP ws s=ws.getD s.i tok0):=by unfold Hid wordP;rw [if_neg (by simpa using he)]
  obtain ⟨g,rfl,hgw,hgb,hc⟩:=h.tok
  have hlt:(s.i:Int)<(ws.length:Int):=by have:=h.lt;omega
  have t0:=hc 0 (by decide)
  have t1:=hc 1 (by decide)
  have t2:=hc 2 (by decide)
  have t3:=hc 3 (by decide)
  have t4:=hc 4 (by decide)
  have hT:ws.getD s.i tok0=⟨tk,tt,tn,td,tp⟩:=by rw [← HW.out,HT.out]
  rw [hT] at t0 t1 t2 t3 t4
  have u0:(w.alloc (.cells #[.int .i64 0,.string ⟨#[]⟩,.int .i64 0,.int .u64 0,.int .i64 0] 92)).cell? ⟨g,s.i * 5,none⟩=some (.int .i64 (tk:Int)):=t0
  have u1:(w.alloc (.cells #[.int .i64 0,.string ⟨#[]⟩,.int .i64 0,.int .u64 0,.int .i64 0] 92)).cell? ⟨g,s.i * 5+1,none⟩=some (.string ⟨tt.toArray⟩):=t1
  have u2:(w.alloc (.cells #[.int .i64 0,.string ⟨#[]⟩,.int .i64 0,.int .u64 0,.int .i64 0] 92)).cell? ⟨g,s.i * 5+2,none⟩=some (.int .i64 tn):=t2
  have u3:(w.alloc (.cells #[.int .i64 0,.string ⟨#[]⟩,.int .i64 0,.int .u64 0,.int .i64 0] 92)).cell? ⟨g,s.i * 5+3,none⟩=some (.int .u64 (td:Int)):=t3
  have u4:(w.alloc (.cells #[.int .i64 0,.string ⟨#[]⟩,.int .i64 0,.int .u64 0,.int .i64 0] 92)).cell? ⟨g,s.i * 5+4,none⟩=some (.int .i64 (tp:Int)):=t4
  have hl3:(s.i:Int)≤2001:=by have:=h.lt;have:=h.fin.few;omega
  clear t0 t1 t2 t3 t4 hT hc h hB0 hN0 h0 he
  go_enter Tryz.func59,Tryz.ntmps59
  go_wp2_with fail
  generalize hW1:World.alloc _ _=w1 at *
  go_still_tail 10,(by kernel_rfl)
  change wpList _ _ _ _ _ w1.drew
  have HB1:Hid (Blk w1.drew g0 g0 #[.int .i64 0,.string ⟨#[]⟩,.int .i64 0,.int .u64 0,.int .i64 0] 92):=HB0.out
  have HN1:Hid (Nx w w1.drew):=HN0.out.dr 1
  clear HB0 HN0 c0 c1 c2 u0 u1 u2 u3 u4
  generalize w1.drew=w2 at *
  obtain ⟨d0,d1,d2,d3,d4,f0,f1,f2,f3,f4⟩:=cellsP5 HB1.out
  go_wp2_with fail
  refine bodyPost_ret (results_cell_row rfl _ _ g0 _ _ _ _ rfl (HB1.out.put5).2 Tryz.underlying92 rfl (by kernel_rfl)) rfl ?_
  exact ⟨rfl,HN1.out.put5 HG0.out⟩
 ·have b0:((s.e:Int) != 0)=true:=by rw [bne_iff_ne];omega
  have hW:wordP ws s=tok0:=by unfold wordP;rw [if_pos he]
  rw [HT.out] at hW
  unfold tok0 at hW
  simp only [TokV.mk.injEq] at hW
  obtain ⟨rfl,rfl,rfl,rfl,rfl⟩:=hW
  clear h hB0 hN0 h0 he
  go_enter Tryz.func59,Tryz.ntmps59
  go_wp2_with fail
  refine bodyPost_ret (results_cell_row rfl _ _ g0 _ _ _ _ rfl HB0.out.2 Tryz.underlying92 rfl (by kernel_rfl)) rfl ?_
  exact ⟨rfl,HN0.out⟩
set_option maxRecDepth 100000 in
set_option maxHeartbeats 1600000 in
theorem next_any (h0:PC w b A c ws s) (hk:s.e=0→(ws.getD s.i tok0).k≠6) (tk:Nat) (tt:List UInt8) (tn:Int) (td tp:Nat) (ht:wordP ws s=⟨tk,tt,tn,td,tp⟩) :
  Calls Tryz.prog 90 #[.pointer (some ⟨b,0,none⟩)] w fun e w'=>e = .returned (.agg #[.int .i64 (tk:Int),.string ⟨tt.toArray⟩,.int .i64 tn,.int .u64 (td:Int),.int .i64 (tp:Int)])∧PC w' b A c ws (nextP s)∧Oth b w w':=by
 have HT:=Lib.hid ht
 obtain ⟨g0,hg0⟩:∃ g,w.heap.size=g:=⟨_,rfl⟩
 have hB0:=Blk.new w #[.int .i64 0,.string ⟨#[]⟩,.int .i64 0,.int .u64 0,.int .i64 0] 92
 rw [hg0] at hB0
 have hN0:Nx w (w.alloc (.cells #[.int .i64 0,.string ⟨#[]⟩,.int .i64 0,.int .u64 0,.int .i64 0] 92)):=nx0 _ _
 have hbg:b≠g0:=by have:=h0.bw;omega
 have HG0:Hid (w.heap.size≤g0):=Nat.le_of_eq hg0
 have HB0:=Lib.hid hB0
 have HN0:=Lib.hid hN0
 have H:=Lib.hid (h0.nx hN0)
 have hlt:=h0.lt
 have hfew:=h0.fin.few
 have hnx:=h0.fin.next s.i hlt
 have HNX:=Lib.hid hnx
 have HK:=Lib.hid hk
 have hiI:(s.i:Int)≤2001:=by omega
 have H00:=Lib.hid h0
 clear h0 hN0 hB0 hk ht hnx
 go_enter Tryz.func90,Tryz.ntmps90
 go_wp2_with fail
 refine (word_any' H.out _ _ _ _ _ HT.out).mono ?_;rintro e w1 ⟨rfl,hn1⟩
 obtain ⟨g1,hg1⟩:∃ g,w1.heap.size=g:=⟨_,rfl⟩
 have hB1:=Blk.new w1 #[.int .i64 (tk:Int),.string ⟨tt.toArray⟩,.int .i64 tn,.int .u64 (td:Int),.int .i64 (tp:Int)] 92
 rw [hg1] at hB1
 have hn1':=hn1.trans (nx0 w1 (.cells #[.int .i64 (tk:Int),.string ⟨tt.toArray⟩,.int .i64 tn,.int .u64 (td:Int),.int .i64 (tp:Int)] 92))
 have HB1:=Lib.hid hB1
 have HN1:=Lib.hid hn1'
 have hbg1:b≠g1:=by have:=(H.out.nx hn1).bw;omega
 have hg01:g0≠g1:=by have:=(HB0.out.below hn1).lt;omega
 clear hB1 hn1' hn1
 go_upto_region 2 with (fail)
 generalize World.alloc _ _=w2 at *
 have P1:=H.out.nx HN1.out
 have c1:=P1.c1
 have c2:=P1.c2
 have f1:=P1.f 1
 have hB0:=HB0.out.below HN1.out
 obtain ⟨d0,d1,d2,d3,d4,e0,e1,e2,e3,e4⟩:=cellsP5 hB0
 obtain ⟨t0,t1,t2,t3,t4,-⟩:=cellsP5 HB1.out
 have HP1:=Lib.hid P1
 have HBg:=Lib.hid hB0
 have HN2:=Lib.hid (HN0.out.trans HN1.out)
 have HBG:=Lib.hid hbg
 clear P1 hB0
 by_cases he:s.e=0
 ·have b0:((s.e:Int) == 0)=true:=by rw [he];rfl
  have hnp:nextP s=⟨s.i+1,s.e⟩:=by unfold nextP;rw [if_neg (by simpa using he)]
  have HNP:=Lib.hid hnp
  have HHE:=Lib.hid he
  clear hnp he
  go_wp2_with fail
  refine bodyPost_ret (results_cell_row rfl _ _ g0 _ _ _ _ rfl ((HBg.out.other hbg _ _).put5).2 Tryz.underlying92 rfl (by kernel_rfl)) rfl ?_
  refine ⟨rfl,?_,?_⟩
  ·rw [HNP.out]
   exact H00.out.oth (((Oth.nx HN2.out).own).put5 HG0.out) ((HP1.out.cur.put 1 _).otherP (fun e=>hbg e.symm)) (HNX.out (HK.out HHE.out)) H00.out.el
  ·exact ((Oth.nx HN2.out).own).put5 HG0.out
 ·have b0:((s.e:Int) == 0)=false:=by rw [beq_eq_false_iff_ne];omega
  have hnp:nextP s=s:=by unfold nextP;rw [if_pos he]
  have HNP:=Lib.hid hnp
  have HHE:=Lib.hid he
  clear hnp he
  go_wp2_with fail
  refine bodyPost_ret (results_cell_row rfl _ _ g0 _ _ _ _ rfl (HBg.out.put5).2 Tryz.underlying92 rfl (by kernel_rfl)) rfl ?_
  refine ⟨rfl,?_,?_⟩
  ·rw [HNP.out]
   exact H00.out.nx (HN2.out.put5 HG0.out)
  ·exact Oth.nx (HN2.out.put5 HG0.out)
set_option maxRecDepth 100000 in
set_option maxHeartbeats 1600000 in
theorem fail_any (h0:PC w b A c ws s) (k:Nat) (hk:k≤18) (hk1:1≤k) :
  Calls Tryz.prog 60 #[.pointer (some ⟨b,0,none⟩),.int .i64 (k:Int)] w fun e w'=>e = .returned (.tuple #[])∧PC w' b A c ws (failP k s)∧Oth b w w':=by
 have H00:=Lib.hid h0
 have c2:=h0.c2
 have f2:=h0.f 2
 by_cases he:s.e=0
 ·have b0:((s.e:Int) == 0)=true:=by rw [he];rfl
  have hnp:failP k s=⟨s.i,k⟩:=by unfold failP;rw [if_neg (by simpa using he)]
  have HNP:=Lib.hid hnp
  clear hnp he h0
  go_enter Tryz.func60,Tryz.ntmps60
  go_wp2_with fail
  go_end0
  refine ⟨rfl,?_,Oth.set _ _ _ _⟩
  rw [HNP.out]
  exact H00.out.oth (Oth.set _ _ _ _) (H00.out.cur.put 2 _) H00.out.lt hk
 ·have b0:((s.e:Int) == 0)=false:=by rw [beq_eq_false_iff_ne];omega
  have hnp:failP k s=s:=by unfold failP;rw [if_pos he]
  have HNP:=Lib.hid hnp
  clear hnp he h0
  go_enter Tryz.func60,Tryz.ntmps60
  go_wp2_with fail
  go_end0
  refine ⟨rfl,?_,Oth.refl _ _⟩
  rw [HNP.out]
  exact H00.out
set_option maxRecDepth 100000 in
set_option maxHeartbeats 1600000 in
theorem is_any (h0:PC w b A c ws s) (u:ByteArray) (l:List UInt8) (hu:Tx u l) (B:Bool) (hB:isP ws l s=B) :
  Calls Tryz.prog 51 #[.pointer (some ⟨b,0,none⟩),.string u] w fun e w'=>e = .returned (.bool B)∧Nx w w':=by
 have H:=Lib.hid h0
 obtain ⟨⟨tk,tt,tn,td,tp⟩,hT⟩:∃ T,Hid (wordP ws s=T):=⟨_,rfl⟩
 have HB:Hid (((decide (tk=1) || decide (tk=5)) && decide (tt=l))=B):=by unfold isP at hB;rw [hT.out] at hB;exact hB
 have heq:(tt == u.toList)=decide (tt=l):=by
  rw [hu.toL]
  rw [Bool.eq_iff_iff];simp
 obtain ⟨E,hE⟩:∃ E,Hid (decide (tt=l)=E):=⟨_,rfl⟩
 rw [hE.out] at heq HB
 have HEQ:=Lib.hid heq
 clear h0 hu hB
 go_enter Tryz.func51,Tryz.ntmps51
 go_wp2_with fail
 refine (word_any' H.out _ _ _ _ _ hT.out).mono ?_;rintro e w1 ⟨rfl,hn1⟩
 have HN1:=Lib.hid hn1
 clear hn1
 have hN2:=Lib.hid ((HN1.out).trans (nx0 w1 (.cells #[.int .i64 (tk:Int),.string ⟨tt.toArray⟩,.int .i64 tn,.int .u64 (td:Int),.int .i64 (tp:Int)] 92)))
 by_cases h1:tk=1
 ·subst h1
  obtain rfl:E=B:=HB.out
  have heq:=HEQ.out
  clear HB
  go_wp2_with fail
  go_ret
  exact ⟨rfl,hN2.out⟩
 ·by_cases h5:tk=5
  ·subst h5
   obtain rfl:E=B:=HB.out
   have heq:=HEQ.out
   clear HB
   go_wp2_with fail
   go_ret
   exact ⟨rfl,hN2.out⟩
  ·have b1:((tk:Int) == 1)=false:=by rw [beq_eq_false_iff_ne];omega
   have b5:((tk:Int) == 5)=false:=by rw [beq_eq_false_iff_ne];omega
   obtain rfl:false=B:=by rw [← HB.out,decide_eq_false h1,decide_eq_false h5];rfl
   clear HB h1 h5
   go_wp2_with fail
   go_ret
   exact ⟨rfl,hN2.out⟩
set_option maxRecDepth 100000 in
set_option maxHeartbeats 1600000 in
theorem take_any' (h0:PC w b A c ws s) (u:ByteArray) (l:List UInt8) (hu:Tx u l) (B:Bool) (hB:isP ws l s=B) :
  Calls Tryz.prog 93 #[.pointer (some ⟨b,0,none⟩),.string u] w fun e w'=>e = .returned (.bool B)∧PC w' b A c ws (if B then nextP s else s)∧Oth b w w':=by
 have H:=Lib.hid h0
 have HU:=Lib.hid hu
 have HB:=Lib.hid hB
 have hk:B=true→s.e=0→(ws.getD s.i tok0).k≠6:=by
  intro hb he
  unfold isP at hB
  have hw:wordP ws s=ws.getD s.i tok0:=by unfold wordP;rw [if_neg (by simpa using he)]
  rw [hw,hb] at hB
  intro h6
  rw [h6] at hB
  simp at hB
 have HK:=Lib.hid hk
 clear h0 hu hB hk
 go_enter Tryz.func93,Tryz.ntmps93
 go_wp2_with fail
 refine (is_any H.out u l HU.out B HB.out).mono ?_;rintro e w1 ⟨rfl,hn1⟩
 have HN1:=Lib.hid hn1
 clear hn1
 cases B
 ·go_wp2_with fail
  go_ret
  exact ⟨rfl,H.out.nx HN1.out,Oth.nx HN1.out⟩
 ·have HK2:Hid (s.e=0→(ws.getD s.i tok0).k≠6):=HK.out rfl
  clear HK
  go_wp2_with fail
  refine (next_any (H.out.nx HN1.out) HK2.out _ _ _ _ _ rfl).mono ?_;rintro e w2 ⟨rfl,hp,ho⟩
  go_wp2_with fail
  go_ret
  exact ⟨rfl,hp,(Oth.nx HN1.out).trans ho⟩
set_option maxRecDepth 100000 in
set_option maxHeartbeats 1600000 in
theorem need_any (h0:PC w b A c ws s) (u:ByteArray) (l:List UInt8) (hu:Tx u l) (s':PSt) (hs:needP ws l s=s') :
  Calls Tryz.prog 98 #[.pointer (some ⟨b,0,none⟩),.string u] w fun e w'=>e = .returned (.tuple #[])∧PC w' b A c ws s'∧Oth b w w':=by
 have H:=Lib.hid h0
 have HU:=Lib.hid hu
 obtain ⟨B,hB⟩:∃ B,Hid (isP ws l s=B):=⟨_,rfl⟩
 have HS:Hid ((if B then nextP s else failP 2 s)=s'):=by unfold Hid;rw [← hs];unfold needP;rw [hB.out]
 clear h0 hu hs
 go_enter Tryz.func98,Tryz.ntmps98
 go_wp2_with fail
 refine (take_any' H.out u l HU.out B hB.out).mono ?_;rintro e w1 ⟨rfl,hp1,ho1⟩
 have HP1:=Lib.hid hp1
 have HO1:=Lib.hid ho1
 clear hp1 ho1
 cases B
 ·go_wp2_with fail
  refine (fail_any HP1.out 2 (by decide) (by decide)).mono ?_;rintro e w2 ⟨rfl,hp,ho⟩
  go_wp2_with fail
  go_end0
  exact ⟨rfl,HS.out ▸ hp,HO1.out.trans ho⟩
 ·go_wp2_with fail
  go_end0
  exact ⟨rfl,HS.out ▸ HP1.out,HO1.out⟩
set_option maxRecDepth 100000 in
set_option maxHeartbeats 1600000 in
theorem atName_any (h0:PC w b A c ws s) (B:Bool) (hB:atNameP ws s=B) :
  Calls Tryz.prog 94 #[.pointer (some ⟨b,0,none⟩)] w fun e w'=>e = .returned (.bool B)∧Nx w w':=by
 have H:=Lib.hid h0
 obtain ⟨⟨tk,tt,tn,td,tp⟩,hT⟩:∃ T,Hid (wordP ws s=T):=⟨_,rfl⟩
 have HB:Hid (decide (tk=1)=B):=by unfold atNameP at hB;rw [hT.out] at hB;exact hB
 have heq:((tk:Int) == 1)=decide (tk=1):=by rw [Bool.eq_iff_iff];simp;omega
 rw [HB.out] at heq
 clear h0 hB
 have F0:∀ w1,(Instr.field 92 (.agg #[.int .i64 (tk:Int),.string ⟨tt.toArray⟩,.int .i64 tn,.int .u64 (td:Int),.int .i64 (tp:Int)]) 0).run Tryz.prog w1 = .ok (.int .i64 (tk:Int)) w1:=fun w1=>(tok_field _ _ _ _ _ w1).1
 go_enter Tryz.func94,Tryz.ntmps94
 go_wp2_with fail
 refine (word_any' H.out _ _ _ _ _ hT.out).mono ?_;rintro e w1 ⟨rfl,hn1⟩
 go_wp2_with fail
 go_ret
 exact ⟨rfl,hn1⟩
end
end Go.Proofs.YtpbjkgpdkopgmaaGreatDoor
namespace Go.Proofs.YtpbjkgpdkopgmaaGreatDoor
theorem splitP_none:∀ (l:List UInt8),Lib.indexByte l 46 = -1→splitP l=[l]
 | [],_=>rfl
 | c :: r,h=>by
  unfold Lib.indexByte at h
  split at h
  ·cases h
  ·rename_i h1
   split at h
   ·rename_i h2
    have h3:¬ c=46:=by simpa using h1
    unfold splitP
    rw [if_neg h3,splitP_none r (by simpa using h2)]
   ·have:=Lib.indexByte_ge r 46
    rename_i h2
    simp at h2
    omega
theorem splitP_some:∀ (l:List UInt8) (i:Nat),Lib.indexByte l 46=i→splitP l=l.take i :: splitP (l.drop (i+1))
 | [],i,h=>by simp [Lib.indexByte] at h
 | c :: r,i,h=>by
  unfold Lib.indexByte at h
  split at h
  ·rename_i h1
   have h3:c=46:=by simpa using h1
   have:i=0:=by omega
   subst this
   conv=>lhs;unfold splitP
   rw [if_pos h3];simp
  ·rename_i h1
   have h3:¬ c=46:=by simpa using h1
   split at h
   ·omega
   ·rename_i h2
    have hge:=Lib.indexByte_ge r 46
    have hne:Lib.indexByte r 46≠-1:=by simpa using h2
    obtain ⟨j,rfl⟩:∃ j,i=j+1:=⟨i - 1,by omega⟩
    have ih:=splitP_some r j (by push_cast at h;omega)
    conv=>lhs;unfold splitP
    rw [if_neg h3,ih]
    simp
theorem splitK_dot:∀ (n:Nat) (l:List UInt8),l.length≤n→Lib.splitK [46] 0 (Lib.count l [46]) l=splitP l:=by
 intro n
 induction n with
 | zero =>
  intro l hl
  have:l=[]:=List.eq_nil_of_length_eq_zero (by omega)
  subst this
  rfl
 | succ n ih =>
  intro l hl
  by_cases h:Lib.index l [46] = -1
  ·rw [Lib.count_miss h,splitP_none l (by rw [← Lib.index_one];exact h)]
   rfl
  ·have hge:=Lib.index_ge l [46]
   obtain ⟨i,hi⟩:∃ i:Nat,Lib.index l [46]=i:=⟨(Lib.index l [46]).toNat,by omega⟩
   have hle:=Lib.index_room l [46] (by omega)
   rw [Lib.count_hit (by simp) hi,splitP_some l i (by rw [← Lib.index_one];exact hi),Nat.add_comm 1]
   unfold Lib.splitK
   rw [if_neg (by simpa using h),hi]
   simp at hle
   simp only [Int.toNat_natCast,Nat.add_zero,List.length_cons,List.length_nil,Nat.zero_add]
   rw [ih _ (by simp;omega)]
theorem contains_dot (l:List UInt8):decide (0≤Lib.indexByte l 46)=l.contains 46:=by
 have hge:=Lib.indexByte_ge l 46
 rw [Bool.eq_iff_iff]
 simp only [decide_eq_true_eq,List.contains_iff_mem]
 constructor
 ·intro h
  obtain ⟨i,hi⟩:∃ i:Nat,Lib.indexByte l 46=i:=⟨(Lib.indexByte l 46).toNat,by omega⟩
  exact List.mem_of_getElem? (Lib.indexByte_some hi).1
 ·intro h
  obtain ⟨k,hk⟩:=List.getElem?_of_mem h
  by_cases h1:Lib.indexByte l 46<0
  ·exact absurd hk (Lib.indexByte_none (by omega) k)
  ·omega
theorem oft_kind (l:List UInt8) (h:oftP l=false):kindW l=0:=by
 unfold oftP oftB at h
 simp at h
 unfold kindW
 simp [h]
def plain3 (l:List UInt8):Bool:=match l with
 | []=>false
 | c :: r=>nmLet c && (c :: r).all isNmS
theorem far_false:∀ (r:List UInt8),¬ (46:UInt8) ∈ r→farF false r=true
 | [],_=>rfl
 | c :: r,h=>by
  unfold farF
  have h1:¬ c=46:=fun e=>h (by rw [e];simp)
  rw [decide_eq_false h1]
  exact far_false r fun hm=>h (by simp [hm])
theorem nm_let (c:UInt8) (h:isNmS c=true) (h1:isDig c=false) (h2:¬ c=46):nmLet c=true:=by
 unfold isNmS at h
 unfold nmLet
 have h3:¬ c.toNat=46:=fun e=>h2 (UInt8.toNat_inj.1 e)
 rw [h1,decide_eq_false h3] at h
 simpa using h
theorem let_dig (c:UInt8) (h:nmLet c=true):isDig c=false∧¬ c=46:=by
 unfold nmLet isLetS at h
 unfold isDig
 simp at h ⊢
 refine ⟨by omega,fun e=>?_⟩
 subst e
 revert h
 decide
theorem head_plain (l:List UInt8) (hd:l.contains 46=false) (hk:oftP l=false):decide ((headW l).2.1≠[])=plain3 l:=by
 have hd':¬ (46:UInt8) ∈ l:=by simpa using hd
 have hk':=oft_kind l hk
 rw [Bool.eq_iff_iff]
 constructor
 ·intro h
  have h:(headW l).2.1≠[]:=by simpa using h
  unfold headW at h
  split at h
  ·exact absurd rfl h
  ·rename_i h1
   have hs:=wholeT_show l (by simpa using h1)
   cases ht:(wholeT l).2 with
   | nm s =>
    rw [ht] at hs h
    obtain ⟨⟨h2,h3⟩,-,h4⟩:=hs
    rw [show showT (.nm s)=s from rfl] at h4
    subst h4
    unfold nameOk at h2
    cases l with
    | nil=>exact absurd rfl h
    | cons c r =>
     simp only [Bool.and_eq_true] at h2
     have h5:=h2.1
     unfold farF at h5
     simp only [Bool.and_eq_true,Bool.not_eq_true',decide_eq_true_eq] at h5
     show (nmLet c && (c :: r).all isNmS)=true
     rw [nm_let c (h3 c (by simp)) h5.1.1 h5.1.2]
     simp only [Bool.true_and,List.all_eq_true]
     exact h3
   | bs k=>rw [ht] at h;exact absurd rfl h
   | l1 k a=>rw [ht] at h;exact absurd rfl h
   | mp a b=>rw [ht] at h;exact absurd rfl h
 ·intro h
  cases l with
  | nil=>cases h
  | cons c r =>
   have h:(nmLet c && (c :: r).all isNmS)=true:=h
   simp only [Bool.and_eq_true,List.all_eq_true] at h
   obtain ⟨h1,h2⟩:=let_dig c h.1
   have hp:partN (c :: r)=(c :: r).length:=by
    unfold partN
    refine spanN_is _ _ _ (Nat.le_refl _) (fun d hdm=>?_) (.inl (List.drop_length))
    rw [List.take_length] at hdm
    simp only [decide_eq_true_eq]
    intro e;subst e;exact hd' hdm
   have hw:wfT (.nm (c :: r)):=by
    refine ⟨?_,h.2⟩
    unfold nameOk
    rw [hp,List.take_length,hk']
    unfold farF
    rw [h1,decide_eq_true h2,far_false r (fun hm=>hd' (by simp [hm]))]
    rfl
   have:=wholeT_full (.nm (c :: r)) hw (Nat.zero_le _)
   rw [show showT (.nm (c :: r))=c :: r from rfl] at this
   unfold headW
   rw [this]
   simp [headT]
theorem plainP_eq (l:List UInt8):plainP l=(decide (l.length≤40) && !l.contains 46 && !resP l && plain3 l):=rfl
end Go.Proofs.YtpbjkgpdkopgmaaGreatDoor
namespace Go.Proofs.YtpbjkgpdkopgmaaGreatDoor
open Go.RowKit
set_option maxRecDepth 100000 in
set_option maxHeartbeats 1600000 in
theorem isOfType_any (w:World) (s:ByteArray) (l:List UInt8) (hl:Tx s l) (B:Bool) (hB:oftP l=B) :
  Calls Tryz.prog 40 #[.string s] w fun e w'=>e = .returned (.bool B)∧w'=w:=by
 obtain rfl:=hl.eq
 have HB:=Lib.hid hB
 clear hB hl
 go_enter Tryz.func40,Tryz.ntmps40
 go_wp2_with fail
 all_goals
  go_ret
  go_light
  refine ⟨congrArg (fun b=>Ending.returned (Value.bool b)) ?_,rfl⟩
  have hB:=HB.out
  clear HB
  unfold oftP oftB at hB
  simp_all
set_option maxRecDepth 100000 in
set_option maxHeartbeats 3200000 in
theorem reserved_any (w:World) (s:ByteArray) (l:List UInt8) (hl:Tx s l) (B:Bool) (hB:resP l=B) :
    Calls Tryz.prog 22 #[.string s] w fun e w'=>e = .returned (.bool B)∧w'=w:=by
  obtain ⟨O,hO⟩:∃ O,Hid (oftP l=O):=⟨_,rfl⟩
  have HB:Hid ((resB.contains l || O)=B):=by unfold Hid;rw [← hO.out];exact hB
  have hl':=Lib.hid hl
  obtain rfl:=hl.eq
  clear hB hl
  go_enter Tryz.func22,Tryz.ntmps22
  go_wp2_with fail
  all_goals first
    | ((refine (isOfType_any _ _ l hl'.out O hO.out).mono ?_);rintro e w1 ⟨rfl,rfl⟩
       go_wp2_with fail
       go_ret
       go_light
       refine ⟨congrArg (fun b=>Ending.returned (Value.bool b)) ?_,rfl⟩
       have hB:=HB.out
       clear HB hO hl'
       unfold resB at hB
       simp_all)
    | (go_ret
       go_light
       refine ⟨congrArg (fun b=>Ending.returned (Value.bool b)) ?_,rfl⟩
       have hB:=HB.out
       clear HB hO hl'
       unfold resB at hB
       simp_all)
theorem defK_le (l:List UInt8):defK l≤7:=by
  unfold defK;repeat' split
  all_goals omega
set_option maxRecDepth 100000 in
set_option maxHeartbeats 3200000 in
theorem definition_any (w:World) (s:ByteArray) (l:List UInt8) (hl:Tx s l) (K:Nat) (hK:defK l=K) :
  Calls Tryz.prog 95 #[.string s] w fun e w'=>e = .returned (.int .i64 (K:Int))∧w'=w:=by
 have HK:=Lib.hid hK
 obtain rfl:=hl.eq
 clear hK hl
 go_enter Tryz.func95,Tryz.ntmps95
 go_wp2_with fail
 all_goals
  go_ret
  go_light
  refine ⟨congrArg (fun k:Int=>Ending.returned (Value.int .i64 k)) ?_,rfl⟩
  have hK:=HK.out
  clear HK
  unfold defK at hK
  simp_all
  try omega
set_option maxRecDepth 100000 in
set_option maxHeartbeats 3200000 in
theorem plain_any' (w:World) (s:ByteArray) (l:List UInt8) (hl:Tx s l) (B:Bool) (hB:plainP l=B) (hs:(l.length:Int)≤8000) (ht:TabK w) (hm:MaxC w) :
  Calls Tryz.prog 23 #[.string s] w fun e w'=>e = .returned (.bool B)∧Nx w w':=by
 have HL:=Lib.hid hl
 have HT:=Lib.hid ht
 have HM:=Lib.hid hm
 obtain rfl:=hl.eq
 rw [plainP_eq] at hB
 have hcd:=contains_dot l
 obtain ⟨C,hC⟩:∃ C,l.contains 46=C:=⟨_,rfl⟩
 obtain ⟨R,hR⟩:∃ R,resP l=R:=⟨_,rfl⟩
 rw [hC,hR] at hB
 rw [hC] at hcd
 have hcc:∀ w,Calls Tryz.prog 41 #[.string ⟨l.toArray⟩,.string ⟨#[46]⟩] w fun e w'=>e = .returned (.bool C)∧w'=w:=by
  intro w;have:=Tryz.strings_Contains_one ⟨l.toArray⟩ 46 w;rw [show (⟨l.toArray⟩:ByteArray).data.toList=l from rfl,hcd] at this;exact this
 have HC:=Lib.hid hC
 have HR:=Lib.hid hR
 have HB:=Lib.hid hB
 clear hl ht hm hB hcd hC hR
 by_cases h40:40<l.length
 ·have b1:decide ((40:Int)<(l.length:Int))=true:=decide_eq_true (by omega)
  obtain rfl:false=B:=by rw [← HB.out,decide_eq_false (by omega)];rfl
  clear h40
  go_enter Tryz.func23,Tryz.ntmps23
  go_wp2_with fail
  go_ret
  exact ⟨rfl,Nx.refl _⟩
 ·have b1:decide ((40:Int)<(l.length:Int))=false:=decide_eq_false (by omega)
  have HB2:Hid ((!C && !R && plain3 l)=B):=by unfold Hid;rw [← HB.out,decide_eq_true (by omega)];rfl
  clear h40 HB
  cases C
  ·cases R
   ·have hp:=head_plain l HC.out (by have:=HR.out;unfold resP at this;simp at this;exact this.2)
    have HB3:Hid (decide ((headW l).2.1≠[])=B):=by unfold Hid;rw [hp];exact HB2.out
    obtain ⟨⟨hk,hn,ha,hb⟩,hH⟩:∃ H,Hid (headW l=H):=⟨_,rfl⟩
    have HB4:Hid (decide (hn≠[])=B):=by have:=HB3.out;rw [hH.out] at this;exact this
    have hne:(!(bA hn).toList.isEmpty)=decide (hn≠[]):=by rw [show (bA hn).toList=hn from (Tx.of hn).toL];cases hn <;> simp
    have hne2:decide (¬ hn=[])=B:=HB4.out
    rw [HB4.out] at hne
    have HNE:=Lib.hid hne
    have HNE2:=Lib.hid hne2
    have hhd:=head_any w ⟨l.toArray⟩ l HL.out hs HT.out HM.out
    rw [hH.out] at hhd
    have HHD:=Lib.hid hhd
    clear hp hne hhd HB3 HB4 HB2 hne2
    go_enter Tryz.func23,Tryz.ntmps23
    go_wp2_with fail
    refine (hcc _).mono ?_;rintro e w1 ⟨rfl,rfl⟩
    go_wp2_with fail
    refine (reserved_any _ _ l HL.out false HR.out).mono ?_;rintro e w1 ⟨rfl,rfl⟩
    go_wp2_with fail
    refine (HHD.out).mono ?_;rintro e w2 ⟨rfl,hn2⟩
    have hne:=HNE.out
    have hne2:=HNE2.out
    go_wp2_with fail
    go_ret
    exact ⟨rfl,hn2⟩
   ·obtain rfl:false=B:=by rw [← HB2.out];rfl
    go_enter Tryz.func23,Tryz.ntmps23
    go_wp2_with fail
    refine (hcc _).mono ?_;rintro e w1 ⟨rfl,rfl⟩
    go_wp2_with fail
    refine (reserved_any _ _ l HL.out true HR.out).mono ?_;rintro e w1 ⟨rfl,rfl⟩
    go_wp2_with fail
    go_ret
    exact ⟨rfl,Nx.refl _⟩
  ·obtain rfl:false=B:=by rw [← HB2.out];rfl
   go_enter Tryz.func23,Tryz.ntmps23
   go_wp2_with fail
   refine (hcc _).mono ?_;rintro e w1 ⟨rfl,rfl⟩
   go_wp2_with fail
   go_ret
   exact ⟨rfl,Nx.refl _⟩
theorem split_any (w:World) (s:ByteArray) (l:List UInt8) (hl:Tx s l) (hs:(l.length:Int)≤8000) (hm:MaxC w) :
  Calls Tryz.prog 193 #[.string s,.string ⟨#[46]⟩] w fun e w'=>∃ g n:Nat,e = .returned (.slice (some ⟨g,0,none⟩) n n)∧Hid (n=(splitP l).length) ∧
   Hid (∀ j (hj:j<(splitP l).length),w'.cell? ⟨g,j,none⟩=some (.string (bA (splitP l)[j])))∧Hid (g<w'.heap.size)∧Nx w w':=by
 obtain ⟨m,hm⟩:=hm
 have hz:=hl.size
 refine (Tryz.strings_Split s ⟨#[46]⟩ m w (by omega) hm (by decide)).mono ?_
 rintro e w' ⟨rfl,rfl⟩
 have hd:(Lib.splitB ⟨#[46]⟩ 0 (Lib.countB s ⟨#[46]⟩) s).map (·.data.toList)=splitP l:=by
  rw [Lib.splitB_data]
  have:=splitK_dot l.length l (Nat.le_refl _)
  rw [← this]
  have e1:s.data.toList=l:=hl
  unfold Lib.countB
  rw [e1]
 have hlen:(Lib.splitB ⟨#[46]⟩ 0 (Lib.countB s ⟨#[46]⟩) s).length=Lib.countB s ⟨#[46]⟩+1:=Lib.splitB_all ⟨#[46]⟩ (by decide) 0 _ s rfl
 generalize Lib.splitB ⟨#[46]⟩ 0 (Lib.countB s ⟨#[46]⟩) s=BL at *
 refine ⟨w.heap.size,_,rfl,?_,?_,?_,nx0 _ _⟩
 ·unfold Hid
  rw [← hd,List.length_map,hlen]
 ·unfold Hid
  intro j hj
  have hj2:j<BL.length:=by rw [← hd,List.length_map] at hj;exact hj
  rw [World.cell?_alloc_at _ _ _ _ rfl]
  have h2:(splitP l)[j]=BL[j].data.toList:=by
   have:(BL.map (·.data.toList))[j]'(by rw [List.length_map];exact hj2)=(splitP l)[j]:=by congr 1
   rw [← this];simp
  rw [h2,← bA_tx (s:=BL[j]) rfl]
  simp [hj2]
 ·unfold Hid
  simp
set_option maxRecDepth 100000 in
set_option maxHeartbeats 3200000 in
theorem qual_any (w:World) (s:ByteArray) (l:List UInt8) (hl:Tx s l) (B:Bool) (hB:qualP l=B) (hs:(l.length:Int)≤8000) (ht:TabK w) (hm:MaxC w) :
  Calls Tryz.prog 143 #[.string s] w fun e w'=>e = .returned (.bool B)∧Nx w w':=by
 have HT:=Lib.hid ht
 have HM:=Lib.hid hm
 have HS:=Lib.hid (split_any w s l hl hs hm)
 have HB:Hid ((decide ((splitP l).length≤3) && (splitP l).all plainP)=B):=hB
 have HLS:Hid (∀ p ∈ splitP l,p.length≤l.length):=by
  unfold Hid
  clear HB HS HM HT hB ht hm hs hl
  induction l with
  | nil=>intro p hp;simp [splitP] at hp;subst hp;simp
  | cons c r ih =>
   intro p hp
   unfold splitP at hp
   split at hp
   ·rcases List.mem_cons.1 hp with rfl | hp
    ·simp
    ·have:=ih p hp;simp;omega
   ·split at hp
    ·simp at hp;subst hp;simp
    ·rename_i a bb hab
     rcases List.mem_cons.1 hp with rfl | hp
     ·have:=ih a (by rw [hab];simp);simp;omega
     ·have:=ih p (by rw [hab];simp [hp]);simp;omega
 clear hl ht hm hB
 go_enter Tryz.func143,Tryz.ntmps143
 go_wp2_with fail
 refine HS.out.mono ?_;rintro e w1 ⟨g,n,rfl,HN,HC,HG,hn1⟩
 have HN1:=Lib.hid hn1
 clear hn1
 by_cases h3:3<n
 ·have b1:decide ((3:Int)<(n:Int))=true:=decide_eq_true (by omega)
  obtain rfl:false=B:=by rw [← HB.out,decide_eq_false (by rw [← HN.out];omega)];rfl
  clear h3
  go_wp2_with fail
  go_ret
  exact ⟨rfl,HN1.out⟩
 ·have b1:decide ((3:Int)<(n:Int))=false:=decide_eq_false (by omega)
  have HB2:Hid ((splitP l).all plainP=B):=by unfold Hid;rw [← HB.out,decide_eq_true (by rw [← HN.out];omega)];rfl
  have hn3:n≤3:=by omega
  clear h3 HB
  go_wp2_with fail
  go_loopw [13] (fun iv wr=>∃ i:Nat,iv = .int .i64 (i:Int)∧i≤n∧Hid (((splitP l).drop i).all plainP=B)∧Nx w1 wr) (fun iv _=>5 - (intOf iv).toNat)
  case atStart=>exact ⟨0,rfl,Nat.zero_le _,by unfold Hid;rw [List.drop_zero];exact HB2.out,Nx.refl _⟩
  case round =>
   obtain ⟨i,rfl,hi,HR,hnx⟩:=hrel
   have HNX:=Lib.hid hnx
   clear hnx
   by_cases hlt:i<n
   ·have hlt2:i<(splitP l).length:=by rw [← HN.out];exact hlt
    have c1:=(HNX.out.cell (p:=⟨g,i,none⟩) HG.out).trans (HC.out i hlt2)
    obtain ⟨p,hp⟩:∃ p,(splitP l)[i]=p:=⟨_,rfl⟩
    rw [hp] at c1
    have hpl:=HLS.out p (by rw [← hp];exact List.getElem_mem hlt2)
    have hps:(p.length:Int)≤8000:=by omega
    have hiI:(i:Int)<(n:Int):=by omega
    obtain ⟨C,hC⟩:∃ C,Hid (plainP p=C):=⟨_,rfl⟩
    have HR2:Hid ((C && ((splitP l).drop (i+1)).all plainP)=B):=by
     unfold Hid
     rw [← HR.out,List.drop_eq_getElem_cons hlt2,List.all_cons,hp,hC.out]
    clear hp hlt2 hpl
    go_wp2_with fail
    refine (plain_any' wr _ p (Tx.of p) C hC.out hps (HT.out.nx (HN1.out.trans HNX.out)) (HM.out.nx (HN1.out.trans HNX.out))).mono ?_;rintro e w2 ⟨rfl,hn2⟩
    have HN2:=Lib.hid hn2
    clear hn2
    cases C
    ·obtain rfl:false=B:=by rw [← HR2.out];rfl
     go_wp2_with fail
     go_ret
     exact ⟨rfl,HN1.out.trans (HNX.out.trans HN2.out)⟩
    ·go_wp2_with fail
     go_roundw
     case rel=>exact ⟨i+1,by go_num,by omega,by unfold Hid;rw [← HR2.out];rfl,HNX.out.trans HN2.out⟩
     case measure=>simp [intOf];omega
   ·have hi':i=n:=by omega
    have hdn:(splitP l).drop i=[]:=by rw [hi',HN.out,List.drop_length]
    obtain rfl:true=B:=by rw [← HR.out,hdn];rfl
    have b2:decide ((i:Int)<(n:Int))=false:=decide_eq_false (by omega)
    clear hdn hi'
    go_wp2_with fail
    go_ret
    exact ⟨rfl,HN1.out.trans HNX.out⟩
end Go.Proofs.YtpbjkgpdkopgmaaGreatDoor
