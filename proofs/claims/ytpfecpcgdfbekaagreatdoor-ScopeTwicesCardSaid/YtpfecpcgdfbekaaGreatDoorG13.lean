/- The contracts of the document's parser: its small steps. The contracts of the document's parser: names, types. -/
import Derived.Test.YtpfecpcgdfbekaaGreatDoorG11
import Derived.Test.YtpfecpcgdfbekaaGreatDoorG12
import Derived.Test.YtpfecpcgdfbekaaGreatDoorG09
import Derived.Test.YtpfecpcgdfbekaaGreatDoorG08
import Derived.Test.YtpfecpcgdfbekaaGreatDoorG01
import Derived.StillTailTactics
import Derived.Deep.CutBlock
import Derived.Laws.Rows
import Derived.Laws.ResultCell
set_option linter.unusedVariables false
set_option linter.unusedSimpArgs false
set_option linter.unnecessarySimpa false
namespace Go.Proofs.YtpfecpcgdfbekaaGreatDoor
open Go.RowKit
def atE (ws:List TokV) (s:PSt):Nat:=if s.e=0 then 0 else (ws.getD s.i tok0).p
structure PB (w:World) (b:Nat) (A:Option Addr) (c:Nat) (ws:List TokV) (s:PSt):Prop where
 cur:Blk w 0 b #[.slice A ws.length c,.int .i64 (s.i:Int),.int .i64 (s.e:Int),.int .i64 (atE ws s:Int)] 120
 rd:RdT w A ws
 ab:∀ g,A=some ⟨g,0,none⟩→g<b
 le:ws.length≤c
 fin:Ends ws
 ok:WOk ws
 lt:s.i<ws.length
 el:s.e≤18
section
variable {w w':World} {b c:Nat} {A:Option Addr} {ws:List TokV} {s s':PSt}
theorem PB.oth (h:PB w b A c ws s) (ho:Oth b w w') (hc:Blk w' 0 b #[.slice A ws.length c,.int .i64 (s'.i:Int),.int .i64 (s'.e:Int),.int .i64 (atE ws s':Int)] 120) (hl:s'.i<ws.length) (he:s'.e≤18):PB w' b A c ws s' :=
 ⟨hc,h.rd.oth ho h.ab,h.ab,h.le,h.fin,h.ok,hl,he⟩
theorem PB.nx (h:PB w b A c ws s) (hn:Nx w w'):PB w' b A c ws s:=h.oth (Oth.nx hn) (h.cur.below hn) h.lt h.el
theorem PB.bw (h:PB w b A c ws s):b<w.heap.size:=h.cur.lt
theorem PB.c0 (h:PB w b A c ws s):w.cell? ⟨b,0,none⟩=some (.slice A ws.length c):=h.cur.cell 0
theorem PB.c1 (h:PB w b A c ws s):w.cell? ⟨b,1,none⟩=some (.int .i64 (s.i:Int)):=h.cur.cell 1
theorem PB.c2 (h:PB w b A c ws s):w.cell? ⟨b,2,none⟩=some (.int .i64 (s.e:Int)):=h.cur.cell 2
theorem PB.c3 (h:PB w b A c ws s):w.cell? ⟨b,3,none⟩=some (.int .i64 (atE ws s:Int)):=h.cur.cell 3
theorem PB.f (h:PB w b A c ws s) (i:Nat):w.frozen? ⟨b,i,none⟩=false:=h.cur.free i
theorem PB.tok (h:PB w b A c ws s):∃ g,A=some ⟨g,0,none⟩∧g<w.heap.size∧g<b∧∀ j,j<5→w.cell? ⟨g,s.i * 5+j,none⟩=(tokC (ws.getD s.i tok0))[j]?:=by
 obtain ⟨g,e,hg,hc⟩:=h.rd (by have:=h.lt;omega)
 refine ⟨g,e,hg,h.ab g e,fun j hj=>?_⟩
 rw [hc s.i h.lt j hj]
 simp [List.getD,h.lt]
theorem PB.left (h:PB w b A c ws s):leftP b w=leftN s:=by
 unfold leftP leftN
 rw [h.c1,h.c2]
 simp
theorem PB.eq (h:PB w b A c ws s) (e:s=s'):PB w b A c ws s':=e ▸ h
theorem PB.apart {g:Nat} (h:PB w b A c ws s) (ho:Oth g w w') (hb:b<g):PB w' b A c ws s:=by
 refine ⟨ho.blk h.cur (by omega),fun h0=>?_,h.ab,h.le,h.fin,h.ok,h.lt,h.el⟩
 obtain ⟨g',e,hg,hc⟩:=h.rd h0
 refine ⟨g',e,Nat.lt_of_lt_of_le hg ho.size,fun i hi j hj=>?_⟩
 rw [← hc i hi j hj]
 have hgb:=h.ab g' e
 unfold World.cell?
 simp only
 rw [ho.block g' hg (by omega)]
theorem PB.fr {B:Nat} {v v':Value} (h:PB w b A c ws s) (hf:Fr b v w v' w') (hv:∀ g,v.ownBlock=some g→B≤g) (hb:b<B) (hw:∀ k,k<w.heap.size→v.ownBlock≠some k→w'.heap[k]? = w.heap[k]?):PB w' b A c ws s:=by
 have hv1:∀ g,g≤b→v.ownBlock≠some g:=fun g hg e=>by have:=hv g e;omega
 refine ⟨⟨h.cur.1,(hw b h.cur.lt (hv1 b (Nat.le_refl _))).trans h.cur.2⟩,fun h0=>?_,h.ab,h.le,h.fin,h.ok,h.lt,h.el⟩
 obtain ⟨g,e,hg,hc⟩:=h.rd h0
 refine ⟨g,e,Nat.lt_of_lt_of_le hg hf.size,fun i hi j hj=>?_⟩
 rw [← hc i hi j hj]
 have hgb:=h.ab g e
 unfold World.cell?
 simp only
 rw [hf.block g hg (by omega) (hv1 g (by omega))]
def nowP (ws:List TokV) (s:PSt):TokV:=ws.getD s.i tok0
theorem now_word (h:s.e=0):wordP ws s=nowP ws s:=by unfold wordP nowP;rw [if_neg (by simpa using h)]
theorem now_len (h:PB w b A c ws s):((nowP ws s).t.length:Int)≤2000:=by
 have:=h.fin.txt (nowP ws s) (by unfold nowP;rw [List.getD_eq_getElem?_getD,List.getElem?_eq_getElem h.lt];exact List.getElem_mem h.lt)
 omega
theorem fin_next (h:PB w b A c ws s) (hk:(nowP ws s).k≠6):s.i+1<ws.length:=h.fin.next s.i h.lt hk
end
theorem tokF (tk:Nat) (tt:List UInt8) (tn:Int) (td tp:Nat) (w:World) :
  (Instr.field 124 (.agg #[.int .i64 (tk:Int),.string ⟨tt.toArray⟩,.int .i64 tn,.int .u64 (td:Int),.int .i64 (tp:Int)]) 0).run Tryz.prog w = .ok (.int .i64 (tk:Int)) w ∧
  (Instr.field 124 (.agg #[.int .i64 (tk:Int),.string ⟨tt.toArray⟩,.int .i64 tn,.int .u64 (td:Int),.int .i64 (tp:Int)]) 1).run Tryz.prog w = .ok (.string ⟨tt.toArray⟩) w ∧
  (Instr.field 124 (.agg #[.int .i64 (tk:Int),.string ⟨tt.toArray⟩,.int .i64 tn,.int .u64 (td:Int),.int .i64 (tp:Int)]) 2).run Tryz.prog w = .ok (.int .i64 tn) w ∧
  (Instr.field 124 (.agg #[.int .i64 (tk:Int),.string ⟨tt.toArray⟩,.int .i64 tn,.int .u64 (td:Int),.int .i64 (tp:Int)]) 4).run Tryz.prog w = .ok (.int .i64 (tp:Int)) w:=by
 have hu:=run_underlying (P:=Tryz.prog) Tryz.underlying124 w
 refine ⟨?_,?_,?_,?_⟩ <;>
  (unfold Instr.field;simp [Sem.run_bind,hu,Result.andThen_ok,asAgg];exact run_part_plain _ (by kernel_rfl) rfl)
theorem results_noneD {P:Program} {fn:Func} (h:fn.results=#[]) (tmps:Array Value) (w:World):(results fn tmps).run P w = .ok (.tuple #[]) w:=by
 simp [results,h]
theorem cellsD5 {w:World} {B g:Nat} {T:TypeId} {a0 a1 a2 a3 a4:Value} (h:Blk w B g #[a0,a1,a2,a3,a4] T) :
  w.cell? ⟨g,0,none⟩=some a0∧w.cell? ⟨g,1,none⟩=some a1∧w.cell? ⟨g,2,none⟩=some a2∧w.cell? ⟨g,3,none⟩=some a3∧w.cell? ⟨g,4,none⟩=some a4 ∧
  w.frozen? ⟨g,0,none⟩=false∧w.frozen? ⟨g,1,none⟩=false∧w.frozen? ⟨g,2,none⟩=false∧w.frozen? ⟨g,3,none⟩=false∧w.frozen? ⟨g,4,none⟩=false :=
 ⟨h.cell 0,h.cell 1,h.cell 2,h.cell 3,h.cell 4,h.free 0,h.free 1,h.free 2,h.free 3,h.free 4⟩
section
variable {w:World} {b c:Nat} {A:Option Addr} {ws:List TokV} {s:PSt}
set_option maxRecDepth 100000 in
set_option maxHeartbeats 1600000 in
theorem dnow_any (h0:PB w b A c ws s) (tk:Nat) (tt:List UInt8) (tn:Int) (td tp:Nat) (ht:nowP ws s=⟨tk,tt,tn,td,tp⟩) :
  Calls Tryz.prog 52 #[.pointer (some ⟨b,0,none⟩)] w fun e w'=>e = .returned (.agg #[.int .i64 (tk:Int),.string ⟨tt.toArray⟩,.int .i64 tn,.int .u64 (td:Int),.int .i64 (tp:Int)])∧Nx w w':=by
 have HT:=Lib.hid ht
 clear ht
 obtain ⟨g0,hg0⟩:∃ g,w.heap.size=g:=⟨_,rfl⟩
 have hB0:=Blk.new w #[.int .i64 0,.string ⟨#[]⟩,.int .i64 0,.int .u64 0,.int .i64 0] 124
 rw [hg0] at hB0
 have hN0:Nx w (w.alloc (.cells #[.int .i64 0,.string ⟨#[]⟩,.int .i64 0,.int .u64 0,.int .i64 0] 124)):=nx0 _ _
 have h:=h0.nx hN0
 have HG0:Hid (w.heap.size≤g0):=Nat.le_of_eq hg0
 have HB0:=Lib.hid hB0
 have HN0:=Lib.hid hN0
 have c0:=h.c0
 have c1:=h.c1
 obtain ⟨g,rfl,hgw,hgb,hc⟩:=h.tok
 have hlt:(s.i:Int)<(ws.length:Int):=by have:=h.lt;omega
 have t0:=hc 0 (by decide)
 have t1:=hc 1 (by decide)
 have t2:=hc 2 (by decide)
 have t3:=hc 3 (by decide)
 have t4:=hc 4 (by decide)
 have hT:ws.getD s.i tok0=⟨tk,tt,tn,td,tp⟩:=HT.out
 rw [hT] at t0 t1 t2 t3 t4
 have u0:(w.alloc (.cells #[.int .i64 0,.string ⟨#[]⟩,.int .i64 0,.int .u64 0,.int .i64 0] 124)).cell? ⟨g,s.i * 5,none⟩=some (.int .i64 (tk:Int)):=t0
 have u1:(w.alloc (.cells #[.int .i64 0,.string ⟨#[]⟩,.int .i64 0,.int .u64 0,.int .i64 0] 124)).cell? ⟨g,s.i * 5+1,none⟩=some (.string ⟨tt.toArray⟩):=t1
 have u2:(w.alloc (.cells #[.int .i64 0,.string ⟨#[]⟩,.int .i64 0,.int .u64 0,.int .i64 0] 124)).cell? ⟨g,s.i * 5+2,none⟩=some (.int .i64 tn):=t2
 have u3:(w.alloc (.cells #[.int .i64 0,.string ⟨#[]⟩,.int .i64 0,.int .u64 0,.int .i64 0] 124)).cell? ⟨g,s.i * 5+3,none⟩=some (.int .u64 (td:Int)):=t3
 have u4:(w.alloc (.cells #[.int .i64 0,.string ⟨#[]⟩,.int .i64 0,.int .u64 0,.int .i64 0] 124)).cell? ⟨g,s.i * 5+4,none⟩=some (.int .i64 (tp:Int)):=t4
 have hl3:(s.i:Int)≤2001:=by have:=h.lt;have:=h.fin.few;omega
 clear t0 t1 t2 t3 t4 hT hc h hB0 hN0 h0
 go_enter Tryz.func52,Tryz.ntmps52
 go_wp2_with fail
 generalize hW1:World.alloc _ _=w1 at *
 go_still_tail 10,(by kernel_rfl)
 change wpList _ _ _ _ _ w1.drew
 have HB1:Hid (Blk w1.drew g0 g0 #[.int .i64 0,.string ⟨#[]⟩,.int .i64 0,.int .u64 0,.int .i64 0] 124):=HB0.out
 have HN1:Hid (Nx w w1.drew):=HN0.out.dr 1
 clear HB0 HN0 c0 c1 u0 u1 u2 u3 u4
 generalize w1.drew=w2 at *
 obtain ⟨d0,d1,d2,d3,d4,f0,f1,f2,f3,f4⟩:=cellsD5 HB1.out
 go_wp2_with fail
 refine bodyPost_ret (results_cell_row rfl _ _ g0 _ _ _ _ rfl (HB1.out.put5).2 Tryz.underlying124 rfl (by kernel_rfl)) rfl ?_
 exact ⟨rfl,HN1.out.put5 HG0.out⟩
set_option maxRecDepth 100000 in
set_option maxHeartbeats 1600000 in
theorem dfail_any (h0:PB w b A c ws s) (k:Nat) (hk:k≤18) (hk1:1≤k) :
  Calls Tryz.prog 54 #[.pointer (some ⟨b,0,none⟩),.int .i64 (k:Int)] w fun e w'=>e = .returned (.tuple #[])∧PB w' b A c ws (failP k s)∧Oth b w w':=by
 have H00:=Lib.hid h0
 have c2:=h0.c2
 by_cases he:s.e=0
 ·have b0:((s.e:Int) == 0)=true:=by rw [he];rfl
  have hnp:failP k s=⟨s.i,k⟩:=by unfold failP;rw [if_neg (by simpa using he)]
  have HNP:=Lib.hid hnp
  obtain ⟨⟨tk,tt,tn,td,tp⟩,hT⟩:∃ T,Hid (nowP ws s=T):=⟨_,rfl⟩
  have HA:Hid (atE ws ⟨s.i,k⟩=tp):=by
   unfold Hid atE
   rw [if_neg (by show ¬ k=0;omega)]
   show (nowP ws s).p=tp
   rw [hT.out]
  have F4:∀ w1,(Instr.field 124 (.agg #[.int .i64 (tk:Int),.string ⟨tt.toArray⟩,.int .i64 tn,.int .u64 (td:Int),.int .i64 (tp:Int)]) 4).run Tryz.prog w1 = .ok (.int .i64 (tp:Int)) w1:=fun w1=>(tokF _ _ _ _ _ w1).2.2.2
  clear hnp h0 he
  go_enter Tryz.func54,Tryz.ntmps54
  go_wp2_with fail
  refine (dnow_any H00.out _ _ _ _ _ hT.out).mono ?_;rintro e w1 ⟨rfl,hn1⟩
  have HP1:=Lib.hid (H00.out.nx hn1)
  have HN1:=Lib.hid hn1
  have d2:=HP1.out.c2
  have d3:=HP1.out.c3
  have f2:=HP1.out.f 2
  have f3:=HP1.out.f 3
  clear hn1 c2
  go_wp2_with fail
  go_end0
  refine ⟨rfl,?_,(Oth.nx HN1.out).own.own⟩
  rw [HNP.out]
  refine H00.out.oth (Oth.nx HN1.out).own.own ?_ H00.out.lt hk
  rw [HA.out]
  exact (HP1.out.cur.put 2 _).put 3 _
 ·have b0:((s.e:Int) == 0)=false:=by rw [beq_eq_false_iff_ne];omega
  have hnp:failP k s=s:=by unfold failP;rw [if_pos he]
  have HNP:=Lib.hid hnp
  clear hnp he h0
  go_enter Tryz.func54,Tryz.ntmps54
  go_wp2_with fail
  go_end0
  refine ⟨rfl,?_,Oth.refl _ _⟩
  rw [HNP.out]
  exact H00.out
set_option maxRecDepth 100000 in
set_option maxHeartbeats 1600000 in
theorem dnext_any (h0:PB w b A c ws s) (he:s.e=0) (hk:(nowP ws s).k≠6) :
  Calls Tryz.prog 72 #[.pointer (some ⟨b,0,none⟩)] w fun e w'=>e = .returned (.tuple #[])∧PB w' b A c ws (nextP s)∧Oth b w w':=by
 have H00:=Lib.hid h0
 have HNX:=Lib.hid (fin_next h0 hk)
 have c1:=h0.c1
 have f1:=h0.f 1
 have hl:(s.i:Int)≤2001:=by have:=h0.lt;have:=h0.fin.few;omega
 have hnp:nextP s=⟨s.i+1,0⟩:=by unfold nextP;rw [if_neg (by simpa using he),he]
 have HNP:=Lib.hid hnp
 have HA:Hid (atE ws s=atE ws ⟨s.i+1,0⟩):=by unfold Hid atE;rw [if_pos he,if_pos rfl]
 have HE:=Lib.hid he
 clear h0 hk hnp he
 go_enter Tryz.func72,Tryz.ntmps72
 go_wp2_with fail
 go_end0
 refine ⟨rfl,?_,Oth.set _ _ _ _⟩
 rw [HNP.out]
 refine H00.out.oth (Oth.set _ _ _ _) ?_ HNX.out (by show (0:Nat)≤18;omega)
 have h:=H00.out.cur.put 1 (.int .i64 ((s.i+1:Nat):Int))
 rw [HA.out] at h
 rw [HE.out] at h
 exact h
set_option maxRecDepth 100000 in
set_option maxHeartbeats 1600000 in
theorem dis_any (h0:PB w b A c ws s) (u:ByteArray) (x:UInt8) (hu:Tx u [x]) (hx:ltB x=false) (B:Bool) (hB:isP ws [x] s=B) :
  Calls Tryz.prog 97 #[.pointer (some ⟨b,0,none⟩),.string u] w fun e w'=>e = .returned (.bool B)∧Nx w w':=by
 have H:=Lib.hid h0
 have c2:=h0.c2
 have hsg:=is_sign h0.ok x hx s
 rw [hB] at hsg
 have HSG:=Lib.hid hsg
 have HU:=Lib.hid hu
 clear hsg hB hu h0
 by_cases he:s.e=0
 ·have b0:((s.e:Int) == 0)=true:=by rw [he];rfl
  obtain ⟨⟨tk,tt,tn,td,tp⟩,hT⟩:∃ T,Hid (nowP ws s=T):=⟨_,rfl⟩
  have HB:Hid (B=(decide (tk=5) && decide (tt=[x]))):=by have:=HSG.out;rw [now_word he,hT.out] at this;exact this
  have F0:∀ w1,(Instr.field 124 (.agg #[.int .i64 (tk:Int),.string ⟨tt.toArray⟩,.int .i64 tn,.int .u64 (td:Int),.int .i64 (tp:Int)]) 0).run Tryz.prog w1 = .ok (.int .i64 (tk:Int)) w1:=fun w1=>(tokF _ _ _ _ _ w1).1
  have F1:∀ w1,(Instr.field 124 (.agg #[.int .i64 (tk:Int),.string ⟨tt.toArray⟩,.int .i64 tn,.int .u64 (td:Int),.int .i64 (tp:Int)]) 1).run Tryz.prog w1 = .ok (.string ⟨tt.toArray⟩) w1:=fun w1=>(tokF _ _ _ _ _ w1).2.1
  clear he HSG
  by_cases h5:tk=5
  ·subst h5
   have F0:∀ w1,(Instr.field 124 (.agg #[.int .i64 5,.string ⟨tt.toArray⟩,.int .i64 tn,.int .u64 (td:Int),.int .i64 (tp:Int)]) 0).run Tryz.prog w1 = .ok (.int .i64 5) w1:=fun w1=>(tokF 5 _ _ _ _ w1).1
   have F1:∀ w1,(Instr.field 124 (.agg #[.int .i64 5,.string ⟨tt.toArray⟩,.int .i64 tn,.int .u64 (td:Int),.int .i64 (tp:Int)]) 1).run Tryz.prog w1 = .ok (.string ⟨tt.toArray⟩) w1:=fun w1=>(tokF 5 _ _ _ _ w1).2.1
   have heq:(tt == u.toList)=B:=by
    rw [HU.out.toL,HB.out,Bool.eq_iff_iff];simp
   clear HB
   go_enter Tryz.func97,Tryz.ntmps97
   go_wp2_with fail
   refine (dnow_any H.out _ _ _ _ _ hT.out).mono ?_;rintro e w1 ⟨rfl,hn1⟩
   have HN1:=Lib.hid hn1
   clear hn1 c2
   go_wp2_with fail
   refine (dnow_any (H.out.nx HN1.out) _ _ _ _ _ hT.out).mono ?_;rintro e w2 ⟨rfl,hn2⟩
   go_wp2_with fail
   go_ret
   exact ⟨rfl,HN1.out.trans hn2⟩
  ·have b5:((tk:Int) == 5)=false:=by rw [beq_eq_false_iff_ne];omega
   have b5':¬ (tk:Int)=5:=by omega
   obtain rfl:B=false:=by rw [HB.out,decide_eq_false h5];rfl
   clear HB h5
   go_enter Tryz.func97,Tryz.ntmps97
   go_wp2_with fail
   refine (dnow_any H.out _ _ _ _ _ hT.out).mono ?_;rintro e w1 ⟨rfl,hn1⟩
   have HN1:=Lib.hid hn1
   clear hn1 c2
   go_wp2_with fail
   go_ret
   exact ⟨rfl,HN1.out⟩
 ·have b0:((s.e:Int) == 0)=false:=by rw [beq_eq_false_iff_ne];omega
  obtain rfl:B=false:=by have:=HSG.out;rw [er_word he] at this;exact this
  clear he HSG
  go_enter Tryz.func97,Tryz.ntmps97
  go_wp2_with fail
  go_ret
  exact ⟨rfl,Nx.refl _⟩
set_option maxRecDepth 100000 in
set_option maxHeartbeats 1600000 in
theorem dword_any (h0:PB w b A c ws s) (u:ByteArray) (x:UInt8) (r:List UInt8) (hu:Tx u (x :: r)) (hx:ltB x=true) (B:Bool) (hB:isP ws (x :: r) s=B) :
  Calls Tryz.prog 70 #[.pointer (some ⟨b,0,none⟩),.string u] w fun e w'=>e = .returned (.bool B)∧Nx w w':=by
 have H:=Lib.hid h0
 have c2:=h0.c2
 have hsg:=is_word h0.ok x r hx s
 rw [hB] at hsg
 have HSG:=Lib.hid hsg
 have HU:=Lib.hid hu
 clear hsg hB hu h0
 by_cases he:s.e=0
 ·have b0:((s.e:Int) == 0)=true:=by rw [he];rfl
  obtain ⟨⟨tk,tt,tn,td,tp⟩,hT⟩:∃ T,Hid (nowP ws s=T):=⟨_,rfl⟩
  have HB:Hid (B=(decide (tk=1) && decide (tt=x :: r))):=by have:=HSG.out;rw [now_word he,hT.out] at this;exact this
  have F0:∀ w1,(Instr.field 124 (.agg #[.int .i64 (tk:Int),.string ⟨tt.toArray⟩,.int .i64 tn,.int .u64 (td:Int),.int .i64 (tp:Int)]) 0).run Tryz.prog w1 = .ok (.int .i64 (tk:Int)) w1:=fun w1=>(tokF _ _ _ _ _ w1).1
  have F1:∀ w1,(Instr.field 124 (.agg #[.int .i64 (tk:Int),.string ⟨tt.toArray⟩,.int .i64 tn,.int .u64 (td:Int),.int .i64 (tp:Int)]) 1).run Tryz.prog w1 = .ok (.string ⟨tt.toArray⟩) w1:=fun w1=>(tokF _ _ _ _ _ w1).2.1
  clear he HSG
  by_cases h5:tk=1
  ·subst h5
   have F0:∀ w1,(Instr.field 124 (.agg #[.int .i64 1,.string ⟨tt.toArray⟩,.int .i64 tn,.int .u64 (td:Int),.int .i64 (tp:Int)]) 0).run Tryz.prog w1 = .ok (.int .i64 1) w1:=fun w1=>(tokF 1 _ _ _ _ w1).1
   have F1:∀ w1,(Instr.field 124 (.agg #[.int .i64 1,.string ⟨tt.toArray⟩,.int .i64 tn,.int .u64 (td:Int),.int .i64 (tp:Int)]) 1).run Tryz.prog w1 = .ok (.string ⟨tt.toArray⟩) w1:=fun w1=>(tokF 1 _ _ _ _ w1).2.1
   have heq:(tt == u.toList)=B:=by
    rw [HU.out.toL,HB.out,Bool.eq_iff_iff];simp
   clear HB
   go_enter Tryz.func70,Tryz.ntmps70
   go_wp2_with fail
   refine (dnow_any H.out _ _ _ _ _ hT.out).mono ?_;rintro e w1 ⟨rfl,hn1⟩
   have HN1:=Lib.hid hn1
   clear hn1 c2
   go_wp2_with fail
   refine (dnow_any (H.out.nx HN1.out) _ _ _ _ _ hT.out).mono ?_;rintro e w2 ⟨rfl,hn2⟩
   go_wp2_with fail
   go_ret
   exact ⟨rfl,HN1.out.trans hn2⟩
  ·have b5:((tk:Int) == 1)=false:=by rw [beq_eq_false_iff_ne];omega
   have b5':¬ (tk:Int)=1:=by omega
   obtain rfl:B=false:=by rw [HB.out,decide_eq_false h5];rfl
   clear HB h5
   go_enter Tryz.func70,Tryz.ntmps70
   go_wp2_with fail
   refine (dnow_any H.out _ _ _ _ _ hT.out).mono ?_;rintro e w1 ⟨rfl,hn1⟩
   have HN1:=Lib.hid hn1
   clear hn1 c2
   go_wp2_with fail
   go_ret
   exact ⟨rfl,HN1.out⟩
 ·have b0:((s.e:Int) == 0)=false:=by rw [beq_eq_false_iff_ne];omega
  obtain rfl:B=false:=by have:=HSG.out;rw [er_word he] at this;exact this
  clear he HSG
  go_enter Tryz.func70,Tryz.ntmps70
  go_wp2_with fail
  go_ret
  exact ⟨rfl,Nx.refl _⟩
theorem is_next {l:List UInt8} (hl:isP ws l s=true):s.e=0∧(nowP ws s).k≠6:=by
 have he:=is_e ws hl
 refine ⟨he,fun h6=>?_⟩
 unfold isP at hl
 rw [now_word he,h6] at hl
 simp at hl
set_option maxRecDepth 100000 in
set_option maxHeartbeats 1600000 in
theorem dskip_any (h0:PB w b A c ws s) (u:ByteArray) (x:UInt8) (hu:Tx u [x]) (hx:ltB x=false) (B:Bool) (hB:isP ws [x] s=B) :
  Calls Tryz.prog 73 #[.pointer (some ⟨b,0,none⟩),.string u] w fun e w'=>e = .returned (.bool B)∧PB w' b A c ws (if B then nextP s else s)∧Oth b w w':=by
 have H:=Lib.hid h0
 have HC:=Lib.hid (dis_any h0 u x hu hx B hB)
 have HX:Hid (B=true→s.e=0∧(nowP ws s).k≠6):=fun e=>is_next (hB.trans e)
 clear h0 hu hx hB
 go_enter Tryz.func73,Tryz.ntmps73
 go_wp2_with fail
 refine HC.out.mono ?_;rintro e w1 ⟨rfl,hn1⟩
 have HN1:=Lib.hid hn1
 clear hn1
 cases B
 ·go_wp2_with fail
  go_ret
  exact ⟨rfl,H.out.nx HN1.out,Oth.nx HN1.out⟩
 ·have HX2:Hid (s.e=0∧(nowP ws s).k≠6):=HX.out rfl
  clear HX
  go_wp2_with fail
  refine (dnext_any (H.out.nx HN1.out) HX2.out.1 HX2.out.2).mono ?_;rintro e w2 ⟨rfl,hp,ho⟩
  go_wp2_with fail
  go_ret
  exact ⟨rfl,hp,(Oth.nx HN1.out).trans ho⟩
set_option maxRecDepth 100000 in
set_option maxHeartbeats 1600000 in
theorem dtook_any (h0:PB w b A c ws s) (u:ByteArray) (x:UInt8) (r:List UInt8) (hu:Tx u (x :: r)) (hx:ltB x=true) (B:Bool) (hB:isP ws (x :: r) s=B) :
  Calls Tryz.prog 71 #[.pointer (some ⟨b,0,none⟩),.string u] w fun e w'=>e = .returned (.bool B)∧PB w' b A c ws (if B then nextP s else s)∧Oth b w w':=by
 have H:=Lib.hid h0
 have HC:=Lib.hid (dword_any h0 u x r hu hx B hB)
 have HX:Hid (B=true→s.e=0∧(nowP ws s).k≠6):=fun e=>is_next (hB.trans e)
 clear h0 hu hx hB
 go_enter Tryz.func71,Tryz.ntmps71
 go_wp2_with fail
 refine HC.out.mono ?_;rintro e w1 ⟨rfl,hn1⟩
 have HN1:=Lib.hid hn1
 clear hn1
 cases B
 ·go_wp2_with fail
  go_ret
  exact ⟨rfl,H.out.nx HN1.out,Oth.nx HN1.out⟩
 ·have HX2:Hid (s.e=0∧(nowP ws s).k≠6):=HX.out rfl
  clear HX
  go_wp2_with fail
  refine (dnext_any (H.out.nx HN1.out) HX2.out.1 HX2.out.2).mono ?_;rintro e w2 ⟨rfl,hp,ho⟩
  go_wp2_with fail
  go_ret
  exact ⟨rfl,hp,(Oth.nx HN1.out).trans ho⟩
set_option maxRecDepth 100000 in
set_option maxHeartbeats 1600000 in
theorem dneed_any (h0:PB w b A c ws s) (u:ByteArray) (x:UInt8) (hu:Tx u [x]) (hx:ltB x=false) (s':PSt) (hs:needP ws [x] s=s') :
  Calls Tryz.prog 77 #[.pointer (some ⟨b,0,none⟩),.string u] w fun e w'=>e = .returned (.tuple #[])∧PB w' b A c ws s'∧Oth b w w':=by
 have H:=Lib.hid h0
 obtain ⟨B,hB⟩:∃ B,isP ws [x] s=B:=⟨_,rfl⟩
 have HC:=Lib.hid (dis_any h0 u x hu hx B hB)
 have HX:Hid (B=true→s.e=0∧(nowP ws s).k≠6):=fun e=>is_next (hB.trans e)
 have HS:Hid ((if B then nextP s else failP 2 s)=s'):=by unfold Hid;rw [← hs];unfold needP;rw [hB]
 clear h0 hu hx hB hs
 go_enter Tryz.func77,Tryz.ntmps77
 go_wp2_with fail
 refine HC.out.mono ?_;rintro e w1 ⟨rfl,hn1⟩
 have HN1:=Lib.hid hn1
 clear hn1
 cases B
 ·go_wp2_with fail
  refine (dfail_any (H.out.nx HN1.out) 2 (by decide) (by decide)).mono ?_;rintro e w2 ⟨rfl,hp,ho⟩
  go_wp2_with fail
  refine bodyPost_ret (results_noneD rfl _ _) rfl ?_
  exact ⟨rfl,HS.out ▸ hp,(Oth.nx HN1.out).trans ho⟩
 ·have HX2:Hid (s.e=0∧(nowP ws s).k≠6):=HX.out rfl
  clear HX
  go_wp2_with fail
  refine (dnext_any (H.out.nx HN1.out) HX2.out.1 HX2.out.2).mono ?_;rintro e w2 ⟨rfl,hp,ho⟩
  go_wp2_with fail
  go_end0
  exact ⟨rfl,HS.out ▸ hp,(Oth.nx HN1.out).trans ho⟩
set_option maxRecDepth 100000 in
set_option maxHeartbeats 1600000 in
theorem dpart_any (h0:PB w b A c ws s) (s':PSt) (hs:sepP ws s=s') :
  Calls Tryz.prog 82 #[.pointer (some ⟨b,0,none⟩)] w fun e w'=>e = .returned (.tuple #[])∧PB w' b A c ws s'∧Oth b w w':=by
 have H:=Lib.hid h0
 obtain ⟨B,hB⟩:∃ B,Hid (isP ws [44] s=B):=⟨_,rfl⟩
 obtain ⟨C,hC⟩:∃ C,Hid (isP ws [59] s=C):=⟨_,rfl⟩
 have HS:Hid ((if B then nextP s else if C then nextP s else s)=s'):=by unfold Hid;rw [← hs];unfold sepP takeP;rw [hB.out,hC.out]
 clear h0 hs
 go_enter Tryz.func82,Tryz.ntmps82
 go_wp2_with fail
 refine (dskip_any H.out _ 44 (Tx.of [44]) (by decide) B hB.out).mono ?_;rintro e w1 ⟨rfl,hp1,ho1⟩
 have HP1:=Lib.hid hp1
 have HO1:=Lib.hid ho1
 clear hp1 ho1
 cases B
 ·go_wp2_with fail
  refine (dskip_any HP1.out _ 59 (Tx.of [59]) (by decide) C hC.out).mono ?_;rintro e w2 ⟨rfl,hp,ho⟩
  go_wp2_with fail
  go_end0
  exact ⟨rfl,HS.out ▸ hp,HO1.out.trans ho⟩
 ·go_wp2_with fail
  go_end0
  exact ⟨rfl,HS.out ▸ HP1.out,HO1.out⟩
end
end Go.Proofs.YtpfecpcgdfbekaaGreatDoor
namespace Go.Proofs.YtpfecpcgdfbekaaGreatDoor
open Go.RowKit
section
variable {ws:List TokV} {s:PSt}
theorem plainN_no (h:atPlainP ws s=false):plainN ws s=([],failP 2 s):=by
 unfold plainN;rw [h];simp only [Bool.false_eq_true,if_false]
 rw [er_word (fail2_e s),er_next (fail2_e s)];rfl
theorem plainN_yes (h:atPlainP ws s=true):plainN ws s=((wordP ws s).t,nextP s):=by
 unfold plainN;rw [h];rfl
theorem qualN_no (h:atQualP ws s=false):qualN ws s=([],failP 2 s):=by
 unfold qualN;rw [h];simp only [Bool.false_eq_true,if_false]
 rw [er_word (fail2_e s),er_next (fail2_e s)];rfl
theorem qualN_yes (h:atQualP ws s=true):qualN ws s=((wordP ws s).t,nextP s):=by
 unfold qualN;rw [h];rfl
end
section
variable {w:World} {b c:Nat} {A:Option Addr} {ws:List TokV} {s:PSt}
set_option maxRecDepth 100000 in
set_option maxHeartbeats 1600000 in
theorem dplain_any (h0:PB w b A c ws s) (l:List UInt8) (s':PSt) (hr:plainN ws s=(l,s')) :
  Calls Tryz.prog 76 #[.pointer (some ⟨b,0,none⟩)] w fun e w'=>e = .returned (.string ⟨l.toArray⟩)∧PB w' b A c ws s'∧Oth b w w':=by
 have H:=Lib.hid h0
 obtain ⟨⟨tk,tt,tn,td,tp⟩,hT⟩:∃ T,Hid (nowP ws s=T):=⟨_,rfl⟩
 have hlen:=now_len h0
 rw [hT.out] at hlen
 have HL:Hid ((tt.length:Int)≤8000):=by have:(tt.length:Int)≤2000:=hlen;unfold Hid;omega
 have HR:=Lib.hid hr
 clear h0 hlen hr
 go_enter Tryz.func76,Tryz.ntmps76
 go_wp2_with fail
 refine (dnow_any H.out _ _ _ _ _ hT.out).mono ?_;rintro e w1 ⟨rfl,hn1⟩
 obtain ⟨g,hg⟩:∃ g,w1.heap.size=g:=⟨_,rfl⟩
 have hB:=Blk.new w1 #[.int .i64 (tk:Int),.string ⟨tt.toArray⟩,.int .i64 tn,.int .u64 (td:Int),.int .i64 (tp:Int)] 124
 rw [hg] at hB
 have HB:=Lib.hid hB
 have HGB:Hid (g≠b):=by have:=(H.out.nx hn1).bw;unfold Hid;omega
 have HN1:Hid (Nx w (w1.alloc (.cells #[.int .i64 (tk:Int),.string ⟨tt.toArray⟩,.int .i64 tn,.int .u64 (td:Int),.int .i64 (tp:Int)] 124))):=hn1.trans (nx0 _ _)
 clear hB hn1
 go_upto_region 2 with (fail)
 generalize World.alloc w1 _=w2 at *
 have HP2:=Lib.hid (H.out.nx HN1.out)
 have c0:w2.cell? ⟨g,0,none⟩=some (.int .i64 (tk:Int)):=HB.out.cell 0
 have c1:w2.cell? ⟨g,1,none⟩=some (.string ⟨tt.toArray⟩):=HB.out.cell 1
 have c2:=HP2.out.c2
 clear hg
 by_cases he:s.e=0
 ·have b0:((s.e:Int) != 0)=false:=by rw [he];rfl
  have hw:=now_word (ws:=ws) he
  rw [hT.out] at hw
  have HE:=Lib.hid he
  have HAT:Hid (atPlainP ws s=(decide (tk=1) && plainP tt)):=by unfold Hid atPlainP atNameP;rw [hw]
  have HWT:Hid ((wordP ws s).t=tt):=by unfold Hid;rw [hw]
  clear hw he
  by_cases h1:tk=1
  ·subst h1
   have hK:Hid ((nowP ws s).k≠6):=by unfold Hid;rw [hT.out];show (1:Nat)≠6;decide
   obtain ⟨Q,hQ⟩:∃ Q,Hid (plainP tt=Q):=⟨_,rfl⟩
   have HC:=fun w=>Lib.hid (rplain_any w _ tt (Tx.of tt) Q hQ.out HL.out)
   cases Q
   ·have hno:atPlainP ws s=false:=by rw [HAT.out,hQ.out];rfl
    have hx:=HR.out
    rw [plainN_no hno] at hx
    simp only [Prod.mk.injEq] at hx
    obtain ⟨rfl,rfl⟩:=hx
    clear hno HR
    go_wp2_with fail
    refine (HC _).out.mono ?_;rintro e w3 ⟨rfl,hn3⟩
    have HN3:=Lib.hid hn3
    clear hn3
    go_wp2_with fail
    refine (dfail_any (HP2.out.nx HN3.out) 2 (by decide) (by decide)).mono ?_;rintro e w4 ⟨rfl,hp,ho⟩
    go_wp2_with fail
    go_ret
    exact ⟨rfl,hp,(Oth.nx (HN1.out.trans HN3.out)).trans ho⟩
   ·have hno:atPlainP ws s=true:=by rw [HAT.out,hQ.out];rfl
    have hx:=HR.out
    rw [plainN_yes hno,HWT.out] at hx
    simp only [Prod.mk.injEq] at hx
    obtain ⟨rfl,rfl⟩:=hx
    clear hno HR
    go_wp2_with fail
    refine (HC _).out.mono ?_;rintro e w3 ⟨rfl,hn3⟩
    have HN3:=Lib.hid hn3
    have HB3:=Lib.hid (HB.out.below hn3)
    have hgb:g≠b:=HGB.out
    clear hn3
    go_wp2_with fail
    refine (dnext_any (HP2.out.nx HN3.out) HE.out hK.out).mono ?_;rintro e w4 ⟨rfl,hp,ho⟩
    have c1:w4.cell? ⟨g,1,none⟩=some (.string ⟨tt.toArray⟩):=(ho.blk HB3.out hgb).cell 1
    go_wp2_with fail
    go_ret
    exact ⟨rfl,hp,(Oth.nx (HN1.out.trans HN3.out)).trans ho⟩
  ·have b1:((tk:Int) != 1)=true:=by rw [bne_iff_ne];omega
   have b1':¬ (tk:Int)=1:=by omega
   have hno:atPlainP ws s=false:=by rw [HAT.out,decide_eq_false h1];rfl
   have hx:=HR.out
   rw [plainN_no hno] at hx
   simp only [Prod.mk.injEq] at hx
   obtain ⟨rfl,rfl⟩:=hx
   clear hno HR h1
   go_wp2_with fail
   refine (dfail_any HP2.out 2 (by decide) (by decide)).mono ?_;rintro e w4 ⟨rfl,hp,ho⟩
   go_wp2_with fail
   go_ret
   exact ⟨rfl,hp,(Oth.nx HN1.out).trans ho⟩
 ·have b0:((s.e:Int) != 0)=true:=by rw [bne_iff_ne];omega
  have hx:=HR.out
  rw [er_plain he] at hx
  simp only [Prod.mk.injEq] at hx
  obtain ⟨rfl,rfl⟩:=hx
  have HE:=Lib.hid (er_fail (k:=2) he)
  clear HR he
  go_wp2_with fail
  refine (dfail_any HP2.out 2 (by decide) (by decide)).mono ?_;rintro e w4 ⟨rfl,hp,ho⟩
  go_wp2_with fail
  go_ret
  exact ⟨rfl,hp.eq HE.out,(Oth.nx HN1.out).trans ho⟩
set_option maxRecDepth 100000 in
set_option maxHeartbeats 1600000 in
theorem dfar_any (h0:PB w b A c ws s) (l:List UInt8) (s':PSt) (hr:qualN ws s=(l,s')) :
  Calls Tryz.prog 74 #[.pointer (some ⟨b,0,none⟩)] w fun e w'=>e = .returned (.string ⟨l.toArray⟩)∧PB w' b A c ws s'∧Oth b w w':=by
 have H:=Lib.hid h0
 obtain ⟨⟨tk,tt,tn,td,tp⟩,hT⟩:∃ T,Hid (nowP ws s=T):=⟨_,rfl⟩
 have hlen:=now_len h0
 rw [hT.out] at hlen
 have HL:Hid ((tt.length:Int)≤8000):=by have:(tt.length:Int)≤2000:=hlen;unfold Hid;omega
 have HR:=Lib.hid hr
 clear h0 hlen hr
 go_enter Tryz.func74,Tryz.ntmps74
 go_wp2_with fail
 refine (dnow_any H.out _ _ _ _ _ hT.out).mono ?_;rintro e w1 ⟨rfl,hn1⟩
 obtain ⟨g,hg⟩:∃ g,w1.heap.size=g:=⟨_,rfl⟩
 have hB:=Blk.new w1 #[.int .i64 (tk:Int),.string ⟨tt.toArray⟩,.int .i64 tn,.int .u64 (td:Int),.int .i64 (tp:Int)] 124
 rw [hg] at hB
 have HB:=Lib.hid hB
 have HGB:Hid (g≠b):=by have:=(H.out.nx hn1).bw;unfold Hid;omega
 have HN1:Hid (Nx w (w1.alloc (.cells #[.int .i64 (tk:Int),.string ⟨tt.toArray⟩,.int .i64 tn,.int .u64 (td:Int),.int .i64 (tp:Int)] 124))):=hn1.trans (nx0 _ _)
 clear hB hn1
 go_upto_region 2 with (fail)
 generalize World.alloc w1 _=w2 at *
 have HP2:=Lib.hid (H.out.nx HN1.out)
 have c0:w2.cell? ⟨g,0,none⟩=some (.int .i64 (tk:Int)):=HB.out.cell 0
 have c1:w2.cell? ⟨g,1,none⟩=some (.string ⟨tt.toArray⟩):=HB.out.cell 1
 have c2:=HP2.out.c2
 clear hg
 by_cases he:s.e=0
 ·have b0:((s.e:Int) != 0)=false:=by rw [he];rfl
  have hw:=now_word (ws:=ws) he
  rw [hT.out] at hw
  have HE:=Lib.hid he
  have HAT:Hid (atQualP ws s=(decide (tk=1) && qualP tt)):=by unfold Hid atQualP atNameP;rw [hw]
  have HWT:Hid ((wordP ws s).t=tt):=by unfold Hid;rw [hw]
  clear hw he
  by_cases h1:tk=1
  ·subst h1
   have hK:Hid ((nowP ws s).k≠6):=by unfold Hid;rw [hT.out];show (1:Nat)≠6;decide
   obtain ⟨Q,hQ⟩:∃ Q,Hid (qualP tt=Q):=⟨_,rfl⟩
   have HC:=fun w=>Lib.hid (rFar_any w _ tt (Tx.of tt) Q hQ.out HL.out)
   cases Q
   ·have hno:atQualP ws s=false:=by rw [HAT.out,hQ.out];rfl
    have hx:=HR.out
    rw [qualN_no hno] at hx
    simp only [Prod.mk.injEq] at hx
    obtain ⟨rfl,rfl⟩:=hx
    clear hno HR
    go_wp2_with fail
    refine (HC _).out.mono ?_;rintro e w3 ⟨rfl,hn3⟩
    have HN3:=Lib.hid hn3
    clear hn3
    go_wp2_with fail
    refine (dfail_any (HP2.out.nx HN3.out) 2 (by decide) (by decide)).mono ?_;rintro e w4 ⟨rfl,hp,ho⟩
    go_wp2_with fail
    go_ret
    exact ⟨rfl,hp,(Oth.nx (HN1.out.trans HN3.out)).trans ho⟩
   ·have hno:atQualP ws s=true:=by rw [HAT.out,hQ.out];rfl
    have hx:=HR.out
    rw [qualN_yes hno,HWT.out] at hx
    simp only [Prod.mk.injEq] at hx
    obtain ⟨rfl,rfl⟩:=hx
    clear hno HR
    go_wp2_with fail
    refine (HC _).out.mono ?_;rintro e w3 ⟨rfl,hn3⟩
    have HN3:=Lib.hid hn3
    have HB3:=Lib.hid (HB.out.below hn3)
    have hgb:g≠b:=HGB.out
    clear hn3
    go_wp2_with fail
    refine (dnext_any (HP2.out.nx HN3.out) HE.out hK.out).mono ?_;rintro e w4 ⟨rfl,hp,ho⟩
    have c1:w4.cell? ⟨g,1,none⟩=some (.string ⟨tt.toArray⟩):=(ho.blk HB3.out hgb).cell 1
    go_wp2_with fail
    go_ret
    exact ⟨rfl,hp,(Oth.nx (HN1.out.trans HN3.out)).trans ho⟩
  ·have b1:((tk:Int) != 1)=true:=by rw [bne_iff_ne];omega
   have b1':¬ (tk:Int)=1:=by omega
   have hno:atQualP ws s=false:=by rw [HAT.out,decide_eq_false h1];rfl
   have hx:=HR.out
   rw [qualN_no hno] at hx
   simp only [Prod.mk.injEq] at hx
   obtain ⟨rfl,rfl⟩:=hx
   clear hno HR h1
   go_wp2_with fail
   refine (dfail_any HP2.out 2 (by decide) (by decide)).mono ?_;rintro e w4 ⟨rfl,hp,ho⟩
   go_wp2_with fail
   go_ret
   exact ⟨rfl,hp,(Oth.nx HN1.out).trans ho⟩
 ·have b0:((s.e:Int) != 0)=true:=by rw [bne_iff_ne];omega
  have hx:=HR.out
  rw [er_qual he] at hx
  simp only [Prod.mk.injEq] at hx
  obtain ⟨rfl,rfl⟩:=hx
  have HE:=Lib.hid (er_fail (k:=2) he)
  clear HR he
  go_wp2_with fail
  refine (dfail_any HP2.out 2 (by decide) (by decide)).mono ?_;rintro e w4 ⟨rfl,hp,ho⟩
  go_wp2_with fail
  go_ret
  exact ⟨rfl,hp.eq HE.out,(Oth.nx HN1.out).trans ho⟩
set_option maxRecDepth 100000 in
set_option maxHeartbeats 1600000 in
theorem dtyped_any (h0:PB w b A c ws s) (he:s.e=0) (B:Bool) (hB:atTypeP ws s=B) :
  Calls Tryz.prog 102 #[.pointer (some ⟨b,0,none⟩)] w fun e w'=>e = .returned (.bool B)∧Nx w w':=by
 have H:=Lib.hid h0
 obtain ⟨⟨tk,tt,tn,td,tp⟩,hT⟩:∃ T,Hid (nowP ws s=T):=⟨_,rfl⟩
 have hlen:=now_len h0
 rw [hT.out] at hlen
 have HL:Hid ((tt.length:Int)≤8000):=by have:(tt.length:Int)≤2000:=hlen;unfold Hid;omega
 have hw:=now_word (ws:=ws) he
 rw [hT.out] at hw
 obtain ⟨K,hK⟩:∃ K,Hid (kindW tt=K):=⟨_,rfl⟩
 obtain ⟨Y,hY⟩:∃ Y,Hid (decide (tt=kByte)=Y):=⟨_,rfl⟩
 obtain ⟨Q,hQ⟩:∃ Q,Hid (qualP tt=Q):=⟨_,rfl⟩
 have HB:Hid ((decide (tk=1) && ((decide (K≠0) || Y) || Q))=B):=by
  unfold Hid
  rw [← hB]
  unfold atTypeP atNameP
  rw [hw]
  dsimp only
  have:oftP tt=(decide (K≠0) || Y):=by
   have h:=kindW_oft tt
   rw [hK.out] at h
   rw [← hY.out]
   by_cases hb:tt=kByte
   ·rw [decide_eq_true hb,Bool.or_true,hb];decide
   ·rw [decide_eq_false hb,Bool.or_false]
    rw [decide_eq_true (show tt≠kByte from hb),Bool.and_true] at h
    unfold oftP
    rw [← h]
    by_cases hk:K=0
    ·subst hk;rfl
    ·simp [hk]
  rw [this,hQ.out]
 have HC:=fun w=>Lib.hid (rFar_any w _ tt (Tx.of tt) Q hQ.out HL.out)
 have HF:=fun w=>Lib.hid (refBase_any _ tt w (Tx.of tt))
 rw [hK.out] at HF
 have heq:(tt == kByte)=Y:=by rw [← hY.out,Bool.eq_iff_iff];simp
 have heq2:((K:Int) != 0)=decide (K≠0):=by rw [Bool.eq_iff_iff];simp
 have HQ2:=Lib.hid heq2
 unfold kByte at heq
 clear h0 hlen hB he hw heq2
 go_enter Tryz.func102,Tryz.ntmps102
 go_wp2_with fail
 refine (dnow_any H.out _ _ _ _ _ hT.out).mono ?_;rintro e w1 ⟨rfl,hn1⟩
 obtain ⟨g,hg⟩:∃ g,w1.heap.size=g:=⟨_,rfl⟩
 have hBk:=Blk.new w1 #[.int .i64 (tk:Int),.string ⟨tt.toArray⟩,.int .i64 tn,.int .u64 (td:Int),.int .i64 (tp:Int)] 124
 rw [hg] at hBk
 have HBk:=Lib.hid hBk
 have HN1:Hid (Nx w (w1.alloc (.cells #[.int .i64 (tk:Int),.string ⟨tt.toArray⟩,.int .i64 tn,.int .u64 (td:Int),.int .i64 (tp:Int)] 124))):=hn1.trans (nx0 _ _)
 clear hBk hn1
 go_upto_region 2 with (fail)
 generalize World.alloc w1 _=w2 at *
 have c0:w2.cell? ⟨g,0,none⟩=some (.int .i64 (tk:Int)):=HBk.out.cell 0
 have c1:w2.cell? ⟨g,1,none⟩=some (.string ⟨tt.toArray⟩):=HBk.out.cell 1
 clear hg
 by_cases h1:tk=1
 ·subst h1
  by_cases hk:K=0
  ·subst hk
   cases Y
   ·obtain rfl:Q=B:=HB.out
    go_wp2_with fail
    refine (HF _).out.mono ?_;rintro e w3 ⟨rfl,rfl⟩
    go_wp2_with fail
    refine (HC _).out.mono ?_;rintro e w3 ⟨rfl,hn3⟩
    go_wp2_with fail
    go_ret
    exact ⟨rfl,HN1.out.trans hn3⟩
   ·obtain rfl:true=B:=HB.out
    go_wp2_with fail
    refine (HF _).out.mono ?_;rintro e w3 ⟨rfl,rfl⟩
    go_wp2_with fail
    go_ret
    exact ⟨rfl,HN1.out⟩
  ·have b2:((K:Int) != 0)=true:=by rw [bne_iff_ne];omega
   have b2':¬ K=0:=hk
   obtain rfl:true=B:=by rw [← HB.out,decide_eq_true hk];rfl
   go_wp2_with fail
   refine (HF _).out.mono ?_;rintro e w3 ⟨rfl,rfl⟩
   go_wp2_with fail
   go_ret
   exact ⟨rfl,HN1.out⟩
 ·have b1:((tk:Int) == 1)=false:=by rw [beq_eq_false_iff_ne];omega
  have b1':¬ (tk:Int)=1:=by omega
  obtain rfl:false=B:=by rw [← HB.out,decide_eq_false h1];rfl
  clear h1
  go_wp2_with fail
  go_ret
  exact ⟨rfl,HN1.out⟩
end
end Go.Proofs.YtpfecpcgdfbekaaGreatDoor
