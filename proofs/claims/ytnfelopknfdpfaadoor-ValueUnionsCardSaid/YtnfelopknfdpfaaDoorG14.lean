/- The contract of order.Copy, for values without parts. The contract of strings.Clone: the same bytes. value.Struct, of a schema of one struct with one field. What value's functions are asked for, they do. The table of words, out of what the rows list; a lift that hands on what lies laid, and the world's shape. ValueRanges, ValueGo: the walks. ValueUnions: the walk. -/
import Derived.Test.YtnfelopknfdpfaaDoorG01
import Derived.Test.YtnfelopknfdpfaaDoorG13
import Derived.Deep.DeepCutAuto
import Derived.Test.YtnfelopknfdpfaaDoorG00
import Derived.Lib.Strings
import Derived.Lib.Walk
import Derived.Lib.BufferWrite
import Derived.Lib.UnsafeStr
import Derived.Lib.Hide
import Derived.Laws.MakeOwn
import Derived.Test.YtnfelopknfdpfaaDoorG04
import Derived.Test.YtnfelopknfdpfaaDoorRows
import Derived.Lib.LaidU8T
import Derived.Lib.LaidTab
import Derived.Stop.LaidErr
import Derived.LaidByTextLater
import Derived.Handed
import Derived.HandedShaped
import Derived.Test.YtnfelopknfdpfaaDoorG03
import Derived.Test.YtnfelopknfdpfaaDoorG06
set_option linter.unusedVariables false
set_option linter.unusedSimpArgs false
set_option linter.unnecessarySimpa false
namespace Go.Proofs.YtnfelopknfdpfaaDoor
open Go.RowKit
theorem elN:ElT Tryd.prog 34 3 8:=by
 obtain ⟨i,h1,h2,h3,h4⟩:=info_parts (show (Tryd.prog.info? 3).map (fun i=>(i.zero,i.size,i.bytes))=some (some (.int .i64 0),1,8) by kernel_rfl)
 exact ⟨Tryd.underlying34,i,_,h1,h2,h3,h4,rfl⟩
def ivN (n:Int):Value:=.int .i64 n
theorem clone0_any (w:World):Calls Tryd.prog 19 #[.string ⟨#[]⟩] w fun e w'=>e = .returned (.string ⟨#[]⟩)∧w'=w:=by
 have h1:Calls Tryd.prog 32 #[.string ⟨#[]⟩] w fun e w'=>e = .returned (.string ⟨#[]⟩)∧w'=w:=by
  go_enter Tryd.func32,Tryd.ntmps32
  go_wp2_with fail
  go_ret
  exact ⟨rfl,rfl⟩
 have H1:=Lib.hid h1
 clear h1
 go_enter Tryd.func19,Tryd.ntmps19
 go_wp2_with fail
 refine H1.out.mono ?_;rintro e w' ⟨rfl,hw⟩;obtain rfl:=hw.symm
 go_wp2_with fail
 go_ret
 exact ⟨rfl,rfl⟩
set_option maxRecDepth 100000 in
set_option maxHeartbeats 12800000 in
theorem Copy_any (n:Nat):CopyC n:=by
 intro w x A hx hA
 cases n with
 | zero=>exact hx.elim
 | succ n =>
 obtain ⟨k,a,s,l,d⟩:=A
 obtain ⟨xk,xn,xs,xl,xd⟩:=x
 obtain ⟨rfl,rfl,rfl⟩:=hA
 obtain ⟨h1,h2,h3,hl,hd⟩:=hx
 dsimp only at h1 h2 h3 hl hd
 subst h1 h2 h3
 obtain ⟨dA,dc,rfl,hd1,hd2,hd3⟩:=hd
 obtain ⟨lA,lc,ys,rfl,hl1,hl2,-⟩:=hl
 rw [valA_agg]
 simp only [List.length_nil] at hd1 hl1 ⊢
 rw [show ([]:List UInt8).toArray=#[] from rfl]
 obtain ⟨g1,hg1⟩:∃ g,w.heap.size=g:=⟨_,rfl⟩
 obtain ⟨w1,hw1⟩:∃ x,w.alloc (.cells #[.int .i64 (xk:Int),.int .i64 xn,.string ⟨#[]⟩,.slice lA 0 lc,.slice dA 0 dc] 41)=x:=⟨_,rfl⟩
 have hb1:Blk w1 g1 g1 #[.int .i64 (xk:Int),.int .i64 xn,.string ⟨#[]⟩,.slice lA 0 lc,.slice dA 0 dc] 41:=by rw [← hw1,← hg1];exact Blk.new w _ _
 have hn1:Nx w w1:=by rw [← hw1];exact nx0 _ _
 obtain ⟨g2,hg2⟩:∃ g,w1.heap.size=g:=⟨_,rfl⟩
 obtain ⟨w2,hw2⟩:∃ x,w1.alloc (.cells #[.int .i64 0,.int .i64 0,.string ⟨#[]⟩,.slice none 0 0,.slice none 0 0] 41)=x:=⟨_,rfl⟩
 have hb2:Blk w2 g2 g2 #[.int .i64 0,.int .i64 0,.string ⟨#[]⟩,.slice none 0 0,.slice none 0 0] 41:=by rw [← hw2,← hg2];exact Blk.new w1 _ _
 have hn2:Nx w1 w2:=by rw [← hw2];exact nx0 _ _
 have HB1:=Lib.hid (hb1.below hn2)
 have HB2:=Lib.hid hb2
 have HN2:=Lib.hid (hn1.trans hn2)
 have HG:Hid (g1≤w2.heap.size∧w.heap.size≤g2∧g1<g2):=by
  unfold Hid
  have h1:=hb1.lt
  have h2:=hn2.size
  refine ⟨by omega,by rw [hg1,← hg2];omega,by omega⟩
 clear hb1 hn1 hb2 hn2
 go_enter Tryd.func20,Tryd.ntmps20
 go_upto_region 1 with (fail)
 clear hw1 hg1 hw2 hg2
 have La0:∀ x:Gr w2,x.1.cell? ⟨g1,0,none⟩=some (.int .i64 (xk:Int)):=fun x=>(HB1.out.below x.2).cell 0
 have La1:∀ x:Gr w2,x.1.cell? ⟨g1,1,none⟩=some (.int .i64 xn):=fun x=>(HB1.out.below x.2).cell 1
 have La2:∀ x:Gr w2,x.1.cell? ⟨g1,2,none⟩=some (.string ⟨#[]⟩):=fun x=>(HB1.out.below x.2).cell 2
 refine EF.wp_region_hyb (st:=9) [(0,true),(1,true),(2,true),(3,true),(4,true),(5,true),(6,true),(7,true),(8,false),(9,false)] (by kernel_rfl) (by kernel_rfl) ?_
 iterate 6 (refine EF.hyb_calm rfl (fun K hK=>?_);go_simp;refine hK _ ?_;clear hK K)
 clear La0 La1 La2
 refine EF.hyb_calm rfl (fun K hK=>?_);go_simp
 refine ⟨.string ⟨#[]⟩,fun a ha=>clone0_any a,hK _ ?_⟩
 clear hK K
 refine EF.hyb_calm rfl (fun K hK=>?_);go_simp;refine hK _ ?_;clear hK K
 refine EF.hyb_alone rfl (fun w5 hn5 K hK=>?_)
 go_simp
 refine hK _ _ (.inr (nx0 _ _)) ?_
 clear hK K
 obtain ⟨g3,hg3⟩:∃ g,w5.heap.size=g:=⟨_,rfl⟩
 have hb6:Blk (w5.alloc (.cells #[.int .i64 0,.int .i64 0,.string ⟨#[]⟩,.slice none 0 0,.slice none 0 0] 41)) g3 g3 #[.int .i64 0,.int .i64 0,.string ⟨#[]⟩,.slice none 0 0,.slice none 0 0] 41:=by rw [← hg3];exact Blk.new w5 _ _
 have hn6:Nx w2 (w5.alloc (.cells #[.int .i64 0,.int .i64 0,.string ⟨#[]⟩,.slice none 0 0,.slice none 0 0] 41)):=hn5.trans (nx0 _ _)
 have HG3:Hid (w2.heap.size≤g3):=by unfold Hid;rw [← hg3];exact hn5.size
 rw [hg3]
 generalize w5.alloc (.cells #[.int .i64 0,.int .i64 0,.string ⟨#[]⟩,.slice none 0 0,.slice none 0 0] 41)=w6 at *
 have HB6:=Lib.hid hb6
 have HN6:=Lib.hid hn6
 clear hb6 hn6 hn5 hg3
 refine EF.hyb_alone rfl (fun w7 hn7 K hK=>?_)
 have hb7:=HB6.out.below hn7
 have HB7:=Lib.hid hb7
 have HN7:=Lib.hid (HN6.out.trans hn7)
 have y0:w7.cell? ⟨g3,0,none⟩=some (.int .i64 0):=hb7.cell 0
 have r0:=hb7.free 0
 have y1:w7.cell? ⟨g3,1,none⟩=some (.int .i64 0):=hb7.cell 1
 have r1:=hb7.free 1
 have y2:w7.cell? ⟨g3,2,none⟩=some (.string ⟨#[]⟩):=hb7.cell 2
 have r2:=hb7.free 2
 have y3:w7.cell? ⟨g3,3,none⟩=some (.slice none 0 0):=hb7.cell 3
 have r3:=hb7.free 3
 have y4:w7.cell? ⟨g3,4,none⟩=some (.slice none 0 0):=hb7.cell 4
 have r4:=hb7.free 4
 clear hb7 hn7 HN6 HB6
 go_simp
 refine hK _ _ (.inl rfl) ?_
 clear hK K y0 y1 y2 y3 y4 r0 r1 r2 r3 r4
 obtain ⟨w8,hw8⟩:∃ w8,w8=wputs w7 g3 0 [.int .i64 (xk:Int),.int .i64 xn,.string ⟨#[]⟩,.slice none 0 0,.slice none 0 0]:=⟨_,rfl⟩
 show EF.Hyb _ _ _ _ _ _ (wputs w7 g3 0 [.int .i64 (xk:Int),.int .i64 xn,.string ⟨#[]⟩,.slice none 0 0,.slice none 0 0])
 rw [← hw8]
 have HB8:Hid (Blk w8 g3 g3 #[.int .i64 (xk:Int),.int .i64 xn,.string ⟨#[]⟩,.slice none 0 0,.slice none 0 0] 41):=by unfold Hid;rw [hw8];exact HB7.out.putAll [.int .i64 (xk:Int),.int .i64 xn,.string ⟨#[]⟩,.slice none 0 0,.slice none 0 0] rfl
 have HN8:Hid (Nx w2 w8):=by unfold Hid;rw [hw8];exact Nx.puts HG3.out [.int .i64 (xk:Int),.int .i64 xn,.string ⟨#[]⟩,.slice none 0 0,.slice none 0 0] 0 HN7.out
 clear hw8 HB7 HN7
 refine EF.hyb_nil (fun w9 hn9=>?_)
 have HB9:=Lib.hid (HB8.out.below hn9)
 have HN9:=Lib.hid (HN8.out.trans hn9)
 clear HB8 HN8 hn9
 have a3:w9.cell? ⟨g1,3,none⟩=some (.slice lA 0 lc):=(HB1.out.below HN9.out).cell 3
 go_wp2_with fail
 go_loopw [17] (fun v wr=>v = .int .i64 0∧wr=w9) (fun v _=>0)
 case atStart=>exact ⟨rfl,rfl⟩
 case round =>
  obtain ⟨rfl,rfl⟩:=hrel
  have a4:wr.cell? ⟨g1,4,none⟩=some (.slice dA 0 dc):=(HB1.out.below HN9.out).cell 4
  have b4:wr.cell? ⟨g3,4,none⟩=some (.slice none 0 0):=HB9.out.cell 4
  go_upto_region 8 with (at_builtin;go_must (refine wpList_app (f:=ivN) _ elN rfl _ _ rfl (fun _=>rfl) wr.heap.size (.slice none 0 0) [] [] rfl Own.nil_ dA dc rfl Rd.nil (Nat.zero_le _) (Nat.zero_le _) (Nat.le_refl _) ?_;intro v' wA hownA hbelA;obtain ⟨vA,vc,rfl,hv1,hv2,hv3⟩:=hownA.sl;have y4:wA.cell? ⟨g3,4,none⟩=some (.slice none 0 0):=(HB9.out.below hbelA).cell 4;have r4:=(HB9.out.below hbelA).free 4))
  simp only [List.append_nil,List.length_nil] at hv1 hv2 hv3 ⊢
  have HBA:Hid (Blk (wA.setCell ⟨g3,4,none⟩ (.slice vA 0 vc)) g3 g3 #[.int .i64 (xk:Int),.int .i64 xn,.string ⟨#[]⟩,.slice none 0 0,.slice vA 0 vc] 41):=(HB9.out.below hbelA).put 4 (.slice vA 0 vc)
  have HNA:Hid (Nx w2 (wA.setCell ⟨g3,4,none⟩ (.slice vA 0 vc))):=(HN9.out.trans hbelA).put' HG3.out 4 _
  clear y4 r4 hownA hbelA a3 a4 b4 hv1
  generalize wA.setCell ⟨g3,4,none⟩ (.slice vA 0 vc)=wB at *
  have HZB:=Lib.hid (HB2.out.below HNA.out)
  have y0:wB.cell? ⟨g3,0,none⟩=some (.int .i64 (xk:Int)):=HBA.out.cell 0
  have y1:wB.cell? ⟨g3,1,none⟩=some (.int .i64 xn):=HBA.out.cell 1
  have y2:wB.cell? ⟨g3,2,none⟩=some (.string ⟨#[]⟩):=HBA.out.cell 2
  have y3:wB.cell? ⟨g3,3,none⟩=some (.slice none 0 0):=HBA.out.cell 3
  have y4:wB.cell? ⟨g3,4,none⟩=some (.slice vA 0 vc):=HBA.out.cell 4
  have z0:wB.cell? ⟨g2,0,none⟩=some (.int .i64 0):=HZB.out.cell 0
  have r0:=HZB.out.free 0
  have z1:wB.cell? ⟨g2,1,none⟩=some (.int .i64 0):=HZB.out.cell 1
  have r1:=HZB.out.free 1
  have z2:wB.cell? ⟨g2,2,none⟩=some (.string ⟨#[]⟩):=HZB.out.cell 2
  have r2:=HZB.out.free 2
  have z3:wB.cell? ⟨g2,3,none⟩=some (.slice none 0 0):=HZB.out.cell 3
  have r3:=HZB.out.free 3
  have z4:wB.cell? ⟨g2,4,none⟩=some (.slice none 0 0):=HZB.out.cell 4
  have r4:=HZB.out.free 4
  go_wp2_with fail
  have HBC:Hid (Blk (wputs wB g2 0 [.int .i64 (xk:Int),.int .i64 xn,.string ⟨#[]⟩,.slice none 0 0,.slice vA 0 vc]) g2 g2 #[.int .i64 (xk:Int),.int .i64 xn,.string ⟨#[]⟩,.slice none 0 0,.slice vA 0 vc] 41):=HZB.out.putAll [.int .i64 (xk:Int),.int .i64 xn,.string ⟨#[]⟩,.slice none 0 0,.slice vA 0 vc] rfl
  have HNC:Hid (Nx w (wputs wB g2 0 [.int .i64 (xk:Int),.int .i64 xn,.string ⟨#[]⟩,.slice none 0 0,.slice vA 0 vc])):=Nx.puts HG.out.2.1 [.int .i64 (xk:Int),.int .i64 xn,.string ⟨#[]⟩,.slice none 0 0,.slice vA 0 vc] 0 (HN2.out.trans HNA.out)
  refine bodyPost_ret (results_cell_row rfl _ _ g2 _ _ _ _ rfl HBC.out.2 Tryd.underlying41 rfl (by kernel_rfl)) rfl ?_
  exact ⟨⟨xk,xn,[],.slice none 0 0,.slice vA 0 vc⟩,rfl,⟨rfl,rfl,rfl,RdL.nil_ _ _,⟨vA,vc,rfl,Nat.zero_le _,hv2,Rd.nil⟩⟩,⟨_,_,_,rfl⟩,⟨_,_,_,rfl⟩,HNC.out⟩
end Go.Proofs.YtnfelopknfdpfaaDoor
namespace Go.Proofs.YtnfelopknfdpfaaDoor
open Go.RowKit
theorem infoB8:(Tryd.prog.info? 5).map (fun i=>(i.zero,i.size,i.bytes))=some (some (.int .u8 0),1,1):=by kernel_rfl
set_option maxHeartbeats 4000000 in
set_option maxRecDepth 100000 in
theorem clone_in (s:ByteArray) (w:World) (hlim:s.size≤140737488355328) :
  Calls Tryd.prog 32 #[.string s] w fun e w'=>e = .returned (.string s)∧Nx w w':=by
 by_cases h0:s.size=0
 ·have hs:s=⟨#[]⟩:=by
   apply ByteArray.ext
   exact Array.eq_empty_of_size_eq_zero h0
  subst hs
  go_enter Tryd.func32,Tryd.ntmps32
  go_wp2_with fail
  go_ret
  exact ⟨rfl,Nx.refl _⟩
 ·obtain ⟨i0,hi,hz0,hz1,hz2⟩:=info_parts infoB8
  have hinfo:(Tryd.prog.info? 5).map (·.size)=some 1:=by rw [hi];simp [hz1]
  have hco:Tryd.prog.cellsOf 5 = 1:=by simp [Program.cellsOf,hi,hz1]
  obtain ⟨M,hM⟩:∃ M,M=madeCells (Value.int .u8 0).cells (((s.size:Nat):Int).toNat * i0.size):=⟨_,rfl⟩
  have hMs:M.size=s.size:=by rw [hM,size_madeCells,hz1];simp
  have hmk:∀ W:World,(Instr.makeSlice 45 (.int .i64 (s.size:Int)) (.int .i64 (s.size:Int))).run Tryd.prog W = .ok (.slice (some ⟨W.heap.size,0,none⟩) s.size s.size) (W.alloc (.cells M 5)):=fun W=>by
   have h:=run_make (P:=Tryd.prog) W 45 5 i0 (.int .u8 0) Tryd.underlying45 hi hz0 .i64 .i64 (s.size:Int) (s.size:Int) (by omega) (by omega) (by rw [hz2];omega) (by omega)
   rw [← hM] at h
   simpa using h
  clear hM
  have hcp:=Lib.run_copy_row_string (P:=Tryd.prog) (w.alloc (.cells M 5)) 45 9 3 5 w.heap.size 0 s.size s.size s M 5 Tryd.underlying45 hinfo (heap_alloc_new w _) (Nat.le_refl _) (by omega)
  obtain ⟨Y,hY⟩:∃ Y,Y=(M.toList.take 0++Lib.byteCells s.data.toList++M.toList.drop (0+s.size)).toArray:=⟨_,rfl⟩
  rw [← hY] at hcp
  have hYl:Y.toList=Lib.byteCells s.data.toList:=by
   rw [hY,List.toList_toArray,List.take_zero,List.nil_append,List.drop_of_length_le (by rw [Array.length_toList];omega),List.append_nil]
  have hYs:Y.size=s.size:=by rw [← Array.length_toList,hYl,Lib.byteCells_length,← Lib.size_eq]
  have hgY:((w.alloc (.cells M 5)).setRow w.heap.size Y).heap[w.heap.size]? = some (.cells Y 5 (0,0)):=setRow_heap _ _ M _ 5 (0,0) (heap_alloc_new w _)
  have hne:s.data.toList≠[]:=fun e=>h0 (by rw [Lib.size_eq,e];rfl)
  have hUS:=Lib.run_unsafeString_row (P:=Tryd.prog) ((w.alloc (.cells M 5)).setRow w.heap.size Y) 106 3 9 5 Tryd.underlying106 hco w.heap.size Y.size (by unfold World.shape?;rw [hgY]) s.data.toList hne (by rw [← Lib.size_eq];omega) (by rw [← Lib.size_eq];omega)
   (fun j x hx=>Lib.cells_of_row hgY Y.size j _ (by rw [List.take_of_length_le (by rw [Array.length_toList];exact Nat.le_refl _),hYl];simp [Lib.byteCells,hx]))
  rw [← Lib.size_eq] at hUS
  have hb1:Below w.heap.size w (w.alloc (.cells M 5)):=(Below.refl _ w).alloc (Nat.le_refl _) _
  have hb2:Below w.heap.size (w.alloc (.cells M 5)) ((w.alloc (.cells M 5)).setRow w.heap.size Y):=⟨rfl,rfl,rfl,by simp,fun k hk=>setRow_other _ _ _ _ (by omega)⟩
  have HB:=Lib.hid (Lib.below_freeze (hb1.trans hb2) (p:=⟨w.heap.size,0,none⟩) (Nat.le_refl _) s.size)
  clear hY hb1 hb2
  go_enter Tryd.func32,Tryd.ntmps32
  go_wp2
  go_ret
  exact ⟨rfl,HB.out⟩
theorem clone_any (w:World) (s:ByteArray) (l:List UInt8) (hl:Tx s l) (h:l.length≤140737488355328) :
  Calls Tryd.prog 19 #[.string s] w fun e w'=>e = .returned (.string ⟨l.toArray⟩)∧Nx w w':=by
 have hs:s.size≤140737488355328:=by rw [hl.size];exact h
 obtain rfl:=hl.eq
 have H:=Lib.hid (clone_in ⟨l.toArray⟩ w hs)
 clear hl hs
 go_enter Tryd.func19,Tryd.ntmps19
 go_wp2_with fail
 refine H.out.mono ?_;rintro e w' ⟨rfl,hn⟩
 go_wp2_with fail
 go_ret
 exact ⟨rfl,hn⟩
end Go.Proofs.YtnfelopknfdpfaaDoor
namespace Go.Proofs.YtnfelopknfdpfaaDoor
open Go.RowKit
theorem results_ct {P:Program} {fn:Func} {p a:Tmp} {ty:TypeId} (h:fn.results=#[.cell p ty,.tmp a]) (tmps:Array Value) (w:World) (g:Nat) (t:TypeId) (cs:Array Value) (fr:Nat×Nat) (d:TypeDesc)
  (hp:tmps.getD p undef = .pointer (some ⟨g,0,none⟩)) (hg:w.heap[g]? = some (.cells cs t fr))
  (hu:P.underlying ty=some d) (hd:(match d with | .struct _ | .array _ _=>true | _=>false)=true) (hi:(P.info? ty).map (·.size)=some cs.size) :
  (results fn tmps).run P w = .ok (.tuple #[.agg cs,tmps.getD a undef]) w:=by
 have hp':tmps[p]?.getD undef = .pointer (some ⟨g,0,none⟩):=by simpa using hp
 simp [results,h,hp',asAddr,run_loadVar_row w g t ty cs fr d hg hu hd hi]
structure CpZ where
 lA:Option Addr
 lc:Nat
 dA:Option Addr
 dc:Nat
def cpS (z:CpZ):ValS:=⟨0,0,[],.slice z.lA 0 z.lc,.slice z.dA 0 z.dc⟩
def fzA (z:CpZ):Array Value:=#[.int .i64 1,.int .i64 1,.string ⟨#[105,56]⟩,.string ⟨#[]⟩,.bool false,.int .i64 0,.int .i64 0,.string ⟨#[]⟩,.slice z.lA 0 z.lc,.slice z.dA 0 z.dc]
theorem fzA_size (z:CpZ):(fzA z).size=10:=rfl
theorem fz_one:∀ x:CpZ,∀ u ∈ (fzA x).toList,u.oneCell'=true:=fun x u hu=>by
 simp only [fzA,List.mem_cons,List.not_mem_nil,or_false] at hu
 rcases hu with rfl | rfl | rfl | rfl | rfl | rfl | rfl | rfl | rfl | rfl <;> rfl
theorem infoZ:(Tryd.prog.info? 50).map (fun i=>(i.zero,i.size,i.bytes))=some (some (.agg #[.int .i64 0,.int .i64 0,.string ⟨#[]⟩,.string ⟨#[]⟩,.bool false,.int .i64 0,.int .i64 0,.string ⟨#[]⟩,.slice none 0 0,.slice none 0 0]),10,136):=by kernel_rfl
set_option maxRecDepth 100000 in
set_option maxHeartbeats 12800000 in
theorem struct_any (w:World) (Sv:Value) (hs:SchS w Sv 4 aA [fld1]) :
  Calls Tryd.prog 10 #[Sv,.string ⟨aA.toArray⟩] w fun e w'=>∃ fl y,e = .returned (.tuple #[.agg #[.int .i64 4,.string ⟨aA.toArray⟩,fl],.bool true])∧RdFs w' fl [fldY y]∧Nx w w':=by
 obtain ⟨s0,s1,s2,fl,A,c,rfl,hs0,hrd,hfs,-,⟨A1,u1,c1,rfl⟩,⟨A2,u2,c2,rfl⟩,hg⟩:=hs.g
 subst hs0
 obtain ⟨g,off,rfl,hgl,hc⟩:=hrd (by simp)
 obtain ⟨⟨fA,fc,hfl,hf1,hf2,hf3⟩,-⟩:=id hfs
 dsimp only [List.length_cons,List.length_nil,Nat.zero_add] at hfl
 subst hfl
 obtain ⟨gF,oF,rfl,hgF,hcF⟩:=hf3 (by simp)
 have HC:Hid (g<w.heap.size∧∀ q,q<3→w.cell? ⟨g,off+q,none⟩=(strA ⟨4,aA,.slice (some ⟨gF,oF,none⟩) 1 fc⟩)[q]?):=⟨hgl,fun q hq=>by have:=hc 0 (by simp) q hq;rw [Nat.zero_mul,Nat.add_zero] at this;exact this⟩
 have HCF:Hid (gF<w.heap.size∧∀ q,q<10→w.cell? ⟨gF,oF+q,none⟩=(fldA fld1)[q]?):=⟨hgF,fun q hq=>by have:=hcF 0 (by simp) q hq;rw [Nat.zero_mul,Nat.add_zero] at this;exact this⟩
 have HG:=Lib.hid hg
 obtain ⟨gS,hgS⟩:∃ g,w.heap.size=g:=⟨_,rfl⟩
 obtain ⟨gX,hgX⟩:∃ g,gS+1=g:=⟨_,rfl⟩
 obtain ⟨w1,hw1⟩:∃ x,w.alloc (.cells #[.slice (some ⟨g,off,none⟩) 1 c,.slice A1 u1 c1,.slice A2 u2 c2] 32)=x:=⟨_,rfl⟩
 have hz1:w1.heap.size=gX:=by rw [← hw1];simp;omega
 obtain ⟨w2,hw2⟩:∃ x,w1.alloc (.cells #[.int .i64 0,.string ⟨#[]⟩,.slice none 0 0] 48)=x:=⟨_,rfl⟩
 have hb1:Blk w2 gS gS #[.slice (some ⟨g,off,none⟩) 1 c,.slice A1 u1 c1,.slice A2 u2 c2] 32:=by rw [← hw2,← hw1,← hgS];exact (Blk.new w _ _).alloc _
 have hb2:Blk w2 gX gX #[.int .i64 0,.string ⟨#[]⟩,.slice none 0 0] 48:=by rw [← hw2,← hz1];exact Blk.new w1 _ _
 have hn2:Nx w w2:=by rw [← hw2,← hw1];exact nx (nx0 _ _) (nx0 _ _)
 have hst:=structAt_any w2 _ _ _ _ _ (hg.nx hn2) aA
 rw [show nmI ([(⟨4,aA,.slice (some ⟨gF,oF,none⟩) 1 fc⟩:StrS)].map (·.nm)) aA=0 from by unfold nmI;rw [show ([(⟨4,aA,.slice (some ⟨gF,oF,none⟩) 1 fc⟩:StrS)].map (·.nm))=[aA] from rfl,nmN_one];rfl] at hst
 have HST:=Lib.hid hst
 have HB1:=Lib.hid hb1
 have HB2:=Lib.hid hb2
 have HN2:=Lib.hid hn2
 have HGG:Hid (w.heap.size≤gS∧w.heap.size≤gX∧gS≠gX∧w.heap.size=gS):=by unfold Hid;omega
 have a0:w2.cell? ⟨gS,0,none⟩=some (.slice (some ⟨g,off,none⟩) 1 c):=hb1.cell 0
 have a1:w2.cell? ⟨gS,1,none⟩=some (.slice A1 u1 c1):=hb1.cell 1
 have a2:w2.cell? ⟨gS,2,none⟩=some (.slice A2 u2 c2):=hb1.cell 2
 clear hst hb1 hb2 hn2 hg hfs hrd hc hf1 hf2 hf3 hcF hgl hgF hs
 go_enter Tryd.func10,Tryd.ntmps10
 go_upto_region 1 with (fail)
 try rw [hw1]
 try rw [hw2]
 clear hw1 hw2 hgS hgX hz1
 go_wp2_with fail
 refine HST.out.mono ?_;rintro e w3 ⟨rfl,hn3⟩
 have HN3:=Lib.hid (HN2.out.trans hn3)
 have HB13:=Lib.hid (HB1.out.below hn3)
 have HB23:=Lib.hid (HB2.out.below hn3)
 clear hn3 a0 a1 a2 HB1 HB2
 have L0:∀ x:ED.GrO gX w3,x.1.cell? ⟨gS,0,none⟩=some (.slice (some ⟨g,off,none⟩) 1 c):=fun x=>(x.2.blk HB13.out HGG.out.2.2.1).cell 0
 have L1:∀ x:ED.GrO gX w3,x.1.cell? ⟨g,off,none⟩=some (.int .i64 4):=fun x=>by
  rw [oth_cell x.2 (p:=⟨g,off,none⟩) (Nat.lt_of_lt_of_le HC.out.1 HN3.out.size) (by have:=HC.out.1;have:=HGG.out;show g≠gX;omega),HN3.out.cell (p:=⟨g,off,none⟩) HC.out.1]
  exact HC.out.2 0 (by decide)
 have HCL:Hid (∀ wx,Calls Tryd.prog 19 #[.string ⟨aA.toArray⟩] wx fun e w'=>e = .returned (.string ⟨aA.toArray⟩)∧Nx wx w'):=fun wx=>clone_any wx _ aA (tx_ aA) (by decide)
 go_upto_region 4 with (fail)
 refine ED.wp_region_hyb ⟨[],gX,[]⟩ [(0,1),(1,1),(2,1),(3,1),(4,1),(5,1),(6,1),(8,1),(7,0),(9,0),(10,1),(11,0)] (by kernel_rfl) (by kernel_rfl) ?_
 iterate 8 (refine ED.hyb_calm rfl (fun K hK=>?_);go_simp;refine hK _ ?_;clear hK K)
 clear L0 L1
 refine ED.hyb_alone rfl (fun w4 hn4 KK hK=>?_)
 go_simp
 refine (HCL.out w4).mono ?_;rintro e w5 ⟨rfl,hn5⟩
 refine hK _ _ (.inr (Oth.nx hn5)) ?_
 clear hK KK
 have HN5:=Lib.hid (hn4.trans hn5)
 clear hn4 hn5
 refine ED.hyb_alone rfl (fun w6 hn6 KK hK=>?_)
 have hb6:=HB23.out.below (HN5.out.trans hn6)
 have HB6:=Lib.hid hb6
 have HO6:Hid (Oth gX w3 w6):=Oth.nx (HN5.out.trans hn6)
 have y0:w6.cell? ⟨gX,0,none⟩=some (.int .i64 0):=hb6.cell 0
 have r0:=hb6.free 0
 clear hb6 hn6
 go_simp
 refine hK _ _ (.inr (Oth.set _ _ _ _)) ?_
 clear hK KK y0 r0
 have HB7:Hid (Blk (w6.setCell ⟨gX,0,none⟩ (.int .i64 4)) gX gX #[.int .i64 4,.string ⟨#[]⟩,.slice none 0 0] 48):=HB6.out.put 0 _
 have HO7:Hid (Oth gX w3 (w6.setCell ⟨gX,0,none⟩ (.int .i64 4))):=HO6.out.own
 generalize w6.setCell ⟨gX,0,none⟩ (.int .i64 4)=w7 at *
 refine ED.hyb_calm rfl (fun K hK=>?_);go_simp;refine hK _ ?_;clear hK K
 refine ED.hyb_alone rfl (fun w8 hn8 KK hK=>?_)
 have hb8:=HB7.out.below hn8
 have HB8:=Lib.hid hb8
 have HO8:=Lib.hid (HO7.out.trans (Oth.nx hn8))
 have y1:w8.cell? ⟨gX,1,none⟩=some (.string ⟨#[]⟩):=hb8.cell 1
 have r1:=hb8.free 1
 clear hb8 hn8
 go_simp
 refine hK _ _ (.inr (Oth.set _ _ _ _)) ?_
 clear hK KK y1 r1
 have HB9:Hid (Blk (w8.setCell ⟨gX,1,none⟩ (.string ⟨aA.toArray⟩)) gX gX #[.int .i64 4,.string ⟨aA.toArray⟩,.slice none 0 0] 48):=HB8.out.put 1 _
 have HO9:Hid (Oth gX w3 (w8.setCell ⟨gX,1,none⟩ (.string ⟨aA.toArray⟩))):=HO8.out.own
 generalize w8.setCell ⟨gX,1,none⟩ (.string ⟨aA.toArray⟩)=w9 at *
 refine ED.hyb_nil (fun wA hnA=>?_)
 have HOA:=Lib.hid (HO9.out.trans (Oth.nx hnA))
 have hna:Nx w wA:=HOA.out.to HN3.out HGG.out.2.1
 have HNA:=Lib.hid hna
 have HBA:=Lib.hid (HB9.out.below hnA)
 have hbs:=HOA.out.blk HB13.out HGG.out.2.2.1
 have hcw:∀ q,q<3→wA.cell? ⟨g,off+q,none⟩=(strA ⟨4,aA,.slice (some ⟨gF,oF,none⟩) 1 fc⟩)[q]?:=fun q hq=>(hna.cell (p:=⟨g,off+q,none⟩) HC.out.1).trans (HC.out.2 q hq)
 have b0:wA.cell? ⟨gS,0,none⟩=some (.slice (some ⟨g,off,none⟩) 1 c):=hbs.cell 0
 have b2:wA.cell? ⟨g,off+2,none⟩=some (.slice (some ⟨gF,oF,none⟩) 1 fc):=hcw 2 (by decide)
 clear hnA hna hbs hcw
 go_wp2_with fail
 clear b0 b2
 go_loopw [32] (fun v wr=>(v = .int .i64 0∧wr=wA)∨(v = .int .i64 1∧Hid (∃ z vF B,gX<B∧Blk wr gX gX #[.int .i64 4,.string ⟨aA.toArray⟩,vF] 48∧OwnS fzA 10 50 wr B vF [z])∧Hid (Nx w wr))) (fun v _=>(1 - intOf v).toNat)
 case atStart=>exact .inl ⟨rfl,rfl⟩
 case round =>
  rcases hrel with ⟨rfl,hwr⟩ | ⟨rfl,HZ,HNR⟩
  ·obtain rfl:=hwr.symm
   have hcw:∀ q,q<10→wA.cell? ⟨gF,oF+q,none⟩=(fldA fld1)[q]?:=fun q hq=>(HNA.out.cell (p:=⟨gF,oF+q,none⟩) HCF.out.1).trans (HCF.out.2 q hq)
   have c0:wA.cell? ⟨gF,oF,none⟩=some (.int .i64 1):=hcw 0 (by decide)
   have c1:wA.cell? ⟨gF,oF+1,none⟩=some (.int .i64 1):=hcw 1 (by decide)
   have c2:wA.cell? ⟨gF,oF+2,none⟩=some (.string ⟨#[105,56]⟩):=hcw 2 (by decide)
   have c3:wA.cell? ⟨gF,oF+3,none⟩=some (.string ⟨#[]⟩):=hcw 3 (by decide)
   have c4:wA.cell? ⟨gF,oF+4,none⟩=some (.bool false):=hcw 4 (by decide)
   have c5:wA.cell? ⟨gF,oF+5,none⟩=some (.int .i64 0):=hcw 5 (by decide)
   have c6:wA.cell? ⟨gF,oF+6,none⟩=some (.int .i64 0):=hcw 6 (by decide)
   have c7:wA.cell? ⟨gF,oF+7,none⟩=some (.string ⟨#[]⟩):=hcw 7 (by decide)
   have c8:wA.cell? ⟨gF,oF+8,none⟩=some (.slice none 0 0):=hcw 8 (by decide)
   have c9:wA.cell? ⟨gF,oF+9,none⟩=some (.slice none 0 0):=hcw 9 (by decide)
   obtain ⟨gf,hgf⟩:∃ g,wA.heap.size=g:=⟨_,rfl⟩
   obtain ⟨wB,hwB⟩:∃ x,wA.alloc (.cells #[.int .i64 1,.int .i64 1,.string ⟨#[105,56]⟩,.string ⟨#[]⟩,.bool false,.int .i64 0,.int .i64 0,.string ⟨#[]⟩,.slice none 0 0,.slice none 0 0] 50)=x:=⟨_,rfl⟩
   have hbB:Blk wB gf gf #[.int .i64 1,.int .i64 1,.string ⟨#[105,56]⟩,.string ⟨#[]⟩,.bool false,.int .i64 0,.int .i64 0,.string ⟨#[]⟩,.slice none 0 0,.slice none 0 0] 50:=by rw [← hwB,← hgf];exact Blk.new wA _ _
   have hnB:Nx wA wB:=by rw [← hwB];exact nx0 _ _
   have HBB:=Lib.hid hbB
   have HNB:=Lib.hid hnB
   have HGF:Hid (gf≠gX∧wA.heap.size≤gf∧gX<gf):=by have:=HBA.out.lt;unfold Hid;omega
   have v2:∀ x:ED.GrO gX wB,x.1.cell? ⟨gf,2,none⟩=some (.string ⟨#[105,56]⟩):=fun x=>(x.2.blk HBB.out HGF.out.1).cell 2
   have v3:∀ x:ED.GrO gX wB,x.1.cell? ⟨gf,3,none⟩=some (.string ⟨#[]⟩):=fun x=>(x.2.blk HBB.out HGF.out.1).cell 3
   have v5:∀ x:ED.GrO gX wB,x.1.cell? ⟨gf,5,none⟩=some (.int .i64 0):=fun x=>(x.2.blk HBB.out HGF.out.1).cell 5
   have v6:∀ x:ED.GrO gX wB,x.1.cell? ⟨gf,6,none⟩=some (.int .i64 0):=fun x=>(x.2.blk HBB.out HGF.out.1).cell 6
   have v7:∀ x:ED.GrO gX wB,x.1.cell? ⟨gf,7,none⟩=some (.string ⟨#[]⟩):=fun x=>(x.2.blk HBB.out HGF.out.1).cell 7
   have v8:∀ x:ED.GrO gX wB,x.1.cell? ⟨gf,8,none⟩=some (.slice none 0 0):=fun x=>(x.2.blk HBB.out HGF.out.1).cell 8
   have v9:∀ x:ED.GrO gX wB,x.1.cell? ⟨gf,9,none⟩=some (.slice none 0 0):=fun x=>(x.2.blk HBB.out HGF.out.1).cell 9
   have HK1:Hid (∀ wx,Calls Tryd.prog 19 #[.string ⟨#[105,56]⟩] wx fun e w'=>e = .returned (.string ⟨#[105,56]⟩)∧Nx wx w'):=fun wx=>clone_any wx _ [105,56] rfl (by decide)
   have HK2:Hid (∀ wx,Calls Tryd.prog 20 #[.agg #[.int .i64 0,.int .i64 0,.string ⟨#[]⟩,.slice none 0 0,.slice none 0 0]] wx fun e w'=>∃ z:CpZ,e = .returned (.agg #[.int .i64 0,.int .i64 0,.string ⟨#[]⟩,.slice z.lA 0 z.lc,.slice z.dA 0 z.dc])∧Nx wx w'):=fun wx=>by
    refine (Copy_any 1 wx ⟨0,0,[],.slice none 0 0,.slice none 0 0⟩ (.mk 0 0 [] [] []) ⟨rfl,rfl,rfl,RdL.nil_ _ _,RdI.nil_ _⟩ ⟨rfl,rfl,rfl⟩).mono ?_
    rintro e w' ⟨⟨yk,yn,ys,yl,yi⟩,rfl,⟨z1,z2,z3,⟨lA,lc,lys,z4,-⟩,⟨dA,dc,z5,-⟩⟩,-,-,hn⟩
    dsimp only at z1 z2 z3 z4 z5
    subst z1 z2 z3 z4 z5
    exact ⟨⟨lA,lc,dA,dc⟩,rfl,hn⟩
   have HWB:=Lib.hid hwB
   clear hcw hbB hnB hwB
   go_upto_region 8 with (fail)
   rw [HWB.out]
   clear HWB hgf c0 c1 c2 c3 c4 c5 c6 c7 c8 c9
   refine ED.wp_region_hyb ⟨[10,12,14],gX,[[10,12,14],[10,12,14],[10,12,14],[10,12,14],[10,12,14],[8,10,12,14],[10,12,14],[10,12,14],[10,12,14],[10,12,14],[],[],[],[],[]]⟩ [(0,1),(1,1),(3,1),(4,1),(6,1),(7,1),(2,0),(9,2),(5,0),(8,0),(10,0),(11,2),(12,0),(13,2),(14,0)] (by kernel_rfl) (by kernel_rfl) ?_
   iterate 6 (refine ED.hyb_calm rfl (fun K hK=>?_);go_simp;refine hK _ ?_;clear hK K)
   clear v2 v3 v5 v6 v7 v8 v9
   refine ED.hyb_alone rfl (fun w4 hn4 KK hK=>?_)
   go_simp
   refine (HK1.out w4).mono ?_;rintro e w5 ⟨rfl,hn5⟩
   refine hK _ _ (.inr (Oth.nx hn5)) ?_
   clear hK KK
   have HX5:=Lib.hid (hn4.trans hn5)
   clear hn4 hn5
   refine ED.hyb_pure rfl (fun K hK=>?_);go_simp;refine hK _ ?_;clear hK K
   refine ED.hyb_alone rfl (fun w6 hn6 KK hK=>?_)
   go_simp
   refine (clone0_any w6).mono ?_;rintro e w7 ⟨rfl,hw7⟩
   obtain rfl:=hw7.symm
   refine hK _ _ (.inr (Oth.refl _ _)) ?_
   clear hK KK
   refine ED.hyb_alone rfl (fun w8 hn8 KK hK=>?_)
   go_simp
   refine (HK2.out w8).mono ?_;rintro e w9 ⟨z,rfl,hn9⟩
   refine hK _ _ (.inr (Oth.nx hn9)) ?_
   clear hK KK
   have HX9:=Lib.hid (HX5.out.trans (hn6.trans (hn8.trans hn9)))
   clear hn6 hn8 hn9
   refine ED.hyb_alone rfl (fun wC hnC KK hK=>?_)
   have hbC:=HBB.out.below (HX9.out.trans hnC)
   have HBC:=Lib.hid hbC
   have HNC:=Lib.hid (HNB.out.trans (HX9.out.trans hnC))
   have y2:wC.cell? ⟨gf,2,none⟩=some (.string ⟨#[105,56]⟩):=hbC.cell 2
   have r2:=hbC.free 2
   clear hbC hnC
   go_simp
   refine hK _ _ (.inl (by simp)) ?_
   clear hK KK y2 r2
   have HBD:Hid (Blk (wC.setCell ⟨gf,2,none⟩ (.string ⟨#[105,56]⟩)) gf gf #[.int .i64 1,.int .i64 1,.string ⟨#[105,56]⟩,.string ⟨#[]⟩,.bool false,.int .i64 0,.int .i64 0,.string ⟨#[]⟩,.slice none 0 0,.slice none 0 0] 50):=HBC.out.put 2 _
   have HND:Hid (Nx wA (wC.setCell ⟨gf,2,none⟩ (.string ⟨#[105,56]⟩))):=HNC.out.put' HGF.out.2.1 2 _
   generalize wC.setCell ⟨gf,2,none⟩ (.string ⟨#[105,56]⟩)=wD at *
   refine ED.hyb_pure rfl (fun K hK=>?_);go_simp;refine hK _ ?_;clear hK K
   refine ED.hyb_alone rfl (fun wE hnE KK hK=>?_)
   have hbE:=HBD.out.below hnE
   have HBE:=Lib.hid hbE
   have HNE:=Lib.hid (HND.out.trans hnE)
   have y3:wE.cell? ⟨gf,3,none⟩=some (.string ⟨#[]⟩):=hbE.cell 3
   have r3:=hbE.free 3
   clear hbE hnE
   go_simp
   refine hK _ _ (.inl (by simp)) ?_
   clear hK KK y3 r3
   have HBH:Hid (Blk (wE.setCell ⟨gf,3,none⟩ (.string ⟨#[]⟩)) gf gf #[.int .i64 1,.int .i64 1,.string ⟨#[105,56]⟩,.string ⟨#[]⟩,.bool false,.int .i64 0,.int .i64 0,.string ⟨#[]⟩,.slice none 0 0,.slice none 0 0] 50):=HBE.out.put 3 _
   have HNH:Hid (Nx wA (wE.setCell ⟨gf,3,none⟩ (.string ⟨#[]⟩))):=HNE.out.put' HGF.out.2.1 3 _
   generalize wE.setCell ⟨gf,3,none⟩ (.string ⟨#[]⟩)=wH at *
   refine ED.hyb_pure rfl (fun K hK=>?_);go_simp;refine hK _ ?_;clear hK K
   refine ED.hyb_alone rfl (fun wI hnI KK hK=>?_)
   have hbI:=HBH.out.below hnI
   have HBI:=Lib.hid hbI
   have HNI:=Lib.hid (HNH.out.trans hnI)
   have y5:wI.cell? ⟨gf,5,none⟩=some (.int .i64 0):=hbI.cell 5
   have r5:=hbI.free 5
   have y6:wI.cell? ⟨gf,6,none⟩=some (.int .i64 0):=hbI.cell 6
   have r6:=hbI.free 6
   have y7:wI.cell? ⟨gf,7,none⟩=some (.string ⟨#[]⟩):=hbI.cell 7
   have r7:=hbI.free 7
   have y8:wI.cell? ⟨gf,8,none⟩=some (.slice none 0 0):=hbI.cell 8
   have r8:=hbI.free 8
   have y9:wI.cell? ⟨gf,9,none⟩=some (.slice none 0 0):=hbI.cell 9
   have r9:=hbI.free 9
   clear hbI hnI
   go_simp
   refine hK _ _ (.inl (by simp)) ?_
   clear hK KK y5 y6 y7 y8 y9 r5 r6 r7 r8 r9
   obtain ⟨wJ,hwJ⟩:∃ x,x=wputs wI gf 5 [.int .i64 0,.int .i64 0,.string ⟨#[]⟩,.slice z.lA 0 z.lc,.slice z.dA 0 z.dc]:=⟨_,rfl⟩
   show ED.Hyb _ _ _ _ _ _ (wputs wI gf 5 [.int .i64 0,.int .i64 0,.string ⟨#[]⟩,.slice z.lA 0 z.lc,.slice z.dA 0 z.dc])
   rw [← hwJ]
   have HBJ:Hid (Blk wJ gf gf (fzA z) 50):=by unfold Hid;rw [hwJ];exact HBI.out.puts [.int .i64 0,.int .i64 0,.string ⟨#[]⟩,.slice z.lA 0 z.lc,.slice z.dA 0 z.dc] 5
   have HNJ:Hid (Nx wA wJ):=by unfold Hid;rw [hwJ];exact Nx.puts HGF.out.2.1 [.int .i64 0,.int .i64 0,.string ⟨#[]⟩,.slice z.lA 0 z.lc,.slice z.dA 0 z.dc] 5 HNI.out
   clear hwJ
   refine ED.hyb_nil (fun wz hnz=>?_)
   have hbz:=HBJ.out.below hnz
   have HNZ:=Lib.hid (HNJ.out.trans hnz)
   have hbx:=HBA.out.below HNZ.out
   have HBX:=Lib.hid hbx
   obtain ⟨g7,hg7⟩:∃ g,wz.heap.size=g:=⟨_,rfl⟩
   obtain ⟨wK,hwK⟩:∃ x,wz.alloc (.cells (fzA z) 50)=x:=⟨_,rfl⟩
   have hbK:Blk wK g7 g7 (fzA z) 50:=by rw [← hwK,← hg7];exact Blk.new wz _ _
   have hnK:Nx wz wK:=by rw [← hwK];exact nx0 _ _
   have hxK:=hbx.below hnK
   have d0:wz.cell? ⟨gf,0,none⟩=some (.int .i64 1):=hbz.cell 0
   have d1:wz.cell? ⟨gf,1,none⟩=some (.int .i64 1):=hbz.cell 1
   have d2:wz.cell? ⟨gf,2,none⟩=some (.string ⟨#[105,56]⟩):=hbz.cell 2
   have d3:wz.cell? ⟨gf,3,none⟩=some (.string ⟨#[]⟩):=hbz.cell 3
   have d4:wz.cell? ⟨gf,4,none⟩=some (.bool false):=hbz.cell 4
   have d5:wz.cell? ⟨gf,5,none⟩=some (.int .i64 0):=hbz.cell 5
   have d6:wz.cell? ⟨gf,6,none⟩=some (.int .i64 0):=hbz.cell 6
   have d7:wz.cell? ⟨gf,7,none⟩=some (.string ⟨#[]⟩):=hbz.cell 7
   have d8:wz.cell? ⟨gf,8,none⟩=some (.slice z.lA 0 z.lc):=hbz.cell 8
   have d9:wz.cell? ⟨gf,9,none⟩=some (.slice z.dA 0 z.dc):=hbz.cell 9
   have x2:wz.cell? ⟨gX,2,none⟩=some (.slice none 0 0):=hbx.cell 2
   have hk7:∀ j,j<10→wK.cell? ⟨g7,j,none⟩=(fzA z)[j]?:=fun j hj=>hbK.cell j
   have hq7:g7≤wK.heap.size:=Nat.le_of_lt hbK.lt
   have hl7:(([]:List CpZ).length:Int)≤100000:=by decide
   have HXK:=Lib.hid hxK
   have HNK:=Lib.hid (HNA.out.trans (HNZ.out.trans hnK))
   have HGK:Hid (gX<g7):=by have:=hbx.lt;unfold Hid;omega
   have hown0:OwnS fzA 10 50 wK g7 (.slice none 0 0) []:=OwnS.nil_ _ _
   unfold fzA at hwK
   clear hbz hnz hbx hbK hnK hxK
   go_wp2_with (at_builtin;go_must (refine wpList_appS (f:=fzA) (k:=10) _ infoZ Tryd.underlying46 rfl (by decide) (by decide) (fun _=>rfl) fz_one rfl _ _ rfl g7 _ _ z rfl hown0 g7 rfl hk7 hl7 hq7 ?_;intro v8 w8 hown8 hbel8 hkeep8;obtain ⟨A8,c8,rfl,hv1,hv2,hv3⟩:=hown8.sl fzA_size;simp only [List.nil_append,List.length_cons,List.length_nil,Nat.zero_add] at hown8 hv1 hv3 ⊢;have hx8:Blk w8 gX gX #[.int .i64 4,.string ⟨aA.toArray⟩,.slice none 0 0] 48:=⟨HXK.out.1,by rw [hbel8.block gX HGK.out];exact HXK.out.2⟩;have y2:w8.cell? ⟨gX,2,none⟩=some (.slice none 0 0):=hx8.cell 2;have r2:=hx8.free 2))
   have HB8:Hid (Blk (w8.setCell ⟨gX,2,none⟩ (.slice A8 1 c8)) gX gX #[.int .i64 4,.string ⟨aA.toArray⟩,.slice A8 1 c8] 48):=hx8.put 2 _
   have HO8:Hid (OwnS fzA 10 50 (w8.setCell ⟨gX,2,none⟩ (.slice A8 1 c8)) g7 (.slice A8 1 c8) [z]):=hown8.oth (Oth.set _ _ _ _) HGK.out
   have HN8:Hid (Nx w (w8.setCell ⟨gX,2,none⟩ (.slice A8 1 c8))):=Nx.put' (Below.trans (B:=w.heap.size) HNK.out (hbel8.mono (by have:=HGG.out;have:=HGK.out;omega))) HGG.out.2.1 2 _
   clear hown8 hbel8 hkeep8 hx8 y2 r2 hv1 hv2 hv3 hk7 hq7 hl7 hown0
   generalize w8.setCell ⟨gX,2,none⟩ (.slice A8 1 c8)=wL at *
   go_roundw
   case rel=>first | exact .inr ⟨by go_num,⟨z,_,g7,HGK.out,HB8.out,HO8.out⟩,HN8.out⟩ | ((repeat apply Exists.intro);exact ⟨.inr ⟨by go_num,⟨z,_,g7,HGK.out,HB8.out,HO8.out⟩,HN8.out⟩,rfl⟩)
   case measure=>simp [intOf]
  ·obtain ⟨z,vF,B,hB,hbx,hown⟩:=HZ.out
   obtain ⟨A8,c8,rfl,-⟩:=hown.sl fzA_size
   simp only [List.length_cons,List.length_nil,Nat.zero_add] at hbx hown
   have HBX:=Lib.hid hbx
   have HOW:=Lib.hid hown
   have HGB:=Lib.hid hB
   have x0:wr.cell? ⟨gX,0,none⟩=some (.int .i64 4):=hbx.cell 0
   have x1:wr.cell? ⟨gX,1,none⟩=some (.string ⟨aA.toArray⟩):=hbx.cell 1
   have x2:wr.cell? ⟨gX,2,none⟩=some (.slice A8 1 c8):=hbx.cell 2
   have f0:=hbx.free 0
   have f1:=hbx.free 1
   have f2:=hbx.free 2
   clear hbx hown hB HZ
   go_wp2_with fail
   refine bodyPost_ret (results_ct rfl _ _ gX _ _ _ _ rfl (HBX.out.putAll [.int .i64 4,.string ⟨aA.toArray⟩,.slice A8 1 c8] rfl).2 (Tryd.underlying48) rfl (by kernel_rfl)) rfl ?_
   have ho:Oth gX wr (((wr.setCell ⟨gX,0,none⟩ (.int .i64 4)).setCell ⟨gX,1,none⟩ (.string ⟨aA.toArray⟩)).setCell ⟨gX,2,none⟩ (.slice A8 1 c8)):=(((Oth.refl gX wr).own (i:=0) (v:=.int .i64 4)).own (i:=1) (v:=.string ⟨aA.toArray⟩)).own (i:=2) (v:=.slice A8 1 c8)
   obtain ⟨A9,c9,e9,q1,q2,q3⟩:=(HOW.out.oth ho HGB.out).sl fzA_size
   obtain ⟨rfl,-,rfl⟩:A8=A9∧True∧c8=c9:=by simp at e9;exact ⟨e9.1,trivial,e9.2⟩
   refine ⟨.slice A8 1 c8,cpS z,rfl,⟨⟨A8,c8,rfl,q1,q2,fun h0=>?_⟩,by show 1≤20;decide,List.pairwise_singleton _ _,fun f hf=>?_⟩,ho.to HNR.out HGG.out.2.1⟩
   ·obtain ⟨g,e,hg,hcc⟩:=q3 (by simp)
    exact ⟨g,0,e,hg,fun i hi j hj=>by
     obtain rfl:i=0:=by simpa using hi
     have h:=hcc 0 (by simp) j hj
     simp only [Nat.zero_mul,Nat.zero_add] at h ⊢
     exact h⟩
   ·rw [List.mem_singleton.1 hf]
    exact ⟨by show baseT [105,56]≠none;decide,⟨_,_,_,rfl⟩,⟨_,_,_,rfl⟩⟩
end Go.Proofs.YtnfelopknfdpfaaDoor
namespace Go.Proofs.YtnfelopknfdpfaaDoor
open Go.RowKit
def TW (w:World):Prop:=TabK w∧MaxC w∧U8W w
theorem vB_valid:∀ (n:Nat) (l:List UInt8),l.length≤n→vB n l=Lib.validGoD n l
 | 0,l,h=>by
  obtain rfl:l=[]:=List.eq_nil_of_length_eq_zero (by omega)
  rfl
 | n+1,l,h=>by
  unfold vB Lib.validGoD
  by_cases hl:l=[]
  ·rw [if_pos hl,if_pos hl]
  ·rw [if_neg hl,if_neg hl]
   have hp:=width_pos l
   have hw:=Lib.decodeL_le l hl
   rw [vB_valid n _ (by rw [List.length_drop];omega)]
theorem valid_is (l:List UInt8):Lib.validD l=validU l:=(vB_valid l.length l (Nat.le_refl _)).symm
theorem valC:ValC TW validU where
 nx:=fun h hn=>⟨h.1.nx hn,h.2.1.nx hn,Utf8Tabs_below h.2.2 hn⟩
 chkB:=fun w Sv x A ty k hT hs hx hA hk=>chkB_any w Sv x A ty k hT.1 hT.2.1 hs hx hA hk
 chkE:=fun w Sv x A ms hT hs hx hA hid=>chkE_any w Sv x A ms hT.1 hT.2.1 hs hx hA hid
 chkS:=fun w Sv x A K fs hT hs hx hA hid hI=>chkS_any w Sv x A K fs hT.1 hT.2.1 hs hx hA hid hI
 fld:=fun w Sv x A K nm fl fs hT hs hf hx hA hid hI=>fields_any w Sv x A K nm fl fs hT.1 hT.2.1 hs hf hx hA hid hI
 str:=fun w Sv _ hs=>struct_any w Sv hs
 knd:=fun w Sv K fs hT hs=>kind_any w Sv K fs hT.1 hT.2.1 hs
 val:=fun w b hT hb=>by rw [← valid_is];exact valid_any w b hb hT.2.2
end Go.Proofs.YtnfelopknfdpfaaDoor
namespace Go.Proofs.YtnfelopknfdpfaaDoor
open Go.RowKit
theorem cells_of_strs {H:Type} {enc:TypeId×Value→H} {P:Program} {w:World} {base:Nat} {sp:Nat→Bool} {held:Bool} {fuel:Nat} {t e:TypeId} {n:Nat} {cs:List Value} {zs:List (List UInt8)} {p:List MemPlace}
  (ht:P.underlying t=some (.array n e)) (he:P.underlying e=some .string) (hce:P.cellsOf e=1) (hct:P.cellsOf t=n)
  (h:DataW.trod enc P w base sp held fuel t cs=some (.agg (zs.map fun z=>.lit (.string z)),p)):cs=zs.map fun z=>Value.string ⟨z.toArray⟩:=by
 cases fuel with
 | zero=>simp [DataW.trod] at h
 | succ fuel =>
  simp only [DataW.trod,ht,hce,hct,Nat.mul_one] at h
  split at h
  ·rename_i hl
   obtain ⟨xs,hm,hx⟩:=Option.map_eq_some_iff.1 h
   have hxs:xs.map (·.1)=zs.map fun z=>(DataW.lit (.string z):DataW H):=by
    have:=congrArg Prod.fst hx
    simpa using this
   have hxl:xs.length=n:=by simpa using Lib.mapM_length hm
   have hzl:zs.length=n:=by
    have:=congrArg List.length hxs
    simp at this
    omega
   apply List.ext_getElem?
   intro i
   by_cases hi:i<n
   ·obtain ⟨b,hb,hf⟩:=Lib.mapM_at hm i i (by simp [hi])
    obtain ⟨z,hc,hz,_⟩:=DataW.trod_string he hf
    have h1:cs[i]? = some (.string z):=by
     have:=congrArg (·[0]?) hc
     simpa [List.getElem?_take,List.getElem?_drop] using this
    have h2:(xs.map (·.1))[i]? = some (DataW.lit (.string z.data.toList):DataW H):=by simp [hb,hz]
    rw [hxs] at h2
    simp only [List.getElem?_map,Option.map_eq_some_iff,DataW.lit.injEq,Lit.string.injEq] at h2
    obtain ⟨z',hz',he'⟩:=h2
    simp [h1,hz',he']
   ·rw [List.getElem?_eq_none (by omega),List.getElem?_eq_none (by simp;omega)]
  ·cases h
abbrev vLaid : List (String × DataW Unit) := ("unicode/utf8.acceptRanges", Rows.laid_unicode_utf8_acceptRanges) :: ("assayer/kind.words", .agg (((List.range 17).map wordK).map fun z => .lit (.string z))) :: ("unicode/utf8.first", Rows.laid_unicode_utf8_first) :: []
theorem tabv_of {W:World} (h:laidMet Tryd.prog vLaid W):TabK W:=by
 obtain ⟨ps,hl,-⟩:=h
 obtain ⟨_,_,_,_,_,_,_,_,_,_,hl2,_⟩:=hl
 obtain ⟨g',t',cs,fuel,p,q,hg',ht',hvar,hd,_,_⟩:=hl2
 obtain rfl := Option.some.inj ((show Tryd.prog.globalNamed "assayer/kind.words" = some 2 by kernel_rfl).symm.trans hg')
 obtain rfl:=Option.some.inj ((show (Tryd.prog.globals[2]?).map (·.type)=some 124 by kernel_rfl).symm.trans ht')
 have hcs:=cells_of_strs Tryd.underlying124 Tryd.underlying9 (by kernel_rfl) (by kernel_rfl) hd
 unfold World.var? at hvar
 rw [show Tryd.prog.globalNamed "assayer/kind.words" = some 2 by kernel_rfl] at hvar
 simp only [Option.bind_some] at hvar
 cases hh:W.heap[2]? with
 | none=>simp [hh] at hvar
 | some o =>
  cases o with
  | cells c t fr =>
   simp [hh] at hvar
   refine ⟨t,fr,?_⟩
   rw [hh]
   have:c=kwV:=by
    rw [hvar]
    apply Array.ext'
    rw [hcs]
    rfl
   rw [this]
  | _=>simp [hh] at hvar
theorem u8_first:(Rows.laid_unicode_utf8_first:DataW Unit)=Lib.firstData:=by kernel_rfl
theorem u8_accept:(Rows.laid_unicode_utf8_acceptRanges:DataW Unit)=Lib.acceptData:=by kernel_rfl
theorem u8_of {W:World} (h:laidMet Tryd.prog vLaid W):U8W W:=by
 have h1 := Lib.laidMet.reads h (n := "unicode/utf8.first") (d := Rows.laid_unicode_utf8_first) (by simp [vLaid])
 have h2 := Lib.laidMet.reads h (n := "unicode/utf8.acceptRanges") (d := Rows.laid_unicode_utf8_acceptRanges) (by simp [vLaid])
 rw [u8_first] at h1
 rw [u8_accept] at h2
 exact utf8Tabs_of_readsT (U8Types.of196 Tryd.laysValid) ⟨by kernel_rfl,by kernel_rfl,by kernel_rfl,by kernel_rfl,by kernel_rfl,by kernel_rfl,by kernel_rfl⟩ h1 h2
theorem vtab {W:World} (hm:MaxC W) (h:laidMetH Tryd.prog vLaid W):TW W:=by
 rw [MakeChecks.laidMetH_plain _ _ _ (by kernel_rfl)] at h
 exact ⟨tabv_of h,hm,u8_of h⟩
variable {H:Type} {enc:TypeId×Value→H}
theorem returnsInHanded_laid_shaped {a:Assume} {C:Checked} {os:Os} {f:FuncId} {fn:Func} {s:ChangeSpec} {conds:List PathCond} {apart fresh handsOn again:Bool} {X:World→Array Value→Prop}
  (hX:∀ (w w':World) (args:Array Value),w.heap=w'.heap→X w args→X w' args)
  (own:ownKnob C.prog.godebug=none) (started:os.Started) (noInit:C.prog.inits.idxOf? f=none) (hfn:C.prog.funcs[f]? = some fn)
  (witness:∃ (w:World) (tape:Tape) (i:Input),w.os=os∧(w.forCall tape i).Shaped C.prog∧i.vars=[]∧Input.okWide C.prog (w.forCall tape i) .any w.heap.size f i ∧
   ((s.pre enc C.prog fn conds apart (w.forCall tape i).memory i.args∧X (w.forCall tape i).memory i.args)∧sizedMet enc C.prog fn (OpenSpec.ofChange s) apart (w.forCall tape i).memory i.args)∧a.holds C.prog (lone (Frame.enter C.prog f i.args .normal) [] (w.forCall tape i)))
  (contract:∀ (W:World) (base:Nat) (args:Array Value) (ds gs:List (DataW H)) (before:List MemPlace),
   (∀ (j:Nat) t v,fn.params[j]? = some t→args[j]? = some v→Value.okWide C.prog W .any base t v) →
   DataW.Whole enc C.prog fn.params.toList s.vars apart W args.toList ds gs before →
   conds.all (PathCond.test C.prog ⟨fn.params.toList,ds,s.plain.varTypes C.prog,gs⟩)=true →
   W.ShapedOpen C.prog→X W args →
   a.holds C.prog (lone (Frame.enter C.prog f args .normal) [] W) →
   Calls C.prog f args W fun e W'=>∃ v,e = .returned v∧s.post enc C.prog fn apart fresh handsOn again W args v W') :
  ReturnsInHanded a C os f .any (fun w args=>(s.pre enc C.prog fn conds apart w args∧X w args)∧sizedMet enc C.prog fn (OpenSpec.ofChange s) apart w args) (s.post enc C.prog fn apart fresh handsOn again):=by
 refine returnsInHanded_of_calls own started noInit witness ?_
 intro w tape i _ hsh _ hok hpre hholds
 obtain ⟨_,_,_,fn',hfn',_,_,_,_,hval⟩:=hok
 have e:fn'=fn:=Option.some.inj (hfn'.symm.trans hfn)
 subst e
 obtain ⟨⟨⟨ds,gs,before,hw,hc⟩,hx⟩,hz⟩:=hpre
 have hw':=DataW.Whole.of_heap (w':=w.forCall tape i) (by rfl) hw
 refine (contract (w.forCall tape i) w.heap.size i.args ds gs before hval hw' hc hsh (hX _ _ _ (by rfl) hx) hholds).mono fun e W' ⟨v,he,hp⟩=>?_
 subst he
 exact ChangeSpec.post_blind hp
end Go.Proofs.YtnfelopknfdpfaaDoor
namespace Go.Proofs.YtnfelopknfdpfaaDoor
open Go.RowKit
theorem ValueRanges_walk (n:Int) (W:World) (hT:TW W) (h1 : -9223372036854775808≤n) (h2:n≤9223372036854775807) :
  Calls Tryd.prog 3 #[.int .i64 n] W fun e w'=>e = .returned (.bool true)∧Below W.heap.size W w' :=
 ValueRanges_of valC (by decide) (by decide) n W hT h1 h2
theorem ValueGo_walk (b:ByteArray) (W:World) (hT:TW W) (h1:b.size≤maxLen) :
  Calls Tryd.prog 4 #[.string b] W fun e w'=>e = .returned (.bool true)∧Below W.heap.size W w':=by
 have h:=ValueGo_of valC b.data.toList W hT
 have e:(⟨b.data.toList.toArray⟩:ByteArray)=b:=by cases b;simp
 rw [e] at h
 exact h
end Go.Proofs.YtnfelopknfdpfaaDoor
namespace Go.Proofs.YtnfelopknfdpfaaDoor
open Go.RowKit
theorem ValueUnions_walk (A:Option Addr) (l:List UInt8) (c:Nat) (k:Int) (W:World) (hT:TW W) (hr:Rd bv W A l) (h1:l.length≤c) (h2:c≤maxLen) (k1:0≤k) (k2:k≤255) :
  Calls Tryd.prog 5 #[.slice A l.length c,.int .u8 k] W fun e w'=>e = .returned (.bool true)∧Below W.heap.size W w':=by
 obtain ⟨j,rfl⟩:∃ j:Nat,k=(j:Int):=⟨k.toNat,by omega⟩
 exact ValueUnions_of valC (by decide) (by decide) W hT A c l hr j (by omega)
end Go.Proofs.YtnfelopknfdpfaaDoor
