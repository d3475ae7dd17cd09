/- The contracts of dec's numbers over one another. The contracts of dec's numbers over one another: less than one, the logarithm of 2, the nearest number (what is plain of it). The contracts of dec's numbers over one another: less than one, the logarithm of 2, the nearest number. The contracts of dec: the nearest binary64 to a fraction, to an integer; the number that bits are (what is plain of it). The contracts of dec: the nearest binary64 to a fraction, to an integer; the number that bits are. The contracts of dec's cutting of texts: a sign, digits. -/
import Derived.Test.YteclejplbphkpaaGreatG05
import Derived.Laws.Rows
import Derived.Test.YteclejplbphkpaaGreatG04
import Derived.Test.YteclejplbphkpaaGreatG00
import Derived.Test.YteclejplbphkpaaGreatProg
import Derived.Test.YteclejplbphkpaaGreatG01
import Derived.WalkSpells
import Derived.Deep.QuietTactic
import Derived.BigQuiet
import Derived.Lib.Strings
set_option linter.unusedVariables false
set_option linter.unusedSimpArgs false
set_option linter.unnecessarySimpa false
namespace Go.Proofs.YteclejplbphkpaaGreat
open Go.RowKit
set_option maxRecDepth 100000 in
set_option maxHeartbeats 1600000 in
theorem timesTen_any (r:Value) (x y j:Nat) (n:Int) (w:World) (h:Ra w r x y j) (hj:j≤100000) (hn1 : -1000≤n) (hn2:n≤1000) :
  Calls Tryz.prog 81 #[r,.int .i64 n] w fun e w'=>∃ r',e = .returned r'∧Ra w' r' (x * 10 ^ n.toNat) (y * 10 ^ (-n).toNat) (j+4 * n.natAbs)∧Nx w w':=by
 obtain ⟨v,u,rfl,hv,hu,hx,hy⟩:=h
 obtain ⟨Av,lv,cv,rfl⟩:=hv.sl
 obtain ⟨Au,lu,cu,rfl⟩:=hu.sl
 by_cases hneg:n<0
 ·have b1:decide (n<0)=true:=decide_eq_true hneg
  obtain ⟨k,hk,hk2⟩:∃ k:Nat,-n=(k:Int)∧n.natAbs=k:=⟨n.natAbs,by omega,rfl⟩
  have hk1:(k:Int)≤1000:=by omega
  have hwr:IntKind.i64.wrap (k:Int)=(k:Int):=wrap64 _ (by omega) (by omega)
  have HK:=Lib.hid hk2
  have hres:Hid (n.toNat=0∧(-n).toNat=k):=⟨by omega,by omega⟩
  clear hk2 hneg
  obtain ⟨g,hg⟩:∃ g,w.heap.size=g:=⟨_,rfl⟩
  go_enter Tryz.func81,Tryz.ntmps81
  go_wp2_with fail
  generalize hW:((w.alloc (Obj.cells #[.slice Av lv cv,.slice Au lu cu] _)).alloc _)=W
  have hN:Nx w W:=by rw [← hW];exact Nx.al (nx0 _ _) _
  have hB1:Blk W g g #[.slice Av lv cv,.slice Au lu cu] 125:=by rw [← hW,← hg];exact (Blk.new w _ _).alloc _
  have hB2:Blk W g (g+1) #[.slice none 0 0,.slice none 0 0] 125:=by
   rw [← hW,← hg]
   exact ⟨by simp,by rw [show w.heap.size+1=(w.alloc (Obj.cells #[.slice Av lv cv,.slice Au lu cu] 125)).heap.size from by simp];exact heap_alloc_new _ _⟩
  have q0:∀ x:Gr W,x.1.cell? ⟨g,0,none⟩=some (.slice Av lv cv):=fun x=>(hB1.below x.2).cell 0
  have q1:∀ x:Gr W,x.1.cell? ⟨g,1,none⟩=some (.slice Au lu cu):=fun x=>(hB1.below x.2).cell 1
  refine E.wp_region_hyb (st:=9) [(0,true),(1,true),(2,true),(3,true),(4,true),(5,true),(6,false),(7,false),(8,true),(9,false)] rfl (by kernel_rfl) ?_
  iterate 6 (refine E.hyb_calm rfl (fun K hK=>?_);go_simp;refine hK _ ?_;clear hK K)
  refine E.hyb_alone rfl (fun w1 hn1 K hK=>?_)
  go_simp
  refine (ten_any k _ (by omega)).mono ?_;rintro e w2 ⟨v2,rfl,hv2,hb2⟩
  refine hK _ _ (.inr hb2) ?_
  clear hK K
  refine E.hyb_alone rfl (fun w3 hn3 K hK=>?_)
  go_simp
  have hb13:Nx W w3:=nx (nx hn1 hb2) hn3
  refine (mul_n _ v2 y (10 ^ k) KB _ ((hu.below (nx hN hb13)).few hy (by omega)) ((hv2.below hn3).few (by rw [← Nat.one_mul (10 ^ k)];exact ten_two' 1 1 k (by decide)) (by omega)) KB_le).mono ?_;rintro e w4 ⟨v4,rfl,hv4,hb4⟩
  obtain ⟨A4,l4,c4,rfl⟩:=hv4.sl
  refine hK _ _ (.inr hb4) ?_
  clear hK K
  iterate 1 (refine E.hyb_calm rfl (fun K hK=>?_);go_simp;refine hK _ ?_;clear hK K)
  refine E.hyb_alone rfl (fun w5 hn5 K hK=>?_)
  have hW5:Nx W w5:=nx (nx hb13 hb4) hn5
  have hB5:=hB2.below hW5
  have c0:w5.cell? ⟨g+1,0,none⟩=some (.slice none 0 0):=hB5.cell 0
  have c1:w5.cell? ⟨g+1,1,none⟩=some (.slice none 0 0):=hB5.cell 1
  have f0:=hB5.free 0
  have f1:=hB5.free 1
  have nu:NoU #[.slice none 0 0,.slice none 0 0]:=two_slices _ _ _ _ _ _
  go_simp
  refine hK _ _ (.inl rfl) ?_
  clear hK K
  have hB6:=(hB5.put 0 (.slice Av lv cv)).put 1 (.slice A4 l4 c4)
  have hN6:Nx w ((w5.setCell ⟨g+1,0,none⟩ (.slice Av lv cv)).setCell ⟨g+1,1,none⟩ (.slice A4 l4 c4)):=((Nx.trans hN hW5).put' (by omega) 0 _).put' (by omega) 1 _
  have hv6:=((hv4.below hn5).put hB5 nu 0 (.slice Av lv cv)).put (hB5.put 0 (.slice Av lv cv)) (two_slices _ _ _ _ _ _) 1 (.slice A4 l4 c4)
  generalize hW6:(w5.setCell ⟨g+1,0,none⟩ (.slice Av lv cv)).setCell ⟨g+1,1,none⟩ (.slice A4 l4 c4)=W6 at *
  refine E.hyb_nil (fun w7 hn7=>?_)
  have hB7:=hB6.below hn7
  clear c0 c1 f0 f1 q0 q1
  go_wp2_with fail
  try simp only [Exit.inBlock,Exit.then]
  refine bodyPost_ret (results_cell_row rfl _ _ (g+1) _ _ _ _ rfl hB7.2 Tryz.underlying125 rfl (by kernel_rfl)) rfl ?_
  refine ⟨_,rfl,⟨_,_,rfl,(hv.below (Nx.trans hN6 hn7)).cast ?_,(hv6.below hn7).cast ?_,?_,?_⟩,Nx.trans hN6 hn7⟩
  ·rw [hres.out.1,Nat.pow_zero,Nat.mul_one]
  ·rw [hres.out.2]
  ·rw [hres.out.1,Nat.pow_zero,Nat.mul_one];exact more_two _ _ _ hx
  ·rw [hres.out.2,HK.out];exact ten_two' _ _ _ hy
 ·have b1:decide (n<0)=false:=decide_eq_false hneg
  obtain ⟨k,rfl⟩:=Int.eq_ofNat_of_zero_le (a:=n) (by omega)
  have HK:Hid ((k:Int).natAbs=k):=Int.natAbs_natCast k
  have hres:Hid ((k:Int).toNat=k∧(-(k:Int)).toNat=0):=⟨by omega,by omega⟩
  clear hneg
  obtain ⟨g,hg⟩:∃ g,w.heap.size=g:=⟨_,rfl⟩
  go_enter Tryz.func81,Tryz.ntmps81
  go_wp2_with fail
  generalize hW:((w.alloc (Obj.cells #[.slice Av lv cv,.slice Au lu cu] _)).alloc _)=W
  have hN:Nx w W:=by rw [← hW];exact Nx.al (nx0 _ _) _
  have hB1:Blk W g g #[.slice Av lv cv,.slice Au lu cu] 125:=by rw [← hW,← hg];exact (Blk.new w _ _).alloc _
  have hB2:Blk W g (g+1) #[.slice none 0 0,.slice none 0 0] 125:=by
   rw [← hW,← hg]
   exact ⟨by simp,by rw [show w.heap.size+1=(w.alloc (Obj.cells #[.slice Av lv cv,.slice Au lu cu] 125)).heap.size from by simp];exact heap_alloc_new _ _⟩
  have q0:∀ x:Gr W,x.1.cell? ⟨g,0,none⟩=some (.slice Av lv cv):=fun x=>(hB1.below x.2).cell 0
  have q1:∀ x:Gr W,x.1.cell? ⟨g,1,none⟩=some (.slice Au lu cu):=fun x=>(hB1.below x.2).cell 1
  refine E.wp_region_hyb (st:=8) [(0,true),(1,true),(2,true),(5,true),(6,true),(3,false),(4,false),(7,true),(8,false)] rfl (by kernel_rfl) ?_
  iterate 5 (refine E.hyb_calm rfl (fun K hK=>?_);go_simp;refine hK _ ?_;clear hK K)
  refine E.hyb_alone rfl (fun w1 hn1 K hK=>?_)
  go_simp
  refine (ten_any k _ (by omega)).mono ?_;rintro e w2 ⟨v2,rfl,hv2,hb2⟩
  refine hK _ _ (.inr hb2) ?_
  clear hK K
  refine E.hyb_alone rfl (fun w3 hn3 K hK=>?_)
  go_simp
  have hb13:Nx W w3:=nx (nx hn1 hb2) hn3
  refine (mul_n _ v2 x (10 ^ k) KB _ ((hv.below (nx hN hb13)).few hx (by omega)) ((hv2.below hn3).few (by rw [← Nat.one_mul (10 ^ k)];exact ten_two' 1 1 k (by decide)) (by omega)) KB_le).mono ?_;rintro e w4 ⟨v4,rfl,hv4,hb4⟩
  obtain ⟨A4,l4,c4,rfl⟩:=hv4.sl
  refine hK _ _ (.inr hb4) ?_
  clear hK K
  iterate 1 (refine E.hyb_calm rfl (fun K hK=>?_);go_simp;refine hK _ ?_;clear hK K)
  refine E.hyb_alone rfl (fun w5 hn5 K hK=>?_)
  have hW5:Nx W w5:=nx (nx hb13 hb4) hn5
  have hB5:=hB2.below hW5
  have c0:w5.cell? ⟨g+1,0,none⟩=some (.slice none 0 0):=hB5.cell 0
  have c1:w5.cell? ⟨g+1,1,none⟩=some (.slice none 0 0):=hB5.cell 1
  have f0:=hB5.free 0
  have f1:=hB5.free 1
  have nu:NoU #[.slice none 0 0,.slice none 0 0]:=two_slices _ _ _ _ _ _
  go_simp
  refine hK _ _ (.inl rfl) ?_
  clear hK K
  have hB6:=(hB5.put 0 (.slice A4 l4 c4)).put 1 (.slice Au lu cu)
  have hN6:Nx w ((w5.setCell ⟨g+1,0,none⟩ (.slice A4 l4 c4)).setCell ⟨g+1,1,none⟩ (.slice Au lu cu)):=((Nx.trans hN hW5).put' (by omega) 0 _).put' (by omega) 1 _
  have hv6:=((hv4.below hn5).put hB5 nu 0 (.slice A4 l4 c4)).put (hB5.put 0 (.slice A4 l4 c4)) (two_slices _ _ _ _ _ _) 1 (.slice Au lu cu)
  generalize hW6:(w5.setCell ⟨g+1,0,none⟩ (.slice A4 l4 c4)).setCell ⟨g+1,1,none⟩ (.slice Au lu cu)=W6 at *
  refine E.hyb_nil (fun w7 hn7=>?_)
  have hB7:=hB6.below hn7
  clear c0 c1 f0 f1 q0 q1
  go_wp2_with fail
  try simp only [Exit.inBlock,Exit.then]
  refine bodyPost_ret (results_cell_row rfl _ _ (g+1) _ _ _ _ rfl hB7.2 Tryz.underlying125 rfl (by kernel_rfl)) rfl ?_
  refine ⟨_,rfl,⟨_,_,rfl,(hv6.below hn7).cast ?_,(hu.below (Nx.trans hN6 hn7)).cast ?_,?_,?_⟩,Nx.trans hN6 hn7⟩
  ·rw [hres.out.1]
  ·rw [hres.out.2,Nat.pow_zero,Nat.mul_one]
  ·rw [hres.out.1,HK.out];exact ten_two' _ _ _ hx
  ·rw [hres.out.2,Nat.pow_zero,Nat.mul_one];exact more_two _ _ _ hy
set_option maxRecDepth 100000 in
set_option maxHeartbeats 1600000 in
theorem timesTwo_any (r:Value) (x y j:Nat) (n:Int) (w:World) (h:Ra w r x y j) (hj:j≤100000) (hn1 : -30000≤n) (hn2:n≤30000) :
  Calls Tryz.prog 96 #[r,.int .i64 n] w fun e w'=>∃ r',e = .returned r'∧Ra w' r' (x * 2 ^ n.toNat) (y * 2 ^ (-n).toNat) (j+n.natAbs)∧Nx w w':=by
 obtain ⟨v,u,rfl,hv,hu,hx,hy⟩:=h
 obtain ⟨Av,lv,cv,rfl⟩:=hv.sl
 obtain ⟨Au,lu,cu,rfl⟩:=hu.sl
 by_cases hneg:n<0
 ·have b1:decide (n<0)=true:=decide_eq_true hneg
  obtain ⟨k,hk,hk2⟩:∃ k:Nat,-n=(k:Int)∧n.natAbs=k:=⟨n.natAbs,by omega,rfl⟩
  have hk1:(k:Int)≤30000:=by omega
  have hwr:IntKind.i64.wrap (k:Int)=(k:Int):=wrap64 _ (by omega) (by omega)
  have HK:=Lib.hid hk2
  have hres:Hid (n.toNat=0∧(-n).toNat=k):=⟨by omega,by omega⟩
  clear hk2 hneg
  obtain ⟨g,hg⟩:∃ g,w.heap.size=g:=⟨_,rfl⟩
  go_enter Tryz.func96,Tryz.ntmps96
  go_wp2_with fail
  generalize hW:((w.alloc (Obj.cells #[.slice Av lv cv,.slice Au lu cu] _)).alloc _)=W
  have hN:Nx w W:=by rw [← hW];exact Nx.al (nx0 _ _) _
  have hB1:Blk W g g #[.slice Av lv cv,.slice Au lu cu] 125:=by rw [← hW,← hg];exact (Blk.new w _ _).alloc _
  have hB2:Blk W g (g+1) #[.slice none 0 0,.slice none 0 0] 125:=by
   rw [← hW,← hg]
   exact ⟨by simp,by rw [show w.heap.size+1=(w.alloc (Obj.cells #[.slice Av lv cv,.slice Au lu cu] 125)).heap.size from by simp];exact heap_alloc_new _ _⟩
  have q0:∀ x:Gr W,x.1.cell? ⟨g,0,none⟩=some (.slice Av lv cv):=fun x=>(hB1.below x.2).cell 0
  have q1:∀ x:Gr W,x.1.cell? ⟨g,1,none⟩=some (.slice Au lu cu):=fun x=>(hB1.below x.2).cell 1
  refine E.wp_region_hyb (st:=8) [(0,true),(1,true),(2,true),(3,true),(4,true),(5,true),(6,false),(7,true),(8,false)] rfl (by kernel_rfl) ?_
  iterate 6 (refine E.hyb_calm rfl (fun K hK=>?_);go_simp;refine hK _ ?_;clear hK K)
  refine E.hyb_alone rfl (fun w3 hn3 K hK=>?_)
  go_simp
  have hb13:Nx W w3:=hn3
  refine (shl_n _ y KB (k:Int) _ ((hu.below (nx hN hb13)).few hy (by omega)) KB_le (by omega) (by omega)).mono ?_;rintro e w4 ⟨v4,rfl,hv4,hb4⟩
  have hv4:=hv4.cast (show shV y (k:Int)=y * 2 ^ k from by unfold shV;rw [if_pos (by omega),Int.toNat_natCast])
  obtain ⟨A4,l4,c4,rfl⟩:=hv4.sl
  refine hK _ _ (.inr hb4) ?_
  clear hK K
  iterate 1 (refine E.hyb_calm rfl (fun K hK=>?_);go_simp;refine hK _ ?_;clear hK K)
  refine E.hyb_alone rfl (fun w5 hn5 K hK=>?_)
  have hW5:Nx W w5:=nx (nx hb13 hb4) hn5
  have hB5:=hB2.below hW5
  have c0:w5.cell? ⟨g+1,0,none⟩=some (.slice none 0 0):=hB5.cell 0
  have c1:w5.cell? ⟨g+1,1,none⟩=some (.slice none 0 0):=hB5.cell 1
  have f0:=hB5.free 0
  have f1:=hB5.free 1
  have nu:NoU #[.slice none 0 0,.slice none 0 0]:=two_slices _ _ _ _ _ _
  go_simp
  refine hK _ _ (.inl rfl) ?_
  clear hK K
  have hB6:=(hB5.put 0 (.slice Av lv cv)).put 1 (.slice A4 l4 c4)
  have hN6:Nx w ((w5.setCell ⟨g+1,0,none⟩ (.slice Av lv cv)).setCell ⟨g+1,1,none⟩ (.slice A4 l4 c4)):=((Nx.trans hN hW5).put' (by omega) 0 _).put' (by omega) 1 _
  have hv6:=((hv4.below hn5).put hB5 nu 0 (.slice Av lv cv)).put (hB5.put 0 (.slice Av lv cv)) (two_slices _ _ _ _ _ _) 1 (.slice A4 l4 c4)
  generalize hW6:(w5.setCell ⟨g+1,0,none⟩ (.slice Av lv cv)).setCell ⟨g+1,1,none⟩ (.slice A4 l4 c4)=W6 at *
  refine E.hyb_nil (fun w7 hn7=>?_)
  have hB7:=hB6.below hn7
  clear c0 c1 f0 f1 q0 q1
  go_wp2_with fail
  try simp only [Exit.inBlock,Exit.then]
  refine bodyPost_ret (results_cell_row rfl _ _ (g+1) _ _ _ _ rfl hB7.2 Tryz.underlying125 rfl (by kernel_rfl)) rfl ?_
  refine ⟨_,rfl,⟨_,_,rfl,(hv.below (Nx.trans hN6 hn7)).cast ?_,(hv6.below hn7).cast ?_,?_,?_⟩,Nx.trans hN6 hn7⟩
  ·rw [hres.out.1,Nat.pow_zero,Nat.mul_one]
  ·rw [hres.out.2]
  ·rw [hres.out.1,Nat.pow_zero,Nat.mul_one];exact more_two _ _ _ hx
  ·rw [hres.out.2,HK.out];exact two_two' _ _ _ hy
 ·have b1:decide (n<0)=false:=decide_eq_false hneg
  obtain ⟨k,rfl⟩:=Int.eq_ofNat_of_zero_le (a:=n) (by omega)
  have HK:Hid ((k:Int).natAbs=k):=Int.natAbs_natCast k
  have hres:Hid ((k:Int).toNat=k∧(-(k:Int)).toNat=0):=⟨by omega,by omega⟩
  clear hneg
  obtain ⟨g,hg⟩:∃ g,w.heap.size=g:=⟨_,rfl⟩
  go_enter Tryz.func96,Tryz.ntmps96
  go_wp2_with fail
  generalize hW:((w.alloc (Obj.cells #[.slice Av lv cv,.slice Au lu cu] _)).alloc _)=W
  have hN:Nx w W:=by rw [← hW];exact Nx.al (nx0 _ _) _
  have hB1:Blk W g g #[.slice Av lv cv,.slice Au lu cu] 125:=by rw [← hW,← hg];exact (Blk.new w _ _).alloc _
  have hB2:Blk W g (g+1) #[.slice none 0 0,.slice none 0 0] 125:=by
   rw [← hW,← hg]
   exact ⟨by simp,by rw [show w.heap.size+1=(w.alloc (Obj.cells #[.slice Av lv cv,.slice Au lu cu] 125)).heap.size from by simp];exact heap_alloc_new _ _⟩
  have q0:∀ x:Gr W,x.1.cell? ⟨g,0,none⟩=some (.slice Av lv cv):=fun x=>(hB1.below x.2).cell 0
  have q1:∀ x:Gr W,x.1.cell? ⟨g,1,none⟩=some (.slice Au lu cu):=fun x=>(hB1.below x.2).cell 1
  refine E.wp_region_hyb (st:=7) [(0,true),(1,true),(2,true),(4,true),(5,true),(3,false),(6,true),(7,false)] rfl (by kernel_rfl) ?_
  iterate 5 (refine E.hyb_calm rfl (fun K hK=>?_);go_simp;refine hK _ ?_;clear hK K)
  refine E.hyb_alone rfl (fun w3 hn3 K hK=>?_)
  go_simp
  have hb13:Nx W w3:=hn3
  refine (shl_n _ x KB (k:Int) _ ((hv.below (nx hN hb13)).few hx (by omega)) KB_le (by omega) (by omega)).mono ?_;rintro e w4 ⟨v4,rfl,hv4,hb4⟩
  have hv4:=hv4.cast (show shV x (k:Int)=x * 2 ^ k from by unfold shV;rw [if_pos (by omega),Int.toNat_natCast])
  obtain ⟨A4,l4,c4,rfl⟩:=hv4.sl
  refine hK _ _ (.inr hb4) ?_
  clear hK K
  iterate 1 (refine E.hyb_calm rfl (fun K hK=>?_);go_simp;refine hK _ ?_;clear hK K)
  refine E.hyb_alone rfl (fun w5 hn5 K hK=>?_)
  have hW5:Nx W w5:=nx (nx hb13 hb4) hn5
  have hB5:=hB2.below hW5
  have c0:w5.cell? ⟨g+1,0,none⟩=some (.slice none 0 0):=hB5.cell 0
  have c1:w5.cell? ⟨g+1,1,none⟩=some (.slice none 0 0):=hB5.cell 1
  have f0:=hB5.free 0
  have f1:=hB5.free 1
  have nu:NoU #[.slice none 0 0,.slice none 0 0]:=two_slices _ _ _ _ _ _
  go_simp
  refine hK _ _ (.inl rfl) ?_
  clear hK K
  have hB6:=(hB5.put 0 (.slice A4 l4 c4)).put 1 (.slice Au lu cu)
  have hN6:Nx w ((w5.setCell ⟨g+1,0,none⟩ (.slice A4 l4 c4)).setCell ⟨g+1,1,none⟩ (.slice Au lu cu)):=((Nx.trans hN hW5).put' (by omega) 0 _).put' (by omega) 1 _
  have hv6:=((hv4.below hn5).put hB5 nu 0 (.slice A4 l4 c4)).put (hB5.put 0 (.slice A4 l4 c4)) (two_slices _ _ _ _ _ _) 1 (.slice Au lu cu)
  generalize hW6:(w5.setCell ⟨g+1,0,none⟩ (.slice A4 l4 c4)).setCell ⟨g+1,1,none⟩ (.slice Au lu cu)=W6 at *
  refine E.hyb_nil (fun w7 hn7=>?_)
  have hB7:=hB6.below hn7
  clear c0 c1 f0 f1 q0 q1
  go_wp2_with fail
  try simp only [Exit.inBlock,Exit.then]
  refine bodyPost_ret (results_cell_row rfl _ _ (g+1) _ _ _ _ rfl hB7.2 Tryz.underlying125 rfl (by kernel_rfl)) rfl ?_
  refine ⟨_,rfl,⟨_,_,rfl,(hv6.below hn7).cast ?_,(hu.below (Nx.trans hN6 hn7)).cast ?_,?_,?_⟩,Nx.trans hN6 hn7⟩
  ·rw [hres.out.1]
  ·rw [hres.out.2,Nat.pow_zero,Nat.mul_one]
  ·rw [hres.out.1,HK.out];exact two_two' _ _ _ hx
  ·rw [hres.out.2,Nat.pow_zero,Nat.mul_one];exact more_two _ _ _ hy
end Go.Proofs.YteclejplbphkpaaGreat
namespace Go.Proofs.YteclejplbphkpaaGreat
open Go.RowKit
def GE2 (x y:Nat) (p:Int):Prop:=y * 2 ^ p.toNat≤x * 2 ^ (-p).toNat
theorem blen_pos (x:Nat) (h:x≠0):1≤blen x∧2 ^ (blen x - 1)≤x∧x<2 ^ blen x:=by
 unfold blen
 rw [if_neg h]
 exact ⟨by omega,by simpa using Nat.log2_self_le h,(Nat.log2_lt h).1 (by omega)⟩
theorem blen_lt (x j:Nat) (h:x<2 ^ j):blen x≤j:=by
 unfold blen
 split
 ·omega
 ·rename_i h0
  have:=(Nat.log2_lt h0).2 h
  omega
theorem ge2_iff (x y:Nat) (p:Int) (a b:Nat) (h:(a:Int) - b=p):GE2 x y p↔y * 2 ^ a≤x * 2 ^ b:=by
 unfold GE2
 rcases Int.le_total 0 p with h0 | h0
 ·obtain ⟨n,rfl⟩:=Int.eq_ofNat_of_zero_le h0
  obtain rfl:a=b+n:=by omega
  rw [show ((n:Int)).toNat=n from by omega,show (-(n:Int)).toNat=0 from by omega,Nat.pow_zero,Nat.mul_one,Nat.pow_add,Nat.mul_comm (2 ^ b),← Nat.mul_assoc]
  exact (Nat.mul_le_mul_right_iff (Nat.pow_pos (by decide))).symm
 ·obtain ⟨n,hn⟩:=Int.eq_ofNat_of_zero_le (a:=-p) (by omega)
  obtain rfl:b=a+n:=by omega
  rw [show p.toNat=0 from by omega,show (-p).toNat=n from by omega,Nat.pow_zero,Nat.mul_one,Nat.pow_add,Nat.mul_comm (2 ^ a) (2 ^ n),← Nat.mul_assoc]
  exact (Nat.mul_le_mul_right_iff (Nat.pow_pos (by decide))).symm
theorem ge2_len (x y:Nat) (hx:x≠0) (hy:y≠0):GE2 x y ((blen x:Int) - blen y - 1)∧¬ GE2 x y ((blen x:Int) - blen y+1):=by
 obtain ⟨a1,a2,a3⟩:=blen_pos x hx
 obtain ⟨b1,b2,b3⟩:=blen_pos y hy
 constructor
 ·rw [ge2_iff x y _ (blen x - 1) (blen y) (by omega)]
  calc y * 2 ^ (blen x - 1)≤2 ^ blen y * 2 ^ (blen x - 1):=Nat.mul_le_mul_right _ (by omega)
   _=2 ^ (blen x - 1) * 2 ^ blen y:=Nat.mul_comm _ _
   _≤x * 2 ^ blen y:=Nat.mul_le_mul_right _ a2
 ·rw [ge2_iff x y _ (blen x) (blen y - 1) (by omega),Nat.not_le]
  calc x * 2 ^ (blen y - 1)<2 ^ blen x * 2 ^ (blen y - 1):=Nat.mul_lt_mul_of_pos_right a3 (Nat.pow_pos (by decide))
   _=2 ^ (blen y - 1) * 2 ^ blen x:=Nat.mul_comm _ _
   _≤y * 2 ^ blen x:=Nat.mul_le_mul_right _ b2
end Go.Proofs.YteclejplbphkpaaGreat
namespace Go.Proofs.YteclejplbphkpaaGreat
open Go.RowKit
set_option maxRecDepth 100000 in
set_option maxHeartbeats 1600000 in
theorem below1_any (r:Value) (x y j:Nat) (w:World) (h:Ra w r x y j) (hj:j≤150000) :
  Calls Tryz.prog 103 #[r] w fun e w'=>e = .returned (.bool (decide (x<y)))∧Nx w w':=by
 obtain ⟨v,u,rfl,hv,hu,hx,hy⟩:=h
 obtain ⟨Av,lv,cv,rfl⟩:=hv.sl
 obtain ⟨Au,lu,cu,rfl⟩:=hu.sl
 obtain ⟨C,HC⟩:∃ C,Hid (cmpI x y=C):=⟨_,rfl⟩
 have hres:decide (C<0)=decide (x<y):=by
  rw [← HC.out];unfold cmpI
  by_cases h1:x<y
  ·rw [if_pos h1];simp [h1]
  ·rw [if_neg h1];split <;> simp [h1]
 have HR:=Lib.hid hres
 obtain ⟨b,hb⟩:∃ b,decide (C<0)=b:=⟨_,rfl⟩
 rw [← HR.out,hb]
 clear hres
 go_enter Tryz.func103,Tryz.ntmps103
 go_wp2_with fail
 have hn0:=nx0 w (Obj.cells #[Value.slice Av lv cv,Value.slice Au lu cu] 125)
 refine (cmp_n _ _ x y KB _ ((hv.below hn0).few hx hj) ((hu.below hn0).few hy hj) KB_le).mono ?_;rintro e w1 ⟨rfl,hw1⟩
 rw [HC.out]
 go_wp2_with fail
 go_ret
 exact ⟨rfl,nx hn0 hw1⟩
set_option maxRecDepth 100000 in
set_option maxHeartbeats 1600000 in
theorem log2_any (r:Value) (x y j:Nat) (w:World) (h:Ra w r x y j) (hj:j≤20000) (hx0:x≠0) (hy0:y≠0) :
  Calls Tryz.prog 95 #[r] w fun e w'=>∃ L:Int,e = .returned (.int .i64 L)∧Hid (GE2 x y L∧¬ GE2 x y (L+1))∧-(j:Int) - 1≤L∧L≤j∧Nx w w':=by
 have HX:=Lib.hid h
 obtain ⟨v,u,rfl,hv,hu,hx,hy⟩:=h
 obtain ⟨Av,lv,cv,rfl⟩:=hv.sl
 obtain ⟨Au,lu,cu,rfl⟩:=hu.sl
 obtain ⟨bx,HBX⟩:∃ b,Hid (blen x=b):=⟨_,rfl⟩
 obtain ⟨bYl,HBY⟩:∃ b,Hid (blen y=b):=⟨_,rfl⟩
 have hbx:bx≤j:=by rw [← HBX.out];exact blen_lt _ _ hx
 have hby:bYl≤j:=by rw [← HBY.out];exact blen_lt _ _ hy
 have hlen:=ge2_len x y hx0 hy0
 rw [HBX.out,HBY.out] at hlen
 have HLEN:=Lib.hid hlen
 clear hlen
 obtain ⟨n,hn⟩:∃ n:Int,(bx:Int) - (bYl:Int)=n:=⟨_,rfl⟩
 obtain ⟨m,hm⟩:∃ m:Int,-n=m:=⟨_,rfl⟩
 have hwr:IntKind.i64.wrap m=m:=wrap64 _ (by omega) (by omega)
 have hwn:IntKind.i64.wrap n=n:=wrap64 _ (by omega) (by omega)
 have hn1' : -20000≤n:=by omega
 have hn2':n≤20000:=by omega
 obtain ⟨b,HB⟩:∃ b,Hid (decide (x * 2 ^ m.toNat<y * 2 ^ (-m).toNat)=b):=⟨_,rfl⟩
 have HG:Hid (b=true↔¬ GE2 x y n):=by
  unfold Hid GE2;rw [← HB.out,decide_eq_true_iff,Nat.not_le,← hm,Int.neg_neg]
 have hmb:m.natAbs≤20000:=by omega
 have hbn : -(j:Int)≤n∧n≤j:=by omega
 have HBN:=Lib.hid hbn
 clear hbn
 have HV:=Lib.hid hv
 have HU:=Lib.hid hu
 obtain ⟨g,hg⟩:∃ g,w.heap.size=g:=⟨_,rfl⟩
 go_enter Tryz.func95,Tryz.ntmps95
 go_wp2_with fail
 generalize hW:(w.alloc (Obj.cells #[.slice Av lv cv,.slice Au lu cu] _))=W
 have hN:Nx w W:=by rw [← hW];exact nx0 _ _
 have hB1:Blk W g g #[.slice Av lv cv,.slice Au lu cu] 125:=by rw [← hW,← hg];exact Blk.new w _ _
 have q0:∀ x:Gr W,x.1.cell? ⟨g,0,none⟩=some (.slice Av lv cv):=fun x=>(hB1.below x.2).cell 0
 have q1:∀ x:Gr W,x.1.cell? ⟨g,1,none⟩=some (.slice Au lu cu):=fun x=>(hB1.below x.2).cell 1
 refine wp_region_hyb [(0,true),(1,true),(3,true),(4,true),(2,false),(5,false),(6,true),(7,true)] rfl (by kernel_rfl) ?_
 iterate 4 (refine hyb_calm rfl (fun K hK=>?_);go_simp;refine hK _ ?_;clear hK K)
 refine hyb_alone rfl (fun w1 hn1 K hK=>?_)
 go_simp
 refine (bits_n _ x KB _ ((hv.below (Nx.trans hN hn1)).few hx (by omega)) KB_le).mono ?_;rintro e w' ⟨rfl,rfl⟩
 rw [HBX.out]
 refine hK _ _ (Nx.refl _) ?_
 clear hK K
 refine hyb_alone rfl (fun w2 hn2 K hK=>?_)
 go_simp
 refine (bits_n _ y KB _ ((hu.below (Nx.trans (Nx.trans hN hn1) hn2)).few hy (by omega)) KB_le).mono ?_;rintro e w' ⟨rfl,rfl⟩
 rw [HBY.out]
 refine hK _ _ (Nx.refl _) ?_
 clear hK K
 iterate 2 (refine hyb_calm rfl (fun K hK=>?_);go_simp;refine hK _ ?_;clear hK K)
 refine hyb_nil (fun w3 hn3=>?_)
 have hN3:Nx w w3:=Nx.trans (Nx.trans (Nx.trans hN hn1) hn2) hn3
 have hB3:=hB1.below (Nx.trans (Nx.trans hn1 hn2) hn3)
 have c0:w3.cell? ⟨g,0,none⟩=some (.slice Av lv cv):=hB3.cell 0
 have c1:w3.cell? ⟨g,1,none⟩=some (.slice Au lu cu):=hB3.cell 1
 clear q0 q1
 go_wp2_with fail
 refine (timesTwo_any _ x y j m _ (HX.out.below hN3) (by omega) (by omega) (by omega)).mono ?_;rintro e w4 ⟨r4,rfl,hR4,hw4⟩
 obtain ⟨v4,u4,rfl,hv4,hu4,hx4,hy4⟩:=hR4
 have HR4:=Lib.hid (show Ra w4 (.agg #[v4,u4]) _ _ _ from ⟨v4,u4,rfl,hv4,hu4,hx4,hy4⟩)
 clear hv4 hu4 hx4 hy4
 go_wp2_with fail
 refine (below1_any _ _ _ _ _ HR4.out (by omega)).mono ?_;rintro e w5 ⟨rfl,hw5⟩
 rw [HB.out]
 have hN5:Nx w w5:=Nx.trans (Nx.trans hN3 hw4) hw5
 have hl:=HLEN.out
 rw [hn] at hl
 have HL:=Lib.hid hl
 clear hl hn hm
 cases b
 ·go_wp2_with fail
  go_ret
  refine ⟨n,rfl,⟨?_,HL.out.2⟩,by have:=HBN.out;omega,HBN.out.2,hN5⟩
  have:=HG.out
  simpa using this
 ·go_wp2_with fail
  go_ret
  refine ⟨n - 1,rfl,⟨HL.out.1,?_⟩,by have:=HBN.out;omega,by have:=HBN.out;omega,hN5⟩
  rw [Int.sub_add_cancel]
  have:=HG.out;simpa using this
set_option maxRecDepth 100000 in
set_option maxHeartbeats 1600000 in
theorem rounded_any (r:Value) (x y j:Nat) (w:World) (h:Ra w r x y j) (hj:j≤100000) (hy0:y≠0) (hq:rnd x y<18446744073709551616) :
  Calls Tryz.prog 97 #[r] w fun e w'=>e = .returned (.int .u64 (rnd x y:Nat))∧Nx w w':=by
 obtain ⟨v,u,rfl,hv,hu,hx,hy⟩:=h
 obtain ⟨Av,lv,cv,rfl⟩:=hv.sl
 obtain ⟨Au,lu,cu,rfl⟩:=hu.sl
 obtain ⟨q,HQ⟩:∃ q,Hid (x / y=q):=⟨_,rfl⟩
 obtain ⟨s,HS⟩:∃ q,Hid (x % y=q):=⟨_,rfl⟩
 obtain ⟨C,HC⟩:∃ C,Hid (cmpI (s * 2) y=C):=⟨_,rfl⟩
 have hsx:s<2 ^ j:=Nat.lt_of_le_of_lt (by rw [← HS.out];exact Nat.mod_le _ _) hx
 have hlo:=rnd_lo x y
 rw [HQ.out] at hlo
 have hq64:q<18446744073709551616:=by omega
 have hrn:rnd x y=if C=1∨C=0∧q % 2=1 then q+1 else q:=by
  unfold rnd
  rw [HQ.out,HS.out,← HC.out]
  unfold cmpI
  by_cases h1:s * 2<y
  ·rw [if_pos h1,if_neg (by omega),if_neg (by omega)]
  ·by_cases h2:y<s * 2
   ·rw [if_neg h1,if_pos h2,if_pos (by omega),if_pos (by omega)]
   ·rw [if_neg h1,if_neg h2]
    by_cases h3:q % 2=1
    ·rw [if_pos (by omega),if_pos (by omega)]
    ·rw [if_neg (by omega),if_neg (by omega)]
 have hcv:C=1∨C=0∨C = -1:=by
  rw [← HC.out];unfold cmpI;split
  ·exact .inr (.inr rfl)
  ·split
   ·exact .inl rfl
   ·exact .inr (.inl rfl)
 have HRN:=Lib.hid hrn
 have HQL:=Lib.hid hq
 have hmod:q % 18446744073709551616=q:=Nat.mod_eq_of_lt hq64
 have HM:=Lib.hid hmod
 have hq0:(q:Int)≤18446744073709551615:=by omega
 clear hrn hlo hmod hq hq64
 obtain ⟨g,hg⟩:∃ g,w.heap.size=g:=⟨_,rfl⟩
 go_enter Tryz.func97,Tryz.ntmps97
 go_wp2_with fail
 have hN:Nx w (w.alloc (Obj.cells #[.slice Av lv cv,.slice Au lu cu] 125)):=nx0 _ _
 have hB1:Blk (w.alloc (Obj.cells #[.slice Av lv cv,.slice Au lu cu] 125)) g g #[.slice Av lv cv,.slice Au lu cu] 125:=by rw [← hg];exact Blk.new w _ _
 refine (div_n _ _ x y KB _ ((hv.below hN).few hx (by omega)) ((hu.below hN).few hy (by omega)) KB_le).mono ?_;rintro e w1 ⟨vq,vr,ok,rfl,hdiv,hw1⟩
 unfold DivN at hdiv
 rw [if_neg hy0,HQ.out,HS.out] at hdiv
 obtain ⟨hvq,hvr,rfl⟩:=hdiv
 have hN1:=Nx.trans hN hw1
 have hB2:=hB1.below hw1
 have c0:w1.cell? ⟨g,0,none⟩=some (.slice Av lv cv):=hB2.cell 0
 have c1:w1.cell? ⟨g,1,none⟩=some (.slice Au lu cu):=hB2.cell 1
 obtain ⟨Aq,lq,cq,rfl⟩:=hvq.sl
 obtain ⟨Ar,lr,cr,rfl⟩:=hvr.sl
 go_wp2_with fail
 refine (low_n _ q 2 _ (hvq.num (by omega)) (by decide)).mono ?_;rintro e w' ⟨rfl,rfl⟩
 rw [HM.out]
 go_wp2_with fail
 have q0:∀ x:Gr w1,x.1.cell? ⟨g,0,none⟩=some (.slice Av lv cv):=fun x=>(hB2.below x.2).cell 0
 have q1:∀ x:Gr w1,x.1.cell? ⟨g,1,none⟩=some (.slice Au lu cu):=fun x=>(hB2.below x.2).cell 1
 refine wp_region_hyb [(0,true),(2,true),(3,true),(1,false),(4,false),(5,true)] rfl (by kernel_rfl) ?_
 iterate 3 (refine hyb_calm rfl (fun K hK=>?_);go_simp;refine hK _ ?_;clear hK K)
 refine hyb_alone rfl (fun w2 hn2 K hK=>?_)
 go_simp
 refine (shl_n _ s KB 1 _ ((hvr.below hn2).few hsx (by omega)) KB_le (by decide) (by decide)).mono ?_;rintro e w3 ⟨v3,rfl,hv3,hw3⟩
 have hv3:=hv3.cast (show shV s 1=s * 2 from rfl)
 refine hK _ _ hw3 ?_
 clear hK K
 refine hyb_alone rfl (fun w4 hn4 K hK=>?_)
 go_simp
 have hN4:Nx w w4:=Nx.trans (Nx.trans (Nx.trans hN1 hn2) hw3) hn4
 refine (cmp_n _ _ (s * 2) y KB _ ((hv3.below hn4).few (show s * 2<2 ^ (j+1) by rw [Nat.pow_succ];omega) (by omega)) ((hu.below hN4).few hy (by omega)) KB_le).mono ?_;rintro e w5 ⟨rfl,hw5⟩
 rw [HC.out]
 refine hK _ _ hw5 ?_
 clear hK K
 refine hyb_calm rfl (fun K hK=>?_);go_simp;refine hK _ ?_;clear hK K
 refine hyb_nil (fun w6 hn6=>?_)
 have hN6:Nx w w6:=Nx.trans (Nx.trans hN4 hw5) hn6
 clear q0 q1 c0 c1
 have hup:∀ Q:Nat,rnd x y=Q→(Q:Int)≤18446744073709551615:=fun Q h=>by have:=HQL.out;omega
 have HUP:=Lib.hid hup
 clear hup
 rcases hcv with rfl | rfl | rfl
 ·have hr1:rnd x y=q+1:=by rw [HRN.out,if_pos (.inl rfl)]
  have hq1:=HUP.out _ hr1
  have hq2:(q:Int)≤18446744073709551614:=by omega
  have HR1:=Lib.hid hr1
  clear hr1 hq1
  go_wp2_with fail
  go_ret
  exact ⟨by rw [HR1.out];rfl,hN6⟩
 ·by_cases hodd:q % 2=1
  ·have hr1:rnd x y=q+1:=by rw [HRN.out,if_pos (.inr ⟨rfl,hodd⟩)]
   have hq1:=HUP.out _ hr1
   have hq2:(q:Int)≤18446744073709551614:=by omega
   have b1:((q:Int) % 2 == 1)=true:=by rw [beq_iff_eq];omega
   have HR1:=Lib.hid hr1
   clear hr1 hq1 hodd
   go_wp2_with fail
   go_ret
   exact ⟨by rw [HR1.out];rfl,hN6⟩
  ·have hr1:rnd x y=q:=by rw [HRN.out,if_neg (by omega)]
   have b1:((q:Int) % 2 == 1)=false:=by rw [beq_eq_false_iff_ne];omega
   have HR1:=Lib.hid hr1
   clear hr1 hodd
   go_wp2_with fail
   go_ret
   exact ⟨by rw [HR1.out];rfl,hN6⟩
 ·have hr1:rnd x y=q:=by rw [HRN.out,if_neg (by omega)]
  have HR1:=Lib.hid hr1
  clear hr1
  go_wp2_with fail
  go_ret
  exact ⟨by rw [HR1.out];rfl,hN6⟩
end Go.Proofs.YteclejplbphkpaaGreat
namespace Go.Proofs.YteclejplbphkpaaGreat
open Go.RowKit
theorem ge2_mono {x y:Nat} {p q:Int} (h:GE2 x y q) (hpq:p≤q):GE2 x y p:=by
 obtain ⟨b,a,a',h1,h2,h3⟩:∃ b a a':Nat,(a:Int) - b=p∧(a':Int) - b=q∧a≤a':=⟨p.natAbs+q.natAbs,(p+(p.natAbs+q.natAbs)).toNat,(q+(p.natAbs+q.natAbs)).toNat,by omega,by omega,by omega⟩
 rw [ge2_iff x y p a b h1]
 rw [ge2_iff x y q a' b h2] at h
 exact Nat.le_trans (Nat.mul_le_mul_left _ (Nat.pow_le_pow_right (by decide) h3)) h
theorem lev_ge2 (x y:Nat) (L P:Int) (E:Nat) (hy:0<y) (h1:GE2 x y L) (h2:¬ GE2 x y (L+1)) (hP:P=max (L - 52) (-1074)) (hE:(E:Int)=P+1074):lev (x * 2 ^ tz) y=E:=by
 have ht:=tz_eq
 refine lev_is _ _ _ hy ?_ ?_
 ·rw [← Nat.not_le,← ge2_iff x y (P+53) (E+53) tz (by omega)]
  exact fun h=>h2 (ge2_mono h (by omega))
 ·rcases Nat.eq_zero_or_pos E with h | h
  ·exact .inl h
  ·right
   rw [← ge2_iff x y L (E+52) tz (by omega)]
   exact h1
theorem near_level (x y:Nat) (P:Int) (E:Nat) (hE:(E:Int)=P+1074) (h:lev (x * 2 ^ tz) y=E):near (x * 2 ^ tz) y=E * 4503599627370496+rnd (x * 2 ^ (-P).toNat) (y * 2 ^ P.toNat):=by
 obtain ⟨c,h1,h2,h3⟩:=at_level x y P E (by rw [tz_eq];omega)
 rw [show (max (-P) 0).toNat=(-P).toNat from by omega] at h2
 rw [show (max P 0).toNat=P.toNat from by omega] at h3
 have h4:rnd (x * 2 ^ tz) (y * 2 ^ E)=rnd (x * 2 ^ (-P).toNat) (y * 2 ^ P.toNat):=by rw [h3,h2];exact rnd_mul _ _ _ h1
 unfold near
 rw [h,h4]
end Go.Proofs.YteclejplbphkpaaGreat
namespace Go.Proofs.YteclejplbphkpaaGreat
open Go.RowKit
set_option maxRecDepth 100000 in
set_option maxHeartbeats 1600000 in
theorem nearest_any (r:Value) (x y j:Nat) (w:World) (h:Ra w r x y j) (hj:j≤2200) (hy0:y≠0) :
  Calls Tryz.prog 80 #[r] w fun e w'=>e = .returned (.int .u64 (near (x * 2 ^ tz) y:Nat))∧Nx w w':=by
 have HX:=Lib.hid h
 obtain ⟨v,u,rfl,hv,hu,hx,hy⟩:=h
 obtain ⟨Av,lv,cv,rfl⟩:=hv.sl
 obtain ⟨Au,lu,cu,rfl⟩:=hu.sl
 obtain ⟨bx,HBX⟩:∃ b,Hid (blen x=b):=⟨_,rfl⟩
 have hN:Nx w (w.alloc (Obj.cells #[.slice Av lv cv,.slice Au lu cu] 125)):=nx0 _ _
 obtain ⟨g,hg⟩:∃ g,w.heap.size=g:=⟨_,rfl⟩
 have hB1:Blk (w.alloc (Obj.cells #[.slice Av lv cv,.slice Au lu cu] 125)) g g #[.slice Av lv cv,.slice Au lu cu] 125:=by rw [← hg];exact Blk.new w _ _
 by_cases hx0:x=0
 ·have hb0:bx=0:=by rw [← HBX.out,hx0];rfl
  subst hb0
  have hz:near (x * 2 ^ tz) y=0:=by rw [hx0,Nat.zero_mul];exact near_zero y (Nat.pos_of_ne_zero hy0)
  rw [hz]
  clear hz
  go_enter Tryz.func80,Tryz.ntmps80
  go_wp2_with fail
  refine (bits_n _ x KB _ ((hv.below hN).few hx (by omega)) KB_le).mono ?_;rintro e w' ⟨rfl,rfl⟩
  rw [HBX.out]
  go_wp2_with fail
  go_ret
  exact ⟨rfl,hN⟩
 ·have hb0:((bx:Int) == 0)=false:=by
   rw [beq_eq_false_iff_ne]
   have:=(blen_pos x hx0).1
   rw [HBX.out] at this
   omega
  go_enter Tryz.func80,Tryz.ntmps80
  go_wp2_with fail
  refine (bits_n _ x KB _ ((hv.below hN).few hx (by omega)) KB_le).mono ?_;rintro e w' ⟨rfl,rfl⟩
  rw [HBX.out]
  go_wp2_with fail
  refine (log2_any _ x y j _ (HX.out.below hN) (by omega) hx0 hy0).mono ?_;rintro e w1 ⟨L,rfl,HL,hL1,hL2,hw1⟩
  have hN1:=Nx.trans hN hw1
  have hB2:=hB1.below hw1
  have c0:w1.cell? ⟨g,0,none⟩=some (.slice Av lv cv):=hB2.cell 0
  have c1:w1.cell? ⟨g,1,none⟩=some (.slice Au lu cu):=hB2.cell 1
  have key:∀ (P:Int) (E:Nat),P=max (L - 52) (-1074)→(E:Int)=P+1074→∃ R:Nat,Hid (rnd (x * 2 ^ (-P).toNat) (y * 2 ^ (- -P).toNat)=R)∧Hid (near (x * 2 ^ tz) y=E * 4503599627370496+R)∧(R:Int)≤9007199254740992∧Hid (y * 2 ^ (- -P).toNat≠0):=by
   intro P E hP hE
   have hlev:=lev_ge2 x y L P E (Nat.pos_of_ne_zero hy0) HL.out.1 HL.out.2 hP hE
   have hnear:=near_level x y P E hE hlev
   have hr:=(near_rnd (x * 2 ^ tz) y (Nat.pos_of_ne_zero hy0)).1
   have hr2:rnd (x * 2 ^ (-P).toNat) (y * 2 ^ P.toNat)≤9007199254740992:=by
    have h1:near (x * 2 ^ tz) y=lev (x * 2 ^ tz) y * 4503599627370496+rnd (x * 2 ^ tz) (y * 2 ^ lev (x * 2 ^ tz) y):=rfl
    rw [hlev] at h1 hr
    omega
   refine ⟨rnd (x * 2 ^ (-P).toNat) (y * 2 ^ P.toNat),by rw [Int.neg_neg];rfl,hnear,by omega,?_⟩
   have:=Nat.mul_pos (Nat.pos_of_ne_zero hy0) (Nat.pow_pos (n:=(- -P).toNat) (show 0<2 by decide))
   exact Nat.pos_iff_ne_zero.1 this
  by_cases hc : -1074≤L - 52
  ·obtain ⟨P,rfl⟩:∃ P,L=P+52:=⟨L - 52,by omega⟩
   have hP1 : -1074≤P:=by omega
   have hP2:P≤2200:=by omega
   obtain ⟨E,hE⟩:∃ E:Nat,(E:Int)=P+1074:=⟨(P+1074).toNat,by omega⟩
   obtain ⟨R,HR,HNEAR,hr3,HY2⟩:=key P E (by omega) hE
   have HE:=Lib.hid hE
   have hmx1:max P (-1074)=P:=by omega
   have hmx2:max (P+52 - 52) (-1074)=P:=by omega
   clear hE key hc
   go_wp2_with fail
   refine (timesTwo_any _ x y j (-P) _ (HX.out.below hN1) (by omega) (by omega) (by omega)).mono ?_;rintro e w2 ⟨r2,rfl,hR2,hw2⟩
   obtain ⟨v2,u2,rfl,hv2,hu2,hx2,hy2⟩:=hR2
   have HR2:=Lib.hid (show Ra w2 (.agg #[v2,u2]) _ _ _ from ⟨v2,u2,rfl,hv2,hu2,hx2,hy2⟩)
   clear hv2 hu2 hx2 hy2
   go_wp2_with fail
   refine (rounded_any _ _ _ _ _ HR2.out (by omega) HY2.out (by rw [HR.out];omega)).mono ?_;rintro e w3 ⟨rfl,hw3⟩
   rw [HR.out]
   go_wp2_with fail
   go_ret
   refine ⟨?_,Nx.trans (Nx.trans hN1 hw2) hw3⟩
   rw [HNEAR.out,show ((E * 4503599627370496+R:Nat):Int)=(P+1074) * 4503599627370496+(R:Int) from by have:=HE.out;omega]
   rfl
  ·obtain ⟨R,HR,HNEAR,hr3,HY2⟩:=key (-1074) 0 (by omega) rfl
   have hc1:L - 52 < -1074:=by omega
   have hmx1:max (L - 52) (-1074) = -1074:=by omega
   clear key
   go_wp2_with fail
   refine (timesTwo_any _ x y j 1074 _ (HX.out.below hN1) (by omega) (by omega) (by omega)).mono ?_;rintro e w2 ⟨r2,rfl,hR2,hw2⟩
   obtain ⟨v2,u2,rfl,hv2,hu2,hx2,hy2⟩:=hR2
   have HR2:=Lib.hid (show Ra w2 (.agg #[v2,u2]) _ _ _ from ⟨v2,u2,rfl,hv2,hu2,hx2,hy2⟩)
   clear hv2 hu2 hx2 hy2
   go_wp2_with fail
   have e1:(- -1074:Int)=1074:=rfl
   refine (rounded_any _ _ _ _ _ HR2.out (by omega) HY2.out (by have:=HR.out;rw [e1] at this;rw [this];omega)).mono ?_;rintro e w3 ⟨rfl,hw3⟩
   have hR:=HR.out
   rw [e1] at hR
   rw [hR]
   go_wp2_with fail
   go_ret
   refine ⟨?_,Nx.trans (Nx.trans hN1 hw2) hw3⟩
   rw [HNEAR.out,Nat.zero_mul,Nat.zero_add]
   rfl
end Go.Proofs.YteclejplbphkpaaGreat
namespace Go.Proofs.YteclejplbphkpaaGreat
open Go.RowKit
set_option maxRecDepth 100000 in
set_option maxHeartbeats 800000 in
theorem cutSign_any (s:ByteArray) (l:List UInt8) (w:World) (hl:Tx s l) (hs:(l.length:Int)≤10000) :
  Calls Tryz.prog 88 #[.string s] w fun e w'=>∃ t:ByteArray,e = .returned (.tuple #[.bool (signS l).1,.string t])∧Hid (Tx t (signS l).2)∧Below w.heap.size w w':=by
 cases l with
 | nil =>
  have e1:=hl.nil.1
  have HL:=Lib.hid hl
  clear hl
  go_enter Tryz.func88,Tryz.ntmps88
  go_wp2_with fail
  go_ret2
  exact ⟨s,rfl,HL,Below.refl _ _⟩
 | cons c l =>
  obtain ⟨hp,t,e0,e1,ht,e2,e3⟩:=hl.cons
  have HT:=Lib.hid ht
  have HL:=Lib.hid hl
  clear ht hl
  by_cases c43:c.toNat=43
  ·have b1:((c.toNat:Int) == 43)=true:=by rw [beq_iff_eq];omega
   have b2:((c.toNat:Int) == 45)=false:=by rw [beq_eq_false_iff_ne];omega
   have HC:Hid (signS (c :: l)=(false,l)):=by unfold Hid;simp [signS,c43]
   clear c43
   go_enter Tryz.func88,Tryz.ntmps88
   go_wp2_with fail
   go_quiet (fail)
   go_wp2_with fail
   go_ret2
   rw [HC.out]
   exact ⟨t,rfl,HT,⟨rfl,rfl,rfl,Nat.le_refl _,fun _ _=>rfl⟩⟩
  ·have b1:((c.toNat:Int) == 43)=false:=by rw [beq_eq_false_iff_ne];omega
   by_cases c45:c.toNat=45
   ·have b2:((c.toNat:Int) == 45)=true:=by rw [beq_iff_eq];omega
    have HC:Hid (signS (c :: l)=(true,l)):=by unfold Hid;simp [signS,c45]
    clear c43 c45
    go_enter Tryz.func88,Tryz.ntmps88
    go_wp2_with fail
    go_quiet (fail)
    go_wp2_with fail
    go_ret2
    rw [HC.out]
    exact ⟨t,rfl,HT,⟨rfl,rfl,rfl,Nat.le_refl _,fun _ _=>rfl⟩⟩
   ·have b2:((c.toNat:Int) == 45)=false:=by rw [beq_eq_false_iff_ne];omega
    have HC:Hid (signS (c :: l)=(false,c :: l)):=by unfold Hid;simp [signS,c43,c45]
    clear c43 c45
    go_enter Tryz.func88,Tryz.ntmps88
    go_wp2_with fail
    go_ret2
    rw [HC.out]
    exact ⟨s,rfl,HL,Below.refl _ _⟩
set_option maxRecDepth 100000 in
set_option maxHeartbeats 800000 in
theorem cutDigits_any (s:ByteArray) (l:List UInt8) (w:World) (hl:Tx s l) (hs:(l.length:Int)≤10000) :
  Calls Tryz.prog 89 #[.string s] w fun e w'=>∃ t u:ByteArray,e = .returned (.tuple #[.string t,.string u])∧Hid (Tx t (spanD l).1)∧Hid (Tx u (spanD l).2)∧Below w.heap.size w w':=by
 have HL:=Lib.hid hl
 have hz:(s.size:Int)≤10000:=by rw [hl.size];exact hs
 clear hl
 go_enter Tryz.func89,Tryz.ntmps89
 go_wp2_with fail
 go_loopw [4] (fun v wr=>∃ (n:Nat),v = .int .i64 n∧n≤l.length∧Hid (∀ c ∈ l.take n,isDig c=true)∧Below w.heap.size w wr) (fun v _=>(10000 - intOf v).toNat)
 case atStart=>exact ⟨0,rfl,Nat.zero_le _,by unfold Hid;simp,Below.refl _ _⟩
 case round =>
  obtain ⟨n,rfl,hn,HA,hb⟩:=hrel
  obtain ⟨t,e1,ht⟩:∃ t,s.extract 0 n=t∧Hid (Tx t (l.take n)):=⟨_,rfl,by unfold Hid Tx;rw [Lib.extract_data,show s.data.toList=l from HL.out];simp⟩
  obtain ⟨u,e2,hu⟩:∃ u,s.extract n s.size=u∧Hid (Tx u (l.drop n)):=⟨_,rfl,by unfold Hid Tx;rw [Lib.extract_data,show s.data.toList=l from HL.out,HL.out.size,List.take_of_length_le (by simp)]⟩
  have hfin:(l.drop n=[]∨∃ c v,l.drop n=c :: v∧isDig c=false)→spanD l=(l.take n,l.drop n):=fun h=>by
   have:=spanD_is (l.take n) (l.drop n) HA.out h
   rwa [List.take_append_drop] at this
  have HFIN:=Lib.hid hfin
  clear hfin
  by_cases hlt:n<l.length
  ·obtain ⟨hp,e0⟩:=HL.out.idx n hlt
   obtain ⟨c,hc⟩:∃ c,l[n]=c:=⟨_,rfl⟩
   rw [hc] at e0
   have g1:decide ((n:Int)<(s.size:Int))=true:=decide_eq_true (by omega)
   have hdr:l.drop n=c :: l.drop (n+1):=by rw [← hc];exact List.drop_eq_getElem_cons hlt
   have HDR:=Lib.hid hdr
   have htk:l.take (n+1)=l.take n++[c]:=by rw [← hc];exact (List.take_append_getElem hlt).symm
   have HTK:=Lib.hid htk
   clear hdr htk hc
   by_cases h48:48≤c.toNat
   ·have g2:decide ((48:Int)≤(c.toNat:Int))=true:=decide_eq_true (by omega)
    by_cases h57:c.toNat≤57
    ·have g3:decide ((c.toNat:Int)≤(57:Int))=true:=decide_eq_true (by omega)
     have HD:Hid (isDig c=true):=(isDig_iff c).2 ⟨h48,h57⟩
     clear h48 h57
     go_wp2_with fail
     go_roundw
     case rel =>
      refine ⟨n+1,by go_num,hlt,?_,hb⟩
      unfold Hid
      intro d hd
      rw [HTK.out] at hd
      rcases List.mem_append.1 hd with h | h
      ·exact HA.out d h
      ·rw [List.mem_singleton.1 h];exact HD.out
     case measure=>simp [intOf];omega
    ·have g3:decide ((c.toNat:Int)≤(57:Int))=false:=decide_eq_false (by omega)
     have HD:Hid (isDig c=false):=by unfold Hid;rw [← Bool.not_eq_true,isDig_iff];omega
     clear h48 h57
     go_wp2_with fail
     go_quiet (fail)
     go_wp2_with fail
     go_ret2
     have hf:=HFIN.out (.inr ⟨c,_,HDR.out,HD.out⟩)
     rw [hf]
     exact ⟨t,u,rfl,ht,hu,⟨hb.os,hb.tape,hb.output,hb.size,hb.block⟩⟩
   ·have g2:decide ((48:Int)≤(c.toNat:Int))=false:=decide_eq_false (by omega)
    have HD:Hid (isDig c=false):=by unfold Hid;rw [← Bool.not_eq_true,isDig_iff];omega
    clear h48
    go_wp2_with fail
    go_quiet (fail)
    go_wp2_with fail
    go_ret2
    have hf:=HFIN.out (.inr ⟨c,_,HDR.out,HD.out⟩)
    rw [hf]
    exact ⟨t,u,rfl,ht,hu,⟨hb.os,hb.tape,hb.output,hb.size,hb.block⟩⟩
  ·have g1:¬ n<s.size:=by rw [HL.out.size];omega
   have HDR:Hid (l.drop n=[]):=by unfold Hid;rw [List.drop_eq_nil_iff];omega
   have hle:n≤s.size:=by rw [HL.out.size];omega
   go_wp2_with fail
   go_quiet (fail)
   go_wp2_with fail
   go_ret2
   have hf:=HFIN.out (.inl HDR.out)
   rw [hf]
   exact ⟨t,u,rfl,ht,hu,⟨hb.os,hb.tape,hb.output,hb.size,hb.block⟩⟩
end Go.Proofs.YteclejplbphkpaaGreat
