/- The contracts of dec's numbers over one another. The nearest binary64 to a fraction, as one number: which level, which nearest integer, that it rises, that it does not change where fraction and divisor are multiplied alike. Plain lemmas. Which texts are numbers, and which binary64 is nearest: as a function of the text's bytes. The contracts of dec's numbers over one another: less than one, the logarithm of 2, the nearest number. The contracts of dec: the nearest binary64 to a fraction, to an integer; the number that bits are. Texts as lists of bytes. Plain lemmas. A number's decimal digits as bytes. Plain lemmas. -/
import Derived.Test.YtjggghfekakogaaGreatDoorG04
import Derived.Laws.Rows
import Derived.Test.YtjggghfekakogaaGreatDoorG00
import Derived.Test.YtjggghfekakogaaGreatDoorProg
import Derived.WalkSpells
import Derived.Deep.QuietTactic
import Derived.BigQuiet
import Derived.Lib.Strings
set_option linter.unusedVariables false
set_option linter.unusedSimpArgs false
set_option linter.unnecessarySimpa false
namespace Go.Proofs.YtjggghfekakogaaGreatDoor
open Go.RowKit
def KB:Nat:=4800
theorem KB_le:(KB:Int)≤5000:=by decide
theorem pow_KB (j:Nat) (hj:j≤150000):2 ^ j≤4294967296 ^ KB:=by
 have hk:KB=4800:=rfl
 generalize KB=K at *
 rw [show (4294967296:Nat)=2 ^ 32 from rfl,← Nat.pow_mul]
 exact Nat.pow_le_pow_right (by decide) (by omega)
theorem IsNum.few {w:World} {v:Value} {n j:Nat} (h:IsNum w v n) (hn:n<2 ^ j) (hj:j≤150000):Num w v n KB :=
 h.num (Nat.lt_of_lt_of_le hn (pow_KB j hj))
theorem IsNum.sl {w:World} {v:Value} {n:Nat} (h:IsNum w v n):∃ A l c,v = .slice A l c:=by
 obtain ⟨A,c,ys,h1,_⟩:=h
 exact ⟨A,_,c,h1⟩
def Ra (w:World) (r:Value) (x y j:Nat):Prop:=∃ v u,r = .agg #[v,u]∧IsNum w v x∧IsNum w u y∧x<2 ^ j∧y<2 ^ j
theorem Ra.below {w w':World} {r:Value} {x y j:Nat} (h:Ra w r x y j) (hb:Below w.heap.size w w'):Ra w' r x y j:=by
 obtain ⟨v,u,h1,h2,h3,h4,h5⟩:=h
 exact ⟨v,u,h1,h2.below hb,h3.below hb,h4,h5⟩
theorem wrap64 (x:Int) (h1 : -9223372036854775808≤x) (h2:x≤9223372036854775807):IntKind.i64.wrap x=x:=by
 rw [IntKind.wrap_i64];omega
theorem ten_two (k:Nat):10 ^ k≤2 ^ (4 * k):=by
 rw [Nat.pow_mul];exact Nat.pow_le_pow_left (by decide) k
theorem ten_two' (x j k:Nat) (h:x<2 ^ j):x * 10 ^ k<2 ^ (j+4 * k):=by
 rw [Nat.pow_add]
 exact Nat.lt_of_lt_of_le (Nat.mul_lt_mul_of_pos_right h (Nat.pow_pos (by decide))) (Nat.mul_le_mul_left _ (ten_two k))
theorem two_two' (x j k:Nat) (h:x<2 ^ j):x * 2 ^ k<2 ^ (j+k):=by
 rw [Nat.pow_add]
 exact Nat.mul_lt_mul_of_pos_right h (Nat.pow_pos (by decide))
theorem more_two (x j k:Nat) (h:x<2 ^ j):x<2 ^ (j+k):=Nat.lt_of_lt_of_le h (Nat.pow_le_pow_right (by decide) (by omega))
set_option maxRecDepth 100000 in
set_option maxHeartbeats 1600000 in
theorem timesTen_any (r:Value) (x y j:Nat) (n:Int) (w:World) (h:Ra w r x y j) (hj:j≤100000) (hn1 : -1000≤n) (hn2:n≤1000) :
  Calls Tryz.prog 206 #[r,.int .i64 n] w fun e w'=>∃ r',e = .returned r'∧Ra w' r' (x * 10 ^ n.toNat) (y * 10 ^ (-n).toNat) (j+4 * n.natAbs)∧Nx w w':=by
 obtain ⟨v,u,rfl,hv,hu,hx,hy⟩:=h
 obtain ⟨Av,lv,cv,rfl⟩:=hv.sl
 obtain ⟨Au,lu,cu,rfl⟩:=hu.sl
 by_cases hneg:n<0
 ·have b1:decide (n<0)=true:=decide_eq_true hneg
  obtain ⟨k,hk,hk2⟩:∃ k:Nat,-n=(k:Int)∧n.natAbs=k:=⟨n.natAbs,by omega,rfl⟩
  have hk1:(k:Int)≤1000:=by omega
  have hwr:IntKind.i64.wrap (k:Int)=(k:Int):=wrap64 _ (by omega) (by omega)
  have HK:=Lib.hid hk2
  have hres:Hid (n.toNat=0∧(-n).toNat=k):=⟨by omega,by omega⟩
  clear hk2 hneg
  obtain ⟨g,hg⟩:∃ g,w.heap.size=g:=⟨_,rfl⟩
  go_enter Tryz.func206,Tryz.ntmps206
  go_wp2_with fail
  generalize hW:((w.alloc (Obj.cells #[.slice Av lv cv,.slice Au lu cu] _)).alloc _)=W
  have hN:Nx w W:=by rw [← hW];exact Nx.al (nx0 _ _) _
  have hB1:Blk W g g #[.slice Av lv cv,.slice Au lu cu] 177:=by rw [← hW,← hg];exact (Blk.new w _ _).alloc _
  have hB2:Blk W g (g+1) #[.slice none 0 0,.slice none 0 0] 177:=by
   rw [← hW,← hg]
   exact ⟨by simp,by rw [show w.heap.size+1=(w.alloc (Obj.cells #[.slice Av lv cv,.slice Au lu cu] 177)).heap.size from by simp];exact heap_alloc_new _ _⟩
  have q0:∀ x:Gr W,x.1.cell? ⟨g,0,none⟩=some (.slice Av lv cv):=fun x=>(hB1.below x.2).cell 0
  have q1:∀ x:Gr W,x.1.cell? ⟨g,1,none⟩=some (.slice Au lu cu):=fun x=>(hB1.below x.2).cell 1
  refine E.wp_region_hyb (st:=9) [(0,true),(1,true),(2,true),(3,true),(4,true),(5,true),(6,false),(7,false),(8,true),(9,false)] rfl (by kernel_rfl) ?_
  iterate 6 (refine E.hyb_calm rfl (fun K hK=>?_);go_simp;refine hK _ ?_;clear hK K)
  refine E.hyb_alone rfl (fun w1 hn1 K hK=>?_)
  go_simp
  refine (ten_any k _ (by omega)).mono ?_;rintro e w2 ⟨v2,rfl,hv2,hb2⟩
  refine hK _ _ (.inr hb2) ?_
  clear hK K
  refine E.hyb_alone rfl (fun w3 hn3 K hK=>?_)
  go_simp
  have hb13:Nx W w3:=nx (nx hn1 hb2) hn3
  refine (mul_n _ v2 y (10 ^ k) KB _ ((hu.below (nx hN hb13)).few hy (by omega)) ((hv2.below hn3).few (by rw [← Nat.one_mul (10 ^ k)];exact ten_two' 1 1 k (by decide)) (by omega)) KB_le).mono ?_;rintro e w4 ⟨v4,rfl,hv4,hb4⟩
  obtain ⟨A4,l4,c4,rfl⟩:=hv4.sl
  refine hK _ _ (.inr hb4) ?_
  clear hK K
  iterate 1 (refine E.hyb_calm rfl (fun K hK=>?_);go_simp;refine hK _ ?_;clear hK K)
  refine E.hyb_alone rfl (fun w5 hn5 K hK=>?_)
  have hW5:Nx W w5:=nx (nx hb13 hb4) hn5
  have hB5:=hB2.below hW5
  have c0:w5.cell? ⟨g+1,0,none⟩=some (.slice none 0 0):=hB5.cell 0
  have c1:w5.cell? ⟨g+1,1,none⟩=some (.slice none 0 0):=hB5.cell 1
  have f0:=hB5.free 0
  have f1:=hB5.free 1
  have nu:NoU #[.slice none 0 0,.slice none 0 0]:=two_slices _ _ _ _ _ _
  go_simp
  refine hK _ _ (.inl rfl) ?_
  clear hK K
  have hB6:=(hB5.put 0 (.slice Av lv cv)).put 1 (.slice A4 l4 c4)
  have hN6:Nx w ((w5.setCell ⟨g+1,0,none⟩ (.slice Av lv cv)).setCell ⟨g+1,1,none⟩ (.slice A4 l4 c4)):=((Nx.trans hN hW5).put' (by omega) 0 _).put' (by omega) 1 _
  have hv6:=((hv4.below hn5).put hB5 nu 0 (.slice Av lv cv)).put (hB5.put 0 (.slice Av lv cv)) (two_slices _ _ _ _ _ _) 1 (.slice A4 l4 c4)
  generalize hW6:(w5.setCell ⟨g+1,0,none⟩ (.slice Av lv cv)).setCell ⟨g+1,1,none⟩ (.slice A4 l4 c4)=W6 at *
  refine E.hyb_nil (fun w7 hn7=>?_)
  have hB7:=hB6.below hn7
  clear c0 c1 f0 f1 q0 q1
  go_wp2_with fail
  try simp only [Exit.inBlock,Exit.then]
  refine bodyPost_ret (results_cell_row rfl _ _ (g+1) _ _ _ _ rfl hB7.2 Tryz.underlying177 rfl (by kernel_rfl)) rfl ?_
  refine ⟨_,rfl,⟨_,_,rfl,(hv.below (Nx.trans hN6 hn7)).cast ?_,(hv6.below hn7).cast ?_,?_,?_⟩,Nx.trans hN6 hn7⟩
  ·rw [hres.out.1,Nat.pow_zero,Nat.mul_one]
  ·rw [hres.out.2]
  ·rw [hres.out.1,Nat.pow_zero,Nat.mul_one];exact more_two _ _ _ hx
  ·rw [hres.out.2,HK.out];exact ten_two' _ _ _ hy
 ·have b1:decide (n<0)=false:=decide_eq_false hneg
  obtain ⟨k,rfl⟩:=Int.eq_ofNat_of_zero_le (a:=n) (by omega)
  have HK:Hid ((k:Int).natAbs=k):=Int.natAbs_natCast k
  have hres:Hid ((k:Int).toNat=k∧(-(k:Int)).toNat=0):=⟨by omega,by omega⟩
  clear hneg
  obtain ⟨g,hg⟩:∃ g,w.heap.size=g:=⟨_,rfl⟩
  go_enter Tryz.func206,Tryz.ntmps206
  go_wp2_with fail
  generalize hW:((w.alloc (Obj.cells #[.slice Av lv cv,.slice Au lu cu] _)).alloc _)=W
  have hN:Nx w W:=by rw [← hW];exact Nx.al (nx0 _ _) _
  have hB1:Blk W g g #[.slice Av lv cv,.slice Au lu cu] 177:=by rw [← hW,← hg];exact (Blk.new w _ _).alloc _
  have hB2:Blk W g (g+1) #[.slice none 0 0,.slice none 0 0] 177:=by
   rw [← hW,← hg]
   exact ⟨by simp,by rw [show w.heap.size+1=(w.alloc (Obj.cells #[.slice Av lv cv,.slice Au lu cu] 177)).heap.size from by simp];exact heap_alloc_new _ _⟩
  have q0:∀ x:Gr W,x.1.cell? ⟨g,0,none⟩=some (.slice Av lv cv):=fun x=>(hB1.below x.2).cell 0
  have q1:∀ x:Gr W,x.1.cell? ⟨g,1,none⟩=some (.slice Au lu cu):=fun x=>(hB1.below x.2).cell 1
  refine E.wp_region_hyb (st:=8) [(0,true),(1,true),(2,true),(5,true),(6,true),(3,false),(4,false),(7,true),(8,false)] rfl (by kernel_rfl) ?_
  iterate 5 (refine E.hyb_calm rfl (fun K hK=>?_);go_simp;refine hK _ ?_;clear hK K)
  refine E.hyb_alone rfl (fun w1 hn1 K hK=>?_)
  go_simp
  refine (ten_any k _ (by omega)).mono ?_;rintro e w2 ⟨v2,rfl,hv2,hb2⟩
  refine hK _ _ (.inr hb2) ?_
  clear hK K
  refine E.hyb_alone rfl (fun w3 hn3 K hK=>?_)
  go_simp
  have hb13:Nx W w3:=nx (nx hn1 hb2) hn3
  refine (mul_n _ v2 x (10 ^ k) KB _ ((hv.below (nx hN hb13)).few hx (by omega)) ((hv2.below hn3).few (by rw [← Nat.one_mul (10 ^ k)];exact ten_two' 1 1 k (by decide)) (by omega)) KB_le).mono ?_;rintro e w4 ⟨v4,rfl,hv4,hb4⟩
  obtain ⟨A4,l4,c4,rfl⟩:=hv4.sl
  refine hK _ _ (.inr hb4) ?_
  clear hK K
  iterate 1 (refine E.hyb_calm rfl (fun K hK=>?_);go_simp;refine hK _ ?_;clear hK K)
  refine E.hyb_alone rfl (fun w5 hn5 K hK=>?_)
  have hW5:Nx W w5:=nx (nx hb13 hb4) hn5
  have hB5:=hB2.below hW5
  have c0:w5.cell? ⟨g+1,0,none⟩=some (.slice none 0 0):=hB5.cell 0
  have c1:w5.cell? ⟨g+1,1,none⟩=some (.slice none 0 0):=hB5.cell 1
  have f0:=hB5.free 0
  have f1:=hB5.free 1
  have nu:NoU #[.slice none 0 0,.slice none 0 0]:=two_slices _ _ _ _ _ _
  go_simp
  refine hK _ _ (.inl rfl) ?_
  clear hK K
  have hB6:=(hB5.put 0 (.slice A4 l4 c4)).put 1 (.slice Au lu cu)
  have hN6:Nx w ((w5.setCell ⟨g+1,0,none⟩ (.slice A4 l4 c4)).setCell ⟨g+1,1,none⟩ (.slice Au lu cu)):=((Nx.trans hN hW5).put' (by omega) 0 _).put' (by omega) 1 _
  have hv6:=((hv4.below hn5).put hB5 nu 0 (.slice A4 l4 c4)).put (hB5.put 0 (.slice A4 l4 c4)) (two_slices _ _ _ _ _ _) 1 (.slice Au lu cu)
  generalize hW6:(w5.setCell ⟨g+1,0,none⟩ (.slice A4 l4 c4)).setCell ⟨g+1,1,none⟩ (.slice Au lu cu)=W6 at *
  refine E.hyb_nil (fun w7 hn7=>?_)
  have hB7:=hB6.below hn7
  clear c0 c1 f0 f1 q0 q1
  go_wp2_with fail
  try simp only [Exit.inBlock,Exit.then]
  refine bodyPost_ret (results_cell_row rfl _ _ (g+1) _ _ _ _ rfl hB7.2 Tryz.underlying177 rfl (by kernel_rfl)) rfl ?_
  refine ⟨_,rfl,⟨_,_,rfl,(hv6.below hn7).cast ?_,(hu.below (Nx.trans hN6 hn7)).cast ?_,?_,?_⟩,Nx.trans hN6 hn7⟩
  ·rw [hres.out.1]
  ·rw [hres.out.2,Nat.pow_zero,Nat.mul_one]
  ·rw [hres.out.1,HK.out];exact ten_two' _ _ _ hx
  ·rw [hres.out.2,Nat.pow_zero,Nat.mul_one];exact more_two _ _ _ hy
set_option maxRecDepth 100000 in
set_option maxHeartbeats 1600000 in
theorem timesTwo_any (r:Value) (x y j:Nat) (n:Int) (w:World) (h:Ra w r x y j) (hj:j≤100000) (hn1 : -30000≤n) (hn2:n≤30000) :
  Calls Tryz.prog 209 #[r,.int .i64 n] w fun e w'=>∃ r',e = .returned r'∧Ra w' r' (x * 2 ^ n.toNat) (y * 2 ^ (-n).toNat) (j+n.natAbs)∧Nx w w':=by
 obtain ⟨v,u,rfl,hv,hu,hx,hy⟩:=h
 obtain ⟨Av,lv,cv,rfl⟩:=hv.sl
 obtain ⟨Au,lu,cu,rfl⟩:=hu.sl
 by_cases hneg:n<0
 ·have b1:decide (n<0)=true:=decide_eq_true hneg
  obtain ⟨k,hk,hk2⟩:∃ k:Nat,-n=(k:Int)∧n.natAbs=k:=⟨n.natAbs,by omega,rfl⟩
  have hk1:(k:Int)≤30000:=by omega
  have hwr:IntKind.i64.wrap (k:Int)=(k:Int):=wrap64 _ (by omega) (by omega)
  have HK:=Lib.hid hk2
  have hres:Hid (n.toNat=0∧(-n).toNat=k):=⟨by omega,by omega⟩
  clear hk2 hneg
  obtain ⟨g,hg⟩:∃ g,w.heap.size=g:=⟨_,rfl⟩
  go_enter Tryz.func209,Tryz.ntmps209
  go_wp2_with fail
  generalize hW:((w.alloc (Obj.cells #[.slice Av lv cv,.slice Au lu cu] _)).alloc _)=W
  have hN:Nx w W:=by rw [← hW];exact Nx.al (nx0 _ _) _
  have hB1:Blk W g g #[.slice Av lv cv,.slice Au lu cu] 177:=by rw [← hW,← hg];exact (Blk.new w _ _).alloc _
  have hB2:Blk W g (g+1) #[.slice none 0 0,.slice none 0 0] 177:=by
   rw [← hW,← hg]
   exact ⟨by simp,by rw [show w.heap.size+1=(w.alloc (Obj.cells #[.slice Av lv cv,.slice Au lu cu] 177)).heap.size from by simp];exact heap_alloc_new _ _⟩
  have q0:∀ x:Gr W,x.1.cell? ⟨g,0,none⟩=some (.slice Av lv cv):=fun x=>(hB1.below x.2).cell 0
  have q1:∀ x:Gr W,x.1.cell? ⟨g,1,none⟩=some (.slice Au lu cu):=fun x=>(hB1.below x.2).cell 1
  refine E.wp_region_hyb (st:=8) [(0,true),(1,true),(2,true),(3,true),(4,true),(5,true),(6,false),(7,true),(8,false)] rfl (by kernel_rfl) ?_
  iterate 6 (refine E.hyb_calm rfl (fun K hK=>?_);go_simp;refine hK _ ?_;clear hK K)
  refine E.hyb_alone rfl (fun w3 hn3 K hK=>?_)
  go_simp
  have hb13:Nx W w3:=hn3
  refine (shl_n _ y KB (k:Int) _ ((hu.below (nx hN hb13)).few hy (by omega)) KB_le (by omega) (by omega)).mono ?_;rintro e w4 ⟨v4,rfl,hv4,hb4⟩
  have hv4:=hv4.cast (show shV y (k:Int)=y * 2 ^ k from by unfold shV;rw [if_pos (by omega),Int.toNat_natCast])
  obtain ⟨A4,l4,c4,rfl⟩:=hv4.sl
  refine hK _ _ (.inr hb4) ?_
  clear hK K
  iterate 1 (refine E.hyb_calm rfl (fun K hK=>?_);go_simp;refine hK _ ?_;clear hK K)
  refine E.hyb_alone rfl (fun w5 hn5 K hK=>?_)
  have hW5:Nx W w5:=nx (nx hb13 hb4) hn5
  have hB5:=hB2.below hW5
  have c0:w5.cell? ⟨g+1,0,none⟩=some (.slice none 0 0):=hB5.cell 0
  have c1:w5.cell? ⟨g+1,1,none⟩=some (.slice none 0 0):=hB5.cell 1
  have f0:=hB5.free 0
  have f1:=hB5.free 1
  have nu:NoU #[.slice none 0 0,.slice none 0 0]:=two_slices _ _ _ _ _ _
  go_simp
  refine hK _ _ (.inl rfl) ?_
  clear hK K
  have hB6:=(hB5.put 0 (.slice Av lv cv)).put 1 (.slice A4 l4 c4)
  have hN6:Nx w ((w5.setCell ⟨g+1,0,none⟩ (.slice Av lv cv)).setCell ⟨g+1,1,none⟩ (.slice A4 l4 c4)):=((Nx.trans hN hW5).put' (by omega) 0 _).put' (by omega) 1 _
  have hv6:=((hv4.below hn5).put hB5 nu 0 (.slice Av lv cv)).put (hB5.put 0 (.slice Av lv cv)) (two_slices _ _ _ _ _ _) 1 (.slice A4 l4 c4)
  generalize hW6:(w5.setCell ⟨g+1,0,none⟩ (.slice Av lv cv)).setCell ⟨g+1,1,none⟩ (.slice A4 l4 c4)=W6 at *
  refine E.hyb_nil (fun w7 hn7=>?_)
  have hB7:=hB6.below hn7
  clear c0 c1 f0 f1 q0 q1
  go_wp2_with fail
  try simp only [Exit.inBlock,Exit.then]
  refine bodyPost_ret (results_cell_row rfl _ _ (g+1) _ _ _ _ rfl hB7.2 Tryz.underlying177 rfl (by kernel_rfl)) rfl ?_
  refine ⟨_,rfl,⟨_,_,rfl,(hv.below (Nx.trans hN6 hn7)).cast ?_,(hv6.below hn7).cast ?_,?_,?_⟩,Nx.trans hN6 hn7⟩
  ·rw [hres.out.1,Nat.pow_zero,Nat.mul_one]
  ·rw [hres.out.2]
  ·rw [hres.out.1,Nat.pow_zero,Nat.mul_one];exact more_two _ _ _ hx
  ·rw [hres.out.2,HK.out];exact two_two' _ _ _ hy
 ·have b1:decide (n<0)=false:=decide_eq_false hneg
  obtain ⟨k,rfl⟩:=Int.eq_ofNat_of_zero_le (a:=n) (by omega)
  have HK:Hid ((k:Int).natAbs=k):=Int.natAbs_natCast k
  have hres:Hid ((k:Int).toNat=k∧(-(k:Int)).toNat=0):=⟨by omega,by omega⟩
  clear hneg
  obtain ⟨g,hg⟩:∃ g,w.heap.size=g:=⟨_,rfl⟩
  go_enter Tryz.func209,Tryz.ntmps209
  go_wp2_with fail
  generalize hW:((w.alloc (Obj.cells #[.slice Av lv cv,.slice Au lu cu] _)).alloc _)=W
  have hN:Nx w W:=by rw [← hW];exact Nx.al (nx0 _ _) _
  have hB1:Blk W g g #[.slice Av lv cv,.slice Au lu cu] 177:=by rw [← hW,← hg];exact (Blk.new w _ _).alloc _
  have hB2:Blk W g (g+1) #[.slice none 0 0,.slice none 0 0] 177:=by
   rw [← hW,← hg]
   exact ⟨by simp,by rw [show w.heap.size+1=(w.alloc (Obj.cells #[.slice Av lv cv,.slice Au lu cu] 177)).heap.size from by simp];exact heap_alloc_new _ _⟩
  have q0:∀ x:Gr W,x.1.cell? ⟨g,0,none⟩=some (.slice Av lv cv):=fun x=>(hB1.below x.2).cell 0
  have q1:∀ x:Gr W,x.1.cell? ⟨g,1,none⟩=some (.slice Au lu cu):=fun x=>(hB1.below x.2).cell 1
  refine E.wp_region_hyb (st:=7) [(0,true),(1,true),(2,true),(4,true),(5,true),(3,false),(6,true),(7,false)] rfl (by kernel_rfl) ?_
  iterate 5 (refine E.hyb_calm rfl (fun K hK=>?_);go_simp;refine hK _ ?_;clear hK K)
  refine E.hyb_alone rfl (fun w3 hn3 K hK=>?_)
  go_simp
  have hb13:Nx W w3:=hn3
  refine (shl_n _ x KB (k:Int) _ ((hv.below (nx hN hb13)).few hx (by omega)) KB_le (by omega) (by omega)).mono ?_;rintro e w4 ⟨v4,rfl,hv4,hb4⟩
  have hv4:=hv4.cast (show shV x (k:Int)=x * 2 ^ k from by unfold shV;rw [if_pos (by omega),Int.toNat_natCast])
  obtain ⟨A4,l4,c4,rfl⟩:=hv4.sl
  refine hK _ _ (.inr hb4) ?_
  clear hK K
  iterate 1 (refine E.hyb_calm rfl (fun K hK=>?_);go_simp;refine hK _ ?_;clear hK K)
  refine E.hyb_alone rfl (fun w5 hn5 K hK=>?_)
  have hW5:Nx W w5:=nx (nx hb13 hb4) hn5
  have hB5:=hB2.below hW5
  have c0:w5.cell? ⟨g+1,0,none⟩=some (.slice none 0 0):=hB5.cell 0
  have c1:w5.cell? ⟨g+1,1,none⟩=some (.slice none 0 0):=hB5.cell 1
  have f0:=hB5.free 0
  have f1:=hB5.free 1
  have nu:NoU #[.slice none 0 0,.slice none 0 0]:=two_slices _ _ _ _ _ _
  go_simp
  refine hK _ _ (.inl rfl) ?_
  clear hK K
  have hB6:=(hB5.put 0 (.slice A4 l4 c4)).put 1 (.slice Au lu cu)
  have hN6:Nx w ((w5.setCell ⟨g+1,0,none⟩ (.slice A4 l4 c4)).setCell ⟨g+1,1,none⟩ (.slice Au lu cu)):=((Nx.trans hN hW5).put' (by omega) 0 _).put' (by omega) 1 _
  have hv6:=((hv4.below hn5).put hB5 nu 0 (.slice A4 l4 c4)).put (hB5.put 0 (.slice A4 l4 c4)) (two_slices _ _ _ _ _ _) 1 (.slice Au lu cu)
  generalize hW6:(w5.setCell ⟨g+1,0,none⟩ (.slice A4 l4 c4)).setCell ⟨g+1,1,none⟩ (.slice Au lu cu)=W6 at *
  refine E.hyb_nil (fun w7 hn7=>?_)
  have hB7:=hB6.below hn7
  clear c0 c1 f0 f1 q0 q1
  go_wp2_with fail
  try simp only [Exit.inBlock,Exit.then]
  refine bodyPost_ret (results_cell_row rfl _ _ (g+1) _ _ _ _ rfl hB7.2 Tryz.underlying177 rfl (by kernel_rfl)) rfl ?_
  refine ⟨_,rfl,⟨_,_,rfl,(hv6.below hn7).cast ?_,(hu.below (Nx.trans hN6 hn7)).cast ?_,?_,?_⟩,Nx.trans hN6 hn7⟩
  ·rw [hres.out.1]
  ·rw [hres.out.2,Nat.pow_zero,Nat.mul_one]
  ·rw [hres.out.1,HK.out];exact two_two' _ _ _ hx
  ·rw [hres.out.2,Nat.pow_zero,Nat.mul_one];exact more_two _ _ _ hy
end Go.Proofs.YtjggghfekakogaaGreatDoor
namespace Go.Proofs.YtjggghfekakogaaGreatDoor
open Go.RowKit
def rnd (a b:Nat):Nat:=if 2 * (a % b) > b∨2 * (a % b)=b∧a / b % 2=1 then a / b+1 else a / b
theorem rnd_lo (a b:Nat):a / b≤rnd a b:=by unfold rnd;split <;> omega
theorem rnd_hi (a b:Nat):rnd a b≤a / b+1:=by unfold rnd;split <;> omega
theorem rnd_exact (b n:Nat) (hb:0<b):rnd (n * b) b=n:=by
 unfold rnd
 rw [Nat.mul_mod_left,Nat.mul_div_cancel _ hb,if_neg (by omega)]
theorem rnd_mono (a c b:Nat) (h:a≤c):rnd a b≤rnd c b:=by
 have h1:a / b≤c / b:=Nat.div_le_div_right h
 rcases Nat.lt_or_ge (a / b) (c / b) with h2 | h2
 ·exact Nat.le_trans (rnd_hi a b) (Nat.le_trans h2 (rnd_lo c b))
 ·have h3:a / b=c / b:=by omega
  have h4:=Nat.div_add_mod a b
  have h5:=Nat.div_add_mod c b
  rw [h3] at h4
  unfold rnd
  rw [h3]
  split
  ·rename_i h6
   rw [if_pos (by omega)];exact Nat.le_refl _
  ·split <;> omega
theorem rnd_le (a b n:Nat) (hb:0<b) (h:a≤n * b):rnd a b≤n:=by
 have:=rnd_mono a (n * b) b h
 rwa [rnd_exact b n hb] at this
theorem rnd_ge (a b n:Nat) (hb:0<b) (h:n * b≤a):n≤rnd a b:=by
 have:=rnd_mono (n * b) a b h
 rwa [rnd_exact b n hb] at this
end Go.Proofs.YtjggghfekakogaaGreatDoor
namespace Go.Proofs.YtjggghfekakogaaGreatDoor
open Go.RowKit
def LIM:Nat:=9218868437227405312
end Go.Proofs.YtjggghfekakogaaGreatDoor
namespace Go.Proofs.YtjggghfekakogaaGreatDoor
open Go.RowKit
set_option maxRecDepth 100000 in
set_option maxHeartbeats 1600000 in
theorem below1_any (r:Value) (x y j:Nat) (w:World) (h:Ra w r x y j) (hj:j≤150000) :
  Calls Tryz.prog 249 #[r] w fun e w'=>e = .returned (.bool (decide (x<y)))∧Nx w w':=by
 obtain ⟨v,u,rfl,hv,hu,hx,hy⟩:=h
 obtain ⟨Av,lv,cv,rfl⟩:=hv.sl
 obtain ⟨Au,lu,cu,rfl⟩:=hu.sl
 obtain ⟨C,HC⟩:∃ C,Hid (cmpI x y=C):=⟨_,rfl⟩
 have hres:decide (C<0)=decide (x<y):=by
  rw [← HC.out];unfold cmpI
  by_cases h1:x<y
  ·rw [if_pos h1];simp [h1]
  ·rw [if_neg h1];split <;> simp [h1]
 have HR:=Lib.hid hres
 obtain ⟨b,hb⟩:∃ b,decide (C<0)=b:=⟨_,rfl⟩
 rw [← HR.out,hb]
 clear hres
 go_enter Tryz.func249,Tryz.ntmps249
 go_wp2_with fail
 have hn0:=nx0 w (Obj.cells #[Value.slice Av lv cv,Value.slice Au lu cu] 177)
 refine (cmp_n _ _ x y KB _ ((hv.below hn0).few hx hj) ((hu.below hn0).few hy hj) KB_le).mono ?_;rintro e w1 ⟨rfl,hw1⟩
 rw [HC.out]
 go_wp2_with fail
 go_ret
 exact ⟨rfl,nx hn0 hw1⟩
def GE2 (x y:Nat) (p:Int):Prop:=y * 2 ^ p.toNat≤x * 2 ^ (-p).toNat
theorem blen_pos (x:Nat) (h:x≠0):1≤blen x∧2 ^ (blen x - 1)≤x∧x<2 ^ blen x:=by
 unfold blen
 rw [if_neg h]
 exact ⟨by omega,by simpa using Nat.log2_self_le h,(Nat.log2_lt h).1 (by omega)⟩
theorem blen_lt (x j:Nat) (h:x<2 ^ j):blen x≤j:=by
 unfold blen
 split
 ·omega
 ·rename_i h0
  have:=(Nat.log2_lt h0).2 h
  omega
theorem ge2_iff (x y:Nat) (p:Int) (a b:Nat) (h:(a:Int) - b=p):GE2 x y p↔y * 2 ^ a≤x * 2 ^ b:=by
 unfold GE2
 rcases Int.le_total 0 p with h0 | h0
 ·obtain ⟨n,rfl⟩:=Int.eq_ofNat_of_zero_le h0
  obtain rfl:a=b+n:=by omega
  rw [show ((n:Int)).toNat=n from by omega,show (-(n:Int)).toNat=0 from by omega,Nat.pow_zero,Nat.mul_one,Nat.pow_add,Nat.mul_comm (2 ^ b),← Nat.mul_assoc]
  exact (Nat.mul_le_mul_right_iff (Nat.pow_pos (by decide))).symm
 ·obtain ⟨n,hn⟩:=Int.eq_ofNat_of_zero_le (a:=-p) (by omega)
  obtain rfl:b=a+n:=by omega
  rw [show p.toNat=0 from by omega,show (-p).toNat=n from by omega,Nat.pow_zero,Nat.mul_one,Nat.pow_add,Nat.mul_comm (2 ^ a) (2 ^ n),← Nat.mul_assoc]
  exact (Nat.mul_le_mul_right_iff (Nat.pow_pos (by decide))).symm
theorem ge2_len (x y:Nat) (hx:x≠0) (hy:y≠0):GE2 x y ((blen x:Int) - blen y - 1)∧¬ GE2 x y ((blen x:Int) - blen y+1):=by
 obtain ⟨a1,a2,a3⟩:=blen_pos x hx
 obtain ⟨b1,b2,b3⟩:=blen_pos y hy
 constructor
 ·rw [ge2_iff x y _ (blen x - 1) (blen y) (by omega)]
  calc y * 2 ^ (blen x - 1)≤2 ^ blen y * 2 ^ (blen x - 1):=Nat.mul_le_mul_right _ (by omega)
   _=2 ^ (blen x - 1) * 2 ^ blen y:=Nat.mul_comm _ _
   _≤x * 2 ^ blen y:=Nat.mul_le_mul_right _ a2
 ·rw [ge2_iff x y _ (blen x) (blen y - 1) (by omega),Nat.not_le]
  calc x * 2 ^ (blen y - 1)<2 ^ blen x * 2 ^ (blen y - 1):=Nat.mul_lt_mul_of_pos_right a3 (Nat.pow_pos (by decide))
   _=2 ^ (blen y - 1) * 2 ^ blen x:=Nat.mul_comm _ _
   _≤y * 2 ^ blen x:=Nat.mul_le_mul_right _ b2
set_option maxRecDepth 100000 in
set_option maxHeartbeats 1600000 in
theorem log2_any (r:Value) (x y j:Nat) (w:World) (h:Ra w r x y j) (hj:j≤20000) (hx0:x≠0) (hy0:y≠0) :
  Calls Tryz.prog 248 #[r] w fun e w'=>∃ L:Int,e = .returned (.int .i64 L)∧Hid (GE2 x y L∧¬ GE2 x y (L+1))∧-(j:Int) - 1≤L∧L≤j∧Nx w w':=by
 have HX:=Lib.hid h
 obtain ⟨v,u,rfl,hv,hu,hx,hy⟩:=h
 obtain ⟨Av,lv,cv,rfl⟩:=hv.sl
 obtain ⟨Au,lu,cu,rfl⟩:=hu.sl
 obtain ⟨bx,HBX⟩:∃ b,Hid (blen x=b):=⟨_,rfl⟩
 obtain ⟨bYl,HBY⟩:∃ b,Hid (blen y=b):=⟨_,rfl⟩
 have hbx:bx≤j:=by rw [← HBX.out];exact blen_lt _ _ hx
 have hby:bYl≤j:=by rw [← HBY.out];exact blen_lt _ _ hy
 have hlen:=ge2_len x y hx0 hy0
 rw [HBX.out,HBY.out] at hlen
 have HLEN:=Lib.hid hlen
 clear hlen
 obtain ⟨n,hn⟩:∃ n:Int,(bx:Int) - (bYl:Int)=n:=⟨_,rfl⟩
 obtain ⟨m,hm⟩:∃ m:Int,-n=m:=⟨_,rfl⟩
 have hwr:IntKind.i64.wrap m=m:=wrap64 _ (by omega) (by omega)
 have hwn:IntKind.i64.wrap n=n:=wrap64 _ (by omega) (by omega)
 have hn1' : -20000≤n:=by omega
 have hn2':n≤20000:=by omega
 obtain ⟨b,HB⟩:∃ b,Hid (decide (x * 2 ^ m.toNat<y * 2 ^ (-m).toNat)=b):=⟨_,rfl⟩
 have HG:Hid (b=true↔¬ GE2 x y n):=by
  unfold Hid GE2;rw [← HB.out,decide_eq_true_iff,Nat.not_le,← hm,Int.neg_neg]
 have hmb:m.natAbs≤20000:=by omega
 have hbn : -(j:Int)≤n∧n≤j:=by omega
 have HBN:=Lib.hid hbn
 clear hbn
 have HV:=Lib.hid hv
 have HU:=Lib.hid hu
 obtain ⟨g,hg⟩:∃ g,w.heap.size=g:=⟨_,rfl⟩
 go_enter Tryz.func248,Tryz.ntmps248
 go_wp2_with fail
 generalize hW:(w.alloc (Obj.cells #[.slice Av lv cv,.slice Au lu cu] _))=W
 have hN:Nx w W:=by rw [← hW];exact nx0 _ _
 have hB1:Blk W g g #[.slice Av lv cv,.slice Au lu cu] 177:=by rw [← hW,← hg];exact Blk.new w _ _
 have q0:∀ x:Gr W,x.1.cell? ⟨g,0,none⟩=some (.slice Av lv cv):=fun x=>(hB1.below x.2).cell 0
 have q1:∀ x:Gr W,x.1.cell? ⟨g,1,none⟩=some (.slice Au lu cu):=fun x=>(hB1.below x.2).cell 1
 refine wp_region_hyb [(0,true),(1,true),(3,true),(4,true),(2,false),(5,false),(6,true),(7,true)] rfl (by kernel_rfl) ?_
 iterate 4 (refine hyb_calm rfl (fun K hK=>?_);go_simp;refine hK _ ?_;clear hK K)
 refine hyb_alone rfl (fun w1 hn1 K hK=>?_)
 go_simp
 refine (bits_n _ x KB _ ((hv.below (Nx.trans hN hn1)).few hx (by omega)) KB_le).mono ?_;rintro e w' ⟨rfl,rfl⟩
 rw [HBX.out]
 refine hK _ _ (Nx.refl _) ?_
 clear hK K
 refine hyb_alone rfl (fun w2 hn2 K hK=>?_)
 go_simp
 refine (bits_n _ y KB _ ((hu.below (Nx.trans (Nx.trans hN hn1) hn2)).few hy (by omega)) KB_le).mono ?_;rintro e w' ⟨rfl,rfl⟩
 rw [HBY.out]
 refine hK _ _ (Nx.refl _) ?_
 clear hK K
 iterate 2 (refine hyb_calm rfl (fun K hK=>?_);go_simp;refine hK _ ?_;clear hK K)
 refine hyb_nil (fun w3 hn3=>?_)
 have hN3:Nx w w3:=Nx.trans (Nx.trans (Nx.trans hN hn1) hn2) hn3
 have hB3:=hB1.below (Nx.trans (Nx.trans hn1 hn2) hn3)
 have c0:w3.cell? ⟨g,0,none⟩=some (.slice Av lv cv):=hB3.cell 0
 have c1:w3.cell? ⟨g,1,none⟩=some (.slice Au lu cu):=hB3.cell 1
 clear q0 q1
 go_wp2_with fail
 refine (timesTwo_any _ x y j m _ (HX.out.below hN3) (by omega) (by omega) (by omega)).mono ?_;rintro e w4 ⟨r4,rfl,hR4,hw4⟩
 obtain ⟨v4,u4,rfl,hv4,hu4,hx4,hy4⟩:=hR4
 have HR4:=Lib.hid (show Ra w4 (.agg #[v4,u4]) _ _ _ from ⟨v4,u4,rfl,hv4,hu4,hx4,hy4⟩)
 clear hv4 hu4 hx4 hy4
 go_wp2_with fail
 refine (below1_any _ _ _ _ _ HR4.out (by omega)).mono ?_;rintro e w5 ⟨rfl,hw5⟩
 rw [HB.out]
 have hN5:Nx w w5:=Nx.trans (Nx.trans hN3 hw4) hw5
 have hl:=HLEN.out
 rw [hn] at hl
 have HL:=Lib.hid hl
 clear hl hn hm
 cases b
 ·go_wp2_with fail
  go_ret
  refine ⟨n,rfl,⟨?_,HL.out.2⟩,by have:=HBN.out;omega,HBN.out.2,hN5⟩
  have:=HG.out
  simpa using this
 ·go_wp2_with fail
  go_ret
  refine ⟨n - 1,rfl,⟨HL.out.1,?_⟩,by have:=HBN.out;omega,by have:=HBN.out;omega,hN5⟩
  rw [Int.sub_add_cancel]
  have:=HG.out;simpa using this
set_option maxRecDepth 100000 in
set_option maxHeartbeats 1600000 in
theorem rounded_any (r:Value) (x y j:Nat) (w:World) (h:Ra w r x y j) (hj:j≤100000) (hy0:y≠0) (hq:rnd x y<18446744073709551616) :
  Calls Tryz.prog 207 #[r] w fun e w'=>e = .returned (.int .u64 (rnd x y:Nat))∧Nx w w':=by
 obtain ⟨v,u,rfl,hv,hu,hx,hy⟩:=h
 obtain ⟨Av,lv,cv,rfl⟩:=hv.sl
 obtain ⟨Au,lu,cu,rfl⟩:=hu.sl
 obtain ⟨q,HQ⟩:∃ q,Hid (x / y=q):=⟨_,rfl⟩
 obtain ⟨s,HS⟩:∃ q,Hid (x % y=q):=⟨_,rfl⟩
 obtain ⟨C,HC⟩:∃ C,Hid (cmpI (s * 2) y=C):=⟨_,rfl⟩
 have hsx:s<2 ^ j:=Nat.lt_of_le_of_lt (by rw [← HS.out];exact Nat.mod_le _ _) hx
 have hlo:=rnd_lo x y
 rw [HQ.out] at hlo
 have hq64:q<18446744073709551616:=by omega
 have hrn:rnd x y=if C=1∨C=0∧q % 2=1 then q+1 else q:=by
  unfold rnd
  rw [HQ.out,HS.out,← HC.out]
  unfold cmpI
  by_cases h1:s * 2<y
  ·rw [if_pos h1,if_neg (by omega),if_neg (by omega)]
  ·by_cases h2:y<s * 2
   ·rw [if_neg h1,if_pos h2,if_pos (by omega),if_pos (by omega)]
   ·rw [if_neg h1,if_neg h2]
    by_cases h3:q % 2=1
    ·rw [if_pos (by omega),if_pos (by omega)]
    ·rw [if_neg (by omega),if_neg (by omega)]
 have hcv:C=1∨C=0∨C = -1:=by
  rw [← HC.out];unfold cmpI;split
  ·exact .inr (.inr rfl)
  ·split
   ·exact .inl rfl
   ·exact .inr (.inl rfl)
 have HRN:=Lib.hid hrn
 have HQL:=Lib.hid hq
 have hmod:q % 18446744073709551616=q:=Nat.mod_eq_of_lt hq64
 have HM:=Lib.hid hmod
 have hq0:(q:Int)≤18446744073709551615:=by omega
 clear hrn hlo hmod hq hq64
 obtain ⟨g,hg⟩:∃ g,w.heap.size=g:=⟨_,rfl⟩
 go_enter Tryz.func207,Tryz.ntmps207
 go_wp2_with fail
 have hN:Nx w (w.alloc (Obj.cells #[.slice Av lv cv,.slice Au lu cu] 177)):=nx0 _ _
 have hB1:Blk (w.alloc (Obj.cells #[.slice Av lv cv,.slice Au lu cu] 177)) g g #[.slice Av lv cv,.slice Au lu cu] 177:=by rw [← hg];exact Blk.new w _ _
 refine (div_n _ _ x y KB _ ((hv.below hN).few hx (by omega)) ((hu.below hN).few hy (by omega)) KB_le).mono ?_;rintro e w1 ⟨vq,vr,ok,rfl,hdiv,hw1⟩
 unfold DivN at hdiv
 rw [if_neg hy0,HQ.out,HS.out] at hdiv
 obtain ⟨hvq,hvr,rfl⟩:=hdiv
 have hN1:=Nx.trans hN hw1
 have hB2:=hB1.below hw1
 have c0:w1.cell? ⟨g,0,none⟩=some (.slice Av lv cv):=hB2.cell 0
 have c1:w1.cell? ⟨g,1,none⟩=some (.slice Au lu cu):=hB2.cell 1
 obtain ⟨Aq,lq,cq,rfl⟩:=hvq.sl
 obtain ⟨Ar,lr,cr,rfl⟩:=hvr.sl
 go_wp2_with fail
 refine (low_n _ q 2 _ (hvq.num (by omega)) (by decide)).mono ?_;rintro e w' ⟨rfl,rfl⟩
 rw [HM.out]
 go_wp2_with fail
 have q0:∀ x:Gr w1,x.1.cell? ⟨g,0,none⟩=some (.slice Av lv cv):=fun x=>(hB2.below x.2).cell 0
 have q1:∀ x:Gr w1,x.1.cell? ⟨g,1,none⟩=some (.slice Au lu cu):=fun x=>(hB2.below x.2).cell 1
 refine wp_region_hyb [(0,true),(2,true),(3,true),(1,false),(4,false),(5,true)] rfl (by kernel_rfl) ?_
 iterate 3 (refine hyb_calm rfl (fun K hK=>?_);go_simp;refine hK _ ?_;clear hK K)
 refine hyb_alone rfl (fun w2 hn2 K hK=>?_)
 go_simp
 refine (shl_n _ s KB 1 _ ((hvr.below hn2).few hsx (by omega)) KB_le (by decide) (by decide)).mono ?_;rintro e w3 ⟨v3,rfl,hv3,hw3⟩
 have hv3:=hv3.cast (show shV s 1=s * 2 from rfl)
 refine hK _ _ hw3 ?_
 clear hK K
 refine hyb_alone rfl (fun w4 hn4 K hK=>?_)
 go_simp
 have hN4:Nx w w4:=Nx.trans (Nx.trans (Nx.trans hN1 hn2) hw3) hn4
 refine (cmp_n _ _ (s * 2) y KB _ ((hv3.below hn4).few (show s * 2<2 ^ (j+1) by rw [Nat.pow_succ];omega) (by omega)) ((hu.below hN4).few hy (by omega)) KB_le).mono ?_;rintro e w5 ⟨rfl,hw5⟩
 rw [HC.out]
 refine hK _ _ hw5 ?_
 clear hK K
 refine hyb_calm rfl (fun K hK=>?_);go_simp;refine hK _ ?_;clear hK K
 refine hyb_nil (fun w6 hn6=>?_)
 have hN6:Nx w w6:=Nx.trans (Nx.trans hN4 hw5) hn6
 clear q0 q1 c0 c1
 have hup:∀ Q:Nat,rnd x y=Q→(Q:Int)≤18446744073709551615:=fun Q h=>by have:=HQL.out;omega
 have HUP:=Lib.hid hup
 clear hup
 rcases hcv with rfl | rfl | rfl
 ·have hr1:rnd x y=q+1:=by rw [HRN.out,if_pos (.inl rfl)]
  have hq1:=HUP.out _ hr1
  have hq2:(q:Int)≤18446744073709551614:=by omega
  have HR1:=Lib.hid hr1
  clear hr1 hq1
  go_wp2_with fail
  go_ret
  exact ⟨by rw [HR1.out];rfl,hN6⟩
 ·by_cases hodd:q % 2=1
  ·have hr1:rnd x y=q+1:=by rw [HRN.out,if_pos (.inr ⟨rfl,hodd⟩)]
   have hq1:=HUP.out _ hr1
   have hq2:(q:Int)≤18446744073709551614:=by omega
   have b1:((q:Int) % 2 == 1)=true:=by rw [beq_iff_eq];omega
   have HR1:=Lib.hid hr1
   clear hr1 hq1 hodd
   go_wp2_with fail
   go_ret
   exact ⟨by rw [HR1.out];rfl,hN6⟩
  ·have hr1:rnd x y=q:=by rw [HRN.out,if_neg (by omega)]
   have b1:((q:Int) % 2 == 1)=false:=by rw [beq_eq_false_iff_ne];omega
   have HR1:=Lib.hid hr1
   clear hr1 hodd
   go_wp2_with fail
   go_ret
   exact ⟨by rw [HR1.out];rfl,hN6⟩
 ·have hr1:rnd x y=q:=by rw [HRN.out,if_neg (by omega)]
  have HR1:=Lib.hid hr1
  clear hr1
  go_wp2_with fail
  go_ret
  exact ⟨by rw [HR1.out];rfl,hN6⟩
end Go.Proofs.YtjggghfekakogaaGreatDoor
namespace Go.Proofs.YtjggghfekakogaaGreatDoor
open Go.RowKit
end Go.Proofs.YtjggghfekakogaaGreatDoor
namespace Go.Proofs.YtjggghfekakogaaGreatDoor
open Go.RowKit
def Tx (s:ByteArray) (l:List UInt8):Prop:=s.data.toList=l
theorem Tx.size {s:ByteArray} {l:List UInt8} (h:Tx s l):s.size=l.length:=by rw [Lib.size_eq,show s.data.toList=l from h]
theorem Tx.eq {s:ByteArray} {l:List UInt8} (h:Tx s l):s=⟨l.toArray⟩:=by rw [← show s.data.toList=l from h,Lib.mk_data]
theorem Tx.toL {s:ByteArray} {l:List UInt8} (h:Tx s l):s.toList=l:=by rw [Lib.toList_data];exact h
theorem Tx.of (l:List UInt8):Tx ⟨l.toArray⟩ l:=by unfold Tx;rfl
theorem Tx.nil {s:ByteArray} (h:Tx s []):s.toList=[]∧s.size=0:=⟨h.toL,h.size⟩
theorem Tx.cons {s:ByteArray} {c:UInt8} {l:List UInt8} (h:Tx s (c :: l)):∃ (hp:0<s.size) (t:ByteArray),s[0]'hp=c∧s.extract 1 s.size=t∧Tx t l∧¬ s.toList=[]∧s.toList.isEmpty=false:=by
 have hz:s.size=l.length+1:=by rw [h.size];rfl
 refine ⟨by omega,s.extract 1 s.size,?_,rfl,?_,by rw [h.toL];simp,by rw [h.toL];rfl⟩
 ·obtain ⟨⟨d⟩⟩:=s
  obtain rfl:d=c :: l:=h
  rfl
 ·unfold Tx
  rw [Lib.extract_data,show s.data.toList=c :: l from h,hz]
  simp
end Go.Proofs.YtjggghfekakogaaGreatDoor
namespace Go.Proofs.YtjggghfekakogaaGreatDoor
open Go.RowKit
def decF:Nat→Nat→List UInt8
 | 0,n=>[UInt8.ofNat (48+n % 10)]
 | f+1,n=>if n<10 then [UInt8.ofNat (48+n % 10)] else decF f (n / 10)++[UInt8.ofNat (48+n % 10)]
def decS (n:Nat):List UInt8:=decF n n
theorem decF_more (f g n:Nat) (h1:n≤f) (h2:n≤g):decF f n=decF g n:=by
 induction f generalizing g n with
 | zero =>
  obtain rfl:n=0:=by omega
  cases g with
  | zero=>rfl
  | succ g=>simp [decF]
 | succ f ih =>
  cases g with
  | zero =>
   obtain rfl:n=0:=by omega
   simp [decF]
  | succ g =>
   unfold decF
   by_cases h:n<10
   ·rw [if_pos h,if_pos h]
   ·rw [if_neg h,if_neg h,ih g (n / 10) (by omega) (by omega)]
theorem decS_small (n:Nat) (h:n<10):decS n=[UInt8.ofNat (48+n % 10)]:=by
 unfold decS
 cases n with
 | zero=>rfl
 | succ n=>unfold decF;rw [if_pos h]
theorem decS_step (n:Nat) (h:10≤n):decS n=decS (n / 10)++[UInt8.ofNat (48+n % 10)]:=by
 unfold decS
 obtain ⟨m,rfl⟩:∃ m,n=m+1:=⟨n - 1,by omega⟩
 conv=>lhs;unfold decF
 rw [if_neg (by omega),decF_more m ((m+1) / 10) ((m+1) / 10) (by omega) (Nat.le_refl _)]
theorem decS_len (k n:Nat) (h:n<10 ^ (k+1)):(decS n).length≤k+1:=by
 induction k generalizing n with
 | zero=>rw [decS_small n (by simpa using h)];simp
 | succ k ih =>
  by_cases h10:n<10
  ·rw [decS_small n h10];simp
  ·rw [decS_step n (by omega),List.length_append]
   have:=ih (n / 10) (by rw [Nat.pow_succ] at h;omega)
   simp;omega
theorem decS_pos (n:Nat):1≤(decS n).length:=by
 by_cases h:n<10
 ·rw [decS_small n h];simp
 ·rw [decS_step n (by omega)];simp
def tenS (v:Int):List UInt8:=if v<0 then 45 :: decS (-v).toNat else decS v.toNat
end Go.Proofs.YtjggghfekakogaaGreatDoor
