/- The contracts of dec's numbers over one another: less than one, the logarithm of 2, the nearest number. The contracts of dec: the nearest binary64 to a fraction, to an integer; the number that bits are. Texts as lists of bytes. Plain lemmas. A number's decimal digits as bytes. Plain lemmas. The decimal digits that are shown: plain lemmas. The contracts of the document's answers for big: entries, lists without noughts behind, order, sums. -/
import Derived.Test.YtjggghfekakogaaGreatDoorH05
import Derived.Test.YtjggghfekakogaaGreatDoorProg
import Derived.Test.YtjggghfekakogaaGreatDoorH00
import Derived.Test.YtjggghfekakogaaGreatDoorH04
import Derived.WalkSpells
import Derived.Deep.QuietTactic
import Derived.BigQuiet
import Derived.Lib.Strings
import Derived.Lib.TrimByte
import Derived.Laws.Bits64b
import Derived.Test.YtjggghfekakogaaGreatDoorH01
set_option linter.unusedVariables false
set_option linter.unusedSimpArgs false
set_option linter.unnecessarySimpa false
namespace Go.Proofs.YtjggghfekakogaaGreatDoor
open Go.RowKit
set_option maxRecDepth 100000 in
set_option maxHeartbeats 1600000 in
theorem below1_any (r:Value) (x y j:Nat) (w:World) (h:Ra w r x y j) (hj:j≤150000) :
  Calls Tryz.prog 249 #[r] w fun e w'=>e = .returned (.bool (decide (x<y)))∧Nx w w':=by
 obtain ⟨v,u,rfl,hv,hu,hx,hy⟩:=h
 obtain ⟨Av,lv,cv,rfl⟩:=hv.sl
 obtain ⟨Au,lu,cu,rfl⟩:=hu.sl
 obtain ⟨C,HC⟩:∃ C,Hid (cmpI x y=C):=⟨_,rfl⟩
 have hres:decide (C<0)=decide (x<y):=by
  rw [← HC.out];unfold cmpI
  by_cases h1:x<y
  ·rw [if_pos h1];simp [h1]
  ·rw [if_neg h1];split <;> simp [h1]
 have HR:=Lib.hid hres
 obtain ⟨b,hb⟩:∃ b,decide (C<0)=b:=⟨_,rfl⟩
 rw [← HR.out,hb]
 clear hres
 go_enter Tryz.func249,Tryz.ntmps249
 go_wp2_with fail
 have hn0:=nx0 w (Obj.cells #[Value.slice Av lv cv,Value.slice Au lu cu] 177)
 refine (cmp_n _ _ x y KB _ ((hv.below hn0).few hx hj) ((hu.below hn0).few hy hj) KB_le).mono ?_;rintro e w1 ⟨rfl,hw1⟩
 rw [HC.out]
 go_wp2_with fail
 go_ret
 exact ⟨rfl,nx hn0 hw1⟩
def GE2 (x y:Nat) (p:Int):Prop:=y * 2 ^ p.toNat≤x * 2 ^ (-p).toNat
theorem blen_pos (x:Nat) (h:x≠0):1≤blen x∧2 ^ (blen x - 1)≤x∧x<2 ^ blen x:=by
 unfold blen
 rw [if_neg h]
 exact ⟨by omega,by simpa using Nat.log2_self_le h,(Nat.log2_lt h).1 (by omega)⟩
theorem blen_lt (x j:Nat) (h:x<2 ^ j):blen x≤j:=by
 unfold blen
 split
 ·omega
 ·rename_i h0
  have:=(Nat.log2_lt h0).2 h
  omega
theorem ge2_iff (x y:Nat) (p:Int) (a b:Nat) (h:(a:Int) - b=p):GE2 x y p↔y * 2 ^ a≤x * 2 ^ b:=by
 unfold GE2
 rcases Int.le_total 0 p with h0 | h0
 ·obtain ⟨n,rfl⟩:=Int.eq_ofNat_of_zero_le h0
  obtain rfl:a=b+n:=by omega
  rw [show ((n:Int)).toNat=n from by omega,show (-(n:Int)).toNat=0 from by omega,Nat.pow_zero,Nat.mul_one,Nat.pow_add,Nat.mul_comm (2 ^ b),← Nat.mul_assoc]
  exact (Nat.mul_le_mul_right_iff (Nat.pow_pos (by decide))).symm
 ·obtain ⟨n,hn⟩:=Int.eq_ofNat_of_zero_le (a:=-p) (by omega)
  obtain rfl:b=a+n:=by omega
  rw [show p.toNat=0 from by omega,show (-p).toNat=n from by omega,Nat.pow_zero,Nat.mul_one,Nat.pow_add,Nat.mul_comm (2 ^ a) (2 ^ n),← Nat.mul_assoc]
  exact (Nat.mul_le_mul_right_iff (Nat.pow_pos (by decide))).symm
theorem ge2_len (x y:Nat) (hx:x≠0) (hy:y≠0):GE2 x y ((blen x:Int) - blen y - 1)∧¬ GE2 x y ((blen x:Int) - blen y+1):=by
 obtain ⟨a1,a2,a3⟩:=blen_pos x hx
 obtain ⟨b1,b2,b3⟩:=blen_pos y hy
 constructor
 ·rw [ge2_iff x y _ (blen x - 1) (blen y) (by omega)]
  calc y * 2 ^ (blen x - 1)≤2 ^ blen y * 2 ^ (blen x - 1):=Nat.mul_le_mul_right _ (by omega)
   _=2 ^ (blen x - 1) * 2 ^ blen y:=Nat.mul_comm _ _
   _≤x * 2 ^ blen y:=Nat.mul_le_mul_right _ a2
 ·rw [ge2_iff x y _ (blen x) (blen y - 1) (by omega),Nat.not_le]
  calc x * 2 ^ (blen y - 1)<2 ^ blen x * 2 ^ (blen y - 1):=Nat.mul_lt_mul_of_pos_right a3 (Nat.pow_pos (by decide))
   _=2 ^ (blen y - 1) * 2 ^ blen x:=Nat.mul_comm _ _
   _≤y * 2 ^ blen x:=Nat.mul_le_mul_right _ b2
set_option maxRecDepth 100000 in
set_option maxHeartbeats 1600000 in
theorem log2_any (r:Value) (x y j:Nat) (w:World) (h:Ra w r x y j) (hj:j≤20000) (hx0:x≠0) (hy0:y≠0) :
  Calls Tryz.prog 248 #[r] w fun e w'=>∃ L:Int,e = .returned (.int .i64 L)∧Hid (GE2 x y L∧¬ GE2 x y (L+1))∧-(j:Int) - 1≤L∧L≤j∧Nx w w':=by
 have HX:=Lib.hid h
 obtain ⟨v,u,rfl,hv,hu,hx,hy⟩:=h
 obtain ⟨Av,lv,cv,rfl⟩:=hv.sl
 obtain ⟨Au,lu,cu,rfl⟩:=hu.sl
 obtain ⟨bx,HBX⟩:∃ b,Hid (blen x=b):=⟨_,rfl⟩
 obtain ⟨bYl,HBY⟩:∃ b,Hid (blen y=b):=⟨_,rfl⟩
 have hbx:bx≤j:=by rw [← HBX.out];exact blen_lt _ _ hx
 have hby:bYl≤j:=by rw [← HBY.out];exact blen_lt _ _ hy
 have hlen:=ge2_len x y hx0 hy0
 rw [HBX.out,HBY.out] at hlen
 have HLEN:=Lib.hid hlen
 clear hlen
 obtain ⟨n,hn⟩:∃ n:Int,(bx:Int) - (bYl:Int)=n:=⟨_,rfl⟩
 obtain ⟨m,hm⟩:∃ m:Int,-n=m:=⟨_,rfl⟩
 have hwr:IntKind.i64.wrap m=m:=wrap64 _ (by omega) (by omega)
 have hwn:IntKind.i64.wrap n=n:=wrap64 _ (by omega) (by omega)
 have hn1' : -20000≤n:=by omega
 have hn2':n≤20000:=by omega
 obtain ⟨b,HB⟩:∃ b,Hid (decide (x * 2 ^ m.toNat<y * 2 ^ (-m).toNat)=b):=⟨_,rfl⟩
 have HG:Hid (b=true↔¬ GE2 x y n):=by
  unfold Hid GE2;rw [← HB.out,decide_eq_true_iff,Nat.not_le,← hm,Int.neg_neg]
 have hmb:m.natAbs≤20000:=by omega
 have hbn : -(j:Int)≤n∧n≤j:=by omega
 have HBN:=Lib.hid hbn
 clear hbn
 have HV:=Lib.hid hv
 have HU:=Lib.hid hu
 obtain ⟨g,hg⟩:∃ g,w.heap.size=g:=⟨_,rfl⟩
 go_enter Tryz.func248,Tryz.ntmps248
 go_wp2_with fail
 generalize hW:(w.alloc (Obj.cells #[.slice Av lv cv,.slice Au lu cu] _))=W
 have hN:Nx w W:=by rw [← hW];exact nx0 _ _
 have hB1:Blk W g g #[.slice Av lv cv,.slice Au lu cu] 177:=by rw [← hW,← hg];exact Blk.new w _ _
 have q0:∀ x:Gr W,x.1.cell? ⟨g,0,none⟩=some (.slice Av lv cv):=fun x=>(hB1.below x.2).cell 0
 have q1:∀ x:Gr W,x.1.cell? ⟨g,1,none⟩=some (.slice Au lu cu):=fun x=>(hB1.below x.2).cell 1
 refine wp_region_hyb [(0,true),(1,true),(3,true),(4,true),(2,false),(5,false),(6,true),(7,true)] rfl (by kernel_rfl) ?_
 iterate 4 (refine hyb_calm rfl (fun K hK=>?_);go_simp;refine hK _ ?_;clear hK K)
 refine hyb_alone rfl (fun w1 hn1 K hK=>?_)
 go_simp
 refine (bits_n _ x KB _ ((hv.below (Nx.trans hN hn1)).few hx (by omega)) KB_le).mono ?_;rintro e w' ⟨rfl,rfl⟩
 rw [HBX.out]
 refine hK _ _ (Nx.refl _) ?_
 clear hK K
 refine hyb_alone rfl (fun w2 hn2 K hK=>?_)
 go_simp
 refine (bits_n _ y KB _ ((hu.below (Nx.trans (Nx.trans hN hn1) hn2)).few hy (by omega)) KB_le).mono ?_;rintro e w' ⟨rfl,rfl⟩
 rw [HBY.out]
 refine hK _ _ (Nx.refl _) ?_
 clear hK K
 iterate 2 (refine hyb_calm rfl (fun K hK=>?_);go_simp;refine hK _ ?_;clear hK K)
 refine hyb_nil (fun w3 hn3=>?_)
 have hN3:Nx w w3:=Nx.trans (Nx.trans (Nx.trans hN hn1) hn2) hn3
 have hB3:=hB1.below (Nx.trans (Nx.trans hn1 hn2) hn3)
 have c0:w3.cell? ⟨g,0,none⟩=some (.slice Av lv cv):=hB3.cell 0
 have c1:w3.cell? ⟨g,1,none⟩=some (.slice Au lu cu):=hB3.cell 1
 clear q0 q1
 go_wp2_with fail
 refine (timesTwo_any _ x y j m _ (HX.out.below hN3) (by omega) (by omega) (by omega)).mono ?_;rintro e w4 ⟨r4,rfl,hR4,hw4⟩
 obtain ⟨v4,u4,rfl,hv4,hu4,hx4,hy4⟩:=hR4
 have HR4:=Lib.hid (show Ra w4 (.agg #[v4,u4]) _ _ _ from ⟨v4,u4,rfl,hv4,hu4,hx4,hy4⟩)
 clear hv4 hu4 hx4 hy4
 go_wp2_with fail
 refine (below1_any _ _ _ _ _ HR4.out (by omega)).mono ?_;rintro e w5 ⟨rfl,hw5⟩
 rw [HB.out]
 have hN5:Nx w w5:=Nx.trans (Nx.trans hN3 hw4) hw5
 have hl:=HLEN.out
 rw [hn] at hl
 have HL:=Lib.hid hl
 clear hl hn hm
 cases b
 ·go_wp2_with fail
  go_ret
  refine ⟨n,rfl,⟨?_,HL.out.2⟩,by have:=HBN.out;omega,HBN.out.2,hN5⟩
  have:=HG.out
  simpa using this
 ·go_wp2_with fail
  go_ret
  refine ⟨n - 1,rfl,⟨HL.out.1,?_⟩,by have:=HBN.out;omega,by have:=HBN.out;omega,hN5⟩
  rw [Int.sub_add_cancel]
  have:=HG.out;simpa using this
set_option maxRecDepth 100000 in
set_option maxHeartbeats 1600000 in
theorem rounded_any (r:Value) (x y j:Nat) (w:World) (h:Ra w r x y j) (hj:j≤100000) (hy0:y≠0) (hq:rnd x y<18446744073709551616) :
  Calls Tryz.prog 207 #[r] w fun e w'=>e = .returned (.int .u64 (rnd x y:Nat))∧Nx w w':=by
 obtain ⟨v,u,rfl,hv,hu,hx,hy⟩:=h
 obtain ⟨Av,lv,cv,rfl⟩:=hv.sl
 obtain ⟨Au,lu,cu,rfl⟩:=hu.sl
 obtain ⟨q,HQ⟩:∃ q,Hid (x / y=q):=⟨_,rfl⟩
 obtain ⟨s,HS⟩:∃ q,Hid (x % y=q):=⟨_,rfl⟩
 obtain ⟨C,HC⟩:∃ C,Hid (cmpI (s * 2) y=C):=⟨_,rfl⟩
 have hsx:s<2 ^ j:=Nat.lt_of_le_of_lt (by rw [← HS.out];exact Nat.mod_le _ _) hx
 have hlo:=rnd_lo x y
 rw [HQ.out] at hlo
 have hq64:q<18446744073709551616:=by omega
 have hrn:rnd x y=if C=1∨C=0∧q % 2=1 then q+1 else q:=by
  unfold rnd
  rw [HQ.out,HS.out,← HC.out]
  unfold cmpI
  by_cases h1:s * 2<y
  ·rw [if_pos h1,if_neg (by omega),if_neg (by omega)]
  ·by_cases h2:y<s * 2
   ·rw [if_neg h1,if_pos h2,if_pos (by omega),if_pos (by omega)]
   ·rw [if_neg h1,if_neg h2]
    by_cases h3:q % 2=1
    ·rw [if_pos (by omega),if_pos (by omega)]
    ·rw [if_neg (by omega),if_neg (by omega)]
 have hcv:C=1∨C=0∨C = -1:=by
  rw [← HC.out];unfold cmpI;split
  ·exact .inr (.inr rfl)
  ·split
   ·exact .inl rfl
   ·exact .inr (.inl rfl)
 have HRN:=Lib.hid hrn
 have HQL:=Lib.hid hq
 have hmod:q % 18446744073709551616=q:=Nat.mod_eq_of_lt hq64
 have HM:=Lib.hid hmod
 have hq0:(q:Int)≤18446744073709551615:=by omega
 clear hrn hlo hmod hq hq64
 obtain ⟨g,hg⟩:∃ g,w.heap.size=g:=⟨_,rfl⟩
 go_enter Tryz.func207,Tryz.ntmps207
 go_wp2_with fail
 have hN:Nx w (w.alloc (Obj.cells #[.slice Av lv cv,.slice Au lu cu] 177)):=nx0 _ _
 have hB1:Blk (w.alloc (Obj.cells #[.slice Av lv cv,.slice Au lu cu] 177)) g g #[.slice Av lv cv,.slice Au lu cu] 177:=by rw [← hg];exact Blk.new w _ _
 refine (div_n _ _ x y KB _ ((hv.below hN).few hx (by omega)) ((hu.below hN).few hy (by omega)) KB_le).mono ?_;rintro e w1 ⟨vq,vr,ok,rfl,hdiv,hw1⟩
 unfold DivN at hdiv
 rw [if_neg hy0,HQ.out,HS.out] at hdiv
 obtain ⟨hvq,hvr,rfl⟩:=hdiv
 have hN1:=Nx.trans hN hw1
 have hB2:=hB1.below hw1
 have c0:w1.cell? ⟨g,0,none⟩=some (.slice Av lv cv):=hB2.cell 0
 have c1:w1.cell? ⟨g,1,none⟩=some (.slice Au lu cu):=hB2.cell 1
 obtain ⟨Aq,lq,cq,rfl⟩:=hvq.sl
 obtain ⟨Ar,lr,cr,rfl⟩:=hvr.sl
 go_wp2_with fail
 refine (low_n _ q 2 _ (hvq.num (by omega)) (by decide)).mono ?_;rintro e w' ⟨rfl,rfl⟩
 rw [HM.out]
 go_wp2_with fail
 have q0:∀ x:Gr w1,x.1.cell? ⟨g,0,none⟩=some (.slice Av lv cv):=fun x=>(hB2.below x.2).cell 0
 have q1:∀ x:Gr w1,x.1.cell? ⟨g,1,none⟩=some (.slice Au lu cu):=fun x=>(hB2.below x.2).cell 1
 refine wp_region_hyb [(0,true),(2,true),(3,true),(1,false),(4,false),(5,true)] rfl (by kernel_rfl) ?_
 iterate 3 (refine hyb_calm rfl (fun K hK=>?_);go_simp;refine hK _ ?_;clear hK K)
 refine hyb_alone rfl (fun w2 hn2 K hK=>?_)
 go_simp
 refine (shl_n _ s KB 1 _ ((hvr.below hn2).few hsx (by omega)) KB_le (by decide) (by decide)).mono ?_;rintro e w3 ⟨v3,rfl,hv3,hw3⟩
 have hv3:=hv3.cast (show shV s 1=s * 2 from rfl)
 refine hK _ _ hw3 ?_
 clear hK K
 refine hyb_alone rfl (fun w4 hn4 K hK=>?_)
 go_simp
 have hN4:Nx w w4:=Nx.trans (Nx.trans (Nx.trans hN1 hn2) hw3) hn4
 refine (cmp_n _ _ (s * 2) y KB _ ((hv3.below hn4).few (show s * 2<2 ^ (j+1) by rw [Nat.pow_succ];omega) (by omega)) ((hu.below hN4).few hy (by omega)) KB_le).mono ?_;rintro e w5 ⟨rfl,hw5⟩
 rw [HC.out]
 refine hK _ _ hw5 ?_
 clear hK K
 refine hyb_calm rfl (fun K hK=>?_);go_simp;refine hK _ ?_;clear hK K
 refine hyb_nil (fun w6 hn6=>?_)
 have hN6:Nx w w6:=Nx.trans (Nx.trans hN4 hw5) hn6
 clear q0 q1 c0 c1
 have hup:∀ Q:Nat,rnd x y=Q→(Q:Int)≤18446744073709551615:=fun Q h=>by have:=HQL.out;omega
 have HUP:=Lib.hid hup
 clear hup
 rcases hcv with rfl | rfl | rfl
 ·have hr1:rnd x y=q+1:=by rw [HRN.out,if_pos (.inl rfl)]
  have hq1:=HUP.out _ hr1
  have hq2:(q:Int)≤18446744073709551614:=by omega
  have HR1:=Lib.hid hr1
  clear hr1 hq1
  go_wp2_with fail
  go_ret
  exact ⟨by rw [HR1.out];rfl,hN6⟩
 ·by_cases hodd:q % 2=1
  ·have hr1:rnd x y=q+1:=by rw [HRN.out,if_pos (.inr ⟨rfl,hodd⟩)]
   have hq1:=HUP.out _ hr1
   have hq2:(q:Int)≤18446744073709551614:=by omega
   have b1:((q:Int) % 2 == 1)=true:=by rw [beq_iff_eq];omega
   have HR1:=Lib.hid hr1
   clear hr1 hq1 hodd
   go_wp2_with fail
   go_ret
   exact ⟨by rw [HR1.out];rfl,hN6⟩
  ·have hr1:rnd x y=q:=by rw [HRN.out,if_neg (by omega)]
   have b1:((q:Int) % 2 == 1)=false:=by rw [beq_eq_false_iff_ne];omega
   have HR1:=Lib.hid hr1
   clear hr1 hodd
   go_wp2_with fail
   go_ret
   exact ⟨by rw [HR1.out];rfl,hN6⟩
 ·have hr1:rnd x y=q:=by rw [HRN.out,if_neg (by omega)]
  have HR1:=Lib.hid hr1
  clear hr1
  go_wp2_with fail
  go_ret
  exact ⟨by rw [HR1.out];rfl,hN6⟩
end Go.Proofs.YtjggghfekakogaaGreatDoor
namespace Go.Proofs.YtjggghfekakogaaGreatDoor
open Go.RowKit
end Go.Proofs.YtjggghfekakogaaGreatDoor
namespace Go.Proofs.YtjggghfekakogaaGreatDoor
open Go.RowKit
def Tx (s:ByteArray) (l:List UInt8):Prop:=s.data.toList=l
theorem Tx.size {s:ByteArray} {l:List UInt8} (h:Tx s l):s.size=l.length:=by rw [Lib.size_eq,show s.data.toList=l from h]
theorem Tx.eq {s:ByteArray} {l:List UInt8} (h:Tx s l):s=⟨l.toArray⟩:=by rw [← show s.data.toList=l from h,Lib.mk_data]
theorem Tx.toL {s:ByteArray} {l:List UInt8} (h:Tx s l):s.toList=l:=by rw [Lib.toList_data];exact h
theorem Tx.of (l:List UInt8):Tx ⟨l.toArray⟩ l:=by unfold Tx;rfl
theorem Tx.nil {s:ByteArray} (h:Tx s []):s.toList=[]∧s.size=0:=⟨h.toL,h.size⟩
theorem Tx.cons {s:ByteArray} {c:UInt8} {l:List UInt8} (h:Tx s (c :: l)):∃ (hp:0<s.size) (t:ByteArray),s[0]'hp=c∧s.extract 1 s.size=t∧Tx t l∧¬ s.toList=[]∧s.toList.isEmpty=false:=by
 have hz:s.size=l.length+1:=by rw [h.size];rfl
 refine ⟨by omega,s.extract 1 s.size,?_,rfl,?_,by rw [h.toL];simp,by rw [h.toL];rfl⟩
 ·obtain ⟨⟨d⟩⟩:=s
  obtain rfl:d=c :: l:=h
  rfl
 ·unfold Tx
  rw [Lib.extract_data,show s.data.toList=c :: l from h,hz]
  simp
theorem Tx.idx {s:ByteArray} {l:List UInt8} (h:Tx s l) (i:Nat) (hi:i<l.length):∃ hp:i<s.size,s[i]'hp=l[i]:=by
 refine ⟨by rw [h.size];exact hi,?_⟩
 obtain ⟨⟨d⟩⟩:=s
 obtain rfl:d=l:=h
 rfl
end Go.Proofs.YtjggghfekakogaaGreatDoor
namespace Go.Proofs.YtjggghfekakogaaGreatDoor
open Go.RowKit
def decF:Nat→Nat→List UInt8
 | 0,n=>[UInt8.ofNat (48+n % 10)]
 | f+1,n=>if n<10 then [UInt8.ofNat (48+n % 10)] else decF f (n / 10)++[UInt8.ofNat (48+n % 10)]
def decS (n:Nat):List UInt8:=decF n n
theorem decF_more (f g n:Nat) (h1:n≤f) (h2:n≤g):decF f n=decF g n:=by
 induction f generalizing g n with
 | zero =>
  obtain rfl:n=0:=by omega
  cases g with
  | zero=>rfl
  | succ g=>simp [decF]
 | succ f ih =>
  cases g with
  | zero =>
   obtain rfl:n=0:=by omega
   simp [decF]
  | succ g =>
   unfold decF
   by_cases h:n<10
   ·rw [if_pos h,if_pos h]
   ·rw [if_neg h,if_neg h,ih g (n / 10) (by omega) (by omega)]
theorem decS_small (n:Nat) (h:n<10):decS n=[UInt8.ofNat (48+n % 10)]:=by
 unfold decS
 cases n with
 | zero=>rfl
 | succ n=>unfold decF;rw [if_pos h]
theorem decS_step (n:Nat) (h:10≤n):decS n=decS (n / 10)++[UInt8.ofNat (48+n % 10)]:=by
 unfold decS
 obtain ⟨m,rfl⟩:∃ m,n=m+1:=⟨n - 1,by omega⟩
 conv=>lhs;unfold decF
 rw [if_neg (by omega),decF_more m ((m+1) / 10) ((m+1) / 10) (by omega) (Nat.le_refl _)]
theorem decS_len (k n:Nat) (h:n<10 ^ (k+1)):(decS n).length≤k+1:=by
 induction k generalizing n with
 | zero=>rw [decS_small n (by simpa using h)];simp
 | succ k ih =>
  by_cases h10:n<10
  ·rw [decS_small n h10];simp
  ·rw [decS_step n (by omega),List.length_append]
   have:=ih (n / 10) (by rw [Nat.pow_succ] at h;omega)
   simp;omega
theorem decS_pos (n:Nat):1≤(decS n).length:=by
 by_cases h:n<10
 ·rw [decS_small n h];simp
 ·rw [decS_step n (by omega)];simp
def tenS (v:Int):List UInt8:=if v<0 then 45 :: decS (-v).toNat else decS v.toNat
end Go.Proofs.YtjggghfekakogaaGreatDoor
namespace Go.Proofs.YtjggghfekakogaaGreatDoor
open Go.RowKit
def exM (b:Nat):Nat:=if b / 4503599627370496=0 then b % 4503599627370496 else b % 4503599627370496+4503599627370496
def exP (b:Nat):Int:=if b / 4503599627370496=0 then -1074 else ((b / 4503599627370496:Nat):Int) - 1075
def GE10 (x y:Nat) (p:Int):Prop:=y * 10 ^ p.toNat≤x * 10 ^ (-p).toNat
theorem ge10_iff (x y:Nat) (p:Int) (a b:Nat) (h:(a:Int) - b=p):GE10 x y p↔y * 10 ^ a≤x * 10 ^ b:=by
 unfold GE10
 rcases Int.le_total 0 p with h0 | h0
 ·obtain ⟨n,rfl⟩:=Int.eq_ofNat_of_zero_le h0
  obtain rfl:a=b+n:=by omega
  rw [show ((n:Int)).toNat=n from by omega,show (-(n:Int)).toNat=0 from by omega,Nat.pow_zero,Nat.mul_one,Nat.pow_add,Nat.mul_comm (10 ^ b),← Nat.mul_assoc]
  exact (Nat.mul_le_mul_right_iff (Nat.pow_pos (by decide))).symm
 ·obtain ⟨n,hn⟩:=Int.eq_ofNat_of_zero_le (a:=-p) (by omega)
  obtain rfl:b=a+n:=by omega
  rw [show p.toNat=0 from by omega,show (-p).toNat=n from by omega,Nat.pow_zero,Nat.mul_one,Nat.pow_add,Nat.mul_comm (10 ^ a) (10 ^ n),← Nat.mul_assoc]
  exact (Nat.mul_le_mul_right_iff (Nat.pow_pos (by decide))).symm
theorem ge10_mono {x y:Nat} {p q:Int} (h:GE10 x y q) (hpq:p≤q):GE10 x y p:=by
 obtain ⟨b,a,a',h1,h2,h3⟩:∃ b a a':Nat,(a:Int) - b=p∧(a':Int) - b=q∧a≤a':=⟨p.natAbs+q.natAbs,(p+(p.natAbs+q.natAbs)).toNat,(q+(p.natAbs+q.natAbs)).toNat,by omega,by omega,by omega⟩
 rw [ge10_iff x y p a b h1]
 rw [ge10_iff x y q a' b h2] at h
 exact Nat.le_trans (Nat.mul_le_mul_left _ (Nat.pow_le_pow_right (by decide) h3)) h
theorem two_ten:2 ^ (3 * 400)≤10 ^ (400:Nat):=by
 obtain ⟨k,hk⟩:∃ k:Nat,k=400:=⟨_,rfl⟩
 rw [← hk,Nat.pow_mul]
 exact Nat.pow_le_pow_left (by decide) k
def exX (b:Nat):Nat:=exM b * 2 ^ (exP b).toNat
def exY (b:Nat):Nat:=1 * 2 ^ (-exP b).toNat
theorem exP_b (b:Nat) (hb:b<LIM) : -1074≤exP b∧exP b≤971:=by
 unfold exP;unfold LIM at hb;split <;> omega
theorem exM_b (b:Nat) (h0:b≠0):1≤exM b∧exM b<9007199254740992:=by
 unfold exM;split <;> omega
theorem exY_pos (b:Nat):0<exY b:=by unfold exY;rw [Nat.one_mul];exact Nat.pow_pos (by decide)
theorem exX_pos (b:Nat) (h0:b≠0):0<exX b:=Nat.mul_pos (exM_b b h0).1 (Nat.pow_pos (by decide))
theorem ex_lo (b:Nat) (hb:b<LIM) (h0:b≠0):GE10 (exX b) (exY b) (-400):=by
 have h1:=exP_b b hb
 have h2:=exX_pos b h0
 have h3:=two_ten
 unfold GE10
 rw [show ((-400:Int)).toNat=0 from rfl,Nat.pow_zero,Nat.mul_one,show (- (-400:Int)).toNat=400 from rfl]
 unfold exY
 rw [Nat.one_mul]
 calc 2 ^ (-exP b).toNat≤2 ^ (3 * 400):=Nat.pow_le_pow_right (by decide) (by omega)
  _≤10 ^ 400:=h3
  _≤exX b * 10 ^ 400:=Nat.le_mul_of_pos_left _ h2
theorem ex_hi (b:Nat) (hb:b<LIM) (h0:b≠0):¬ GE10 (exX b) (exY b) 400:=by
 have h1:=exP_b b hb
 have h2:=exM_b b h0
 have h3:=two_ten
 have h4:=exY_pos b
 unfold GE10
 rw [show (-(400:Int)).toNat=0 from rfl,Nat.pow_zero,Nat.mul_one,show ((400:Int)).toNat=400 from rfl,Nat.not_le]
 unfold exX
 calc exM b * 2 ^ (exP b).toNat<2 ^ 53 * 2 ^ (exP b).toNat:=Nat.mul_lt_mul_of_pos_right (by omega) (Nat.pow_pos (by decide))
  _=2 ^ (53+(exP b).toNat):=(Nat.pow_add ..).symm
  _≤2 ^ (3 * 400):=Nat.pow_le_pow_right (by decide) (by omega)
  _≤10 ^ 400:=h3
  _≤exY b * 10 ^ 400:=Nat.le_mul_of_pos_left _ h4
def digQ (x y:Nat) (T:Int):Nat:=rnd (x * 10 ^ (16 - T).toNat) (y * 10 ^ (-(16 - T)).toNat)
theorem digQ_b (x y:Nat) (T:Int) (hy:0<y) (h1:GE10 x y T) (h2:¬ GE10 x y (T+1)):10000000000000000≤digQ x y T∧digQ x y T≤100000000000000000:=by
 have hY:0<y * 10 ^ (-(16 - T)).toNat:=Nat.mul_pos hy (Nat.pow_pos (by decide))
 rw [ge10_iff x y T ((-(16 - T)).toNat+16) (16 - T).toNat (by omega),Nat.pow_add,← Nat.mul_assoc] at h1
 rw [ge10_iff x y (T+1) ((-(16 - T)).toNat+17) (16 - T).toNat (by omega),Nat.pow_add,← Nat.mul_assoc,Nat.not_le] at h2
 unfold digQ
 exact ⟨rnd_ge _ _ _ hY (by omega),rnd_le _ _ _ hY (by omega)⟩
def tailS (l:List UInt8):List UInt8:=if Lib.trimRightB l 48=[] then [48] else Lib.trimRightB l 48
def showD (T:Int) (D:Nat):List UInt8:=(decS D).take 1++(46 :: (tailS ((decS D).drop 1)++(101 :: tenS (T+((decS D).length:Nat) - 17))))
def sgS (B:Nat):List UInt8:=if 9223372036854775808≤B then [45] else []
def ShowR (B:Nat) (l:List UInt8):Prop :=
 if LIM≤B % 9223372036854775808 then l=[]
 else if B % 9223372036854775808=0 then l=sgS B++[48,46,48,101,48]
 else ∃ T:Int,GE10 (exX (B % 9223372036854775808)) (exY (B % 9223372036854775808)) T∧¬ GE10 (exX (B % 9223372036854775808)) (exY (B % 9223372036854775808)) (T+1) ∧
  l=sgS B++showD T (digQ (exX (B % 9223372036854775808)) (exY (B % 9223372036854775808)) T)
theorem and63 (B:Nat) (hB:B<18446744073709551616):bits .and .u64 (B:Int) (9223372036854775808:Int)=if 9223372036854775808≤B then (9223372036854775808:Int) else 0:=by
 have h1:(9223372036854775808:Int)=((9223372036854775808:Nat):Int):=rfl
 rw [h1,bits_and_u64_nat _ _ (by omega) (by omega)]
 have h2:B &&& 9223372036854775808=if 9223372036854775808≤B then 9223372036854775808 else 0:=by
  have e:(9223372036854775808:Nat)=2 ^ 63:=rfl
  rw [e]
  by_cases h:2 ^ 63≤B
  ·have hb:B.testBit 63=true:=by rw [Nat.testBit_eq_decide_div_mod_eq];simp;omega
   rw [if_pos h]
   apply Nat.eq_of_testBit_eq
   intro i
   rw [Nat.testBit_and,Nat.testBit_two_pow]
   by_cases hi:63=i
   ·subst hi;rw [hb];rfl
   ·simp [hi]
  ·rw [if_neg h]
   apply Nat.eq_of_testBit_eq
   intro i
   rw [Nat.testBit_and,Nat.testBit_two_pow]
   by_cases hi:63=i
   ·subst hi;rw [Nat.testBit_lt_two_pow (by omega)];simp
   ·simp [hi]
 rw [h2]
 split <;> rfl
theorem trimB_len (l:List UInt8):(Lib.trimRightB l 48).length≤l.length:=by
 unfold Lib.trimRightB
 rw [List.length_reverse]
 exact Nat.le_trans (List.IsSuffix.length_le (List.dropWhile_suffix _)) (by simp)
theorem Tx.app2 {s t:ByteArray} {a b:List UInt8} (h:Tx s a) (g:Tx t b):Tx (s++t) (a++b):=by
 unfold Tx at *
 rw [← h,← g]
 simp
theorem Tx.sz {s:ByteArray} {l:List UInt8} (h:Tx s l) (k:Nat) (hk:l.length≤k):s.size≤k:=by rw [h.size];exact hk
theorem tenS_len (v:Int) (h1 : -1000≤v) (h2:v≤1000):(tenS v).length≤20:=by
 unfold tenS
 split
 ·have:=decS_len 3 (-v).toNat (by omega);simp;omega
 ·have:=decS_len 3 v.toNat (by omega);omega
theorem ge10_one {x y:Nat} {T S:Int} (h1:GE10 x y T) (h2:¬ GE10 x y (T+1)) (k1:GE10 x y S) (k2:¬ GE10 x y (S+1)):T=S:=by
 rcases Int.lt_trichotomy T S with h | h | h
 ·exact absurd (ge10_mono k1 (show T+1≤S by omega)) h2
 ·exact h
 ·exact absurd (ge10_mono h1 (show S+1≤T by omega)) k2
theorem showR_one {B:Nat} {l m:List UInt8} (h:ShowR B l) (k:ShowR B m):l=m:=by
 unfold ShowR at h k
 split at h
 ·rename_i h1
  rw [if_pos h1] at k
  rw [h,k]
 ·rename_i h1
  rw [if_neg h1] at k
  split at h
  ·rename_i h2
   rw [if_pos h2] at k
   rw [h,k]
  ·rename_i h2
   rw [if_neg h2] at k
   obtain ⟨T,a1,a2,a3⟩:=h
   obtain ⟨S,b1,b2,b3⟩:=k
   obtain rfl:=ge10_one a1 a2 b1 b2
   rw [a3,b3]
end Go.Proofs.YtjggghfekakogaaGreatDoor
namespace Go.Proofs.YtjggghfekakogaaGreatDoor
open Go.RowKit
set_option maxHeartbeats 400000 in
theorem refAt_any (A:Option Addr) (xs:List UInt32) (c:Nat) (i:Nat) (w:World) (hr:Rd uv w A xs) (hc:xs.length≤c) (hl:(xs.length:Int)≤1000000) (hi:(i:Int)≤1000000000) :
  Calls Tryz.prog 243 #[.slice A xs.length c,.int .i64 i] w fun e w'=>e = .returned (.int .u64 (ent xs i:Nat))∧w=w':=by
 by_cases hlt:i<xs.length
 ·obtain ⟨b,off,rfl,hb,hcell⟩:=hr.at_ (k:=i) hlt
  unfold uv at hcell
  have he:Hid (ent xs i=xs[i].toNat):=by unfold Hid ent;rw [List.getD,List.getElem?_eq_getElem hlt];rfl
  have hx:(xs[i].toNat:Int)≤4294967295:=by have:=xs[i].toNat_lt;omega
  have hd:decide (i<xs.length)=true:=decide_eq_true hlt
  go_enter Tryz.func243,Tryz.ntmps243
  go_wp2
  go_ret
  refine ⟨?_,rfl⟩
  rw [he.out]
  rfl
 ·have he:Hid (ent xs i=0):=by unfold Hid ent;rw [List.getD,List.getElem?_eq_none (by omega)];rfl
  have hd:decide (i<xs.length)=false:=decide_eq_false hlt
  go_enter Tryz.func243,Tryz.ntmps243
  go_wp2
  go_ret
  refine ⟨?_,rfl⟩
  rw [he.out]
  rfl
set_option maxHeartbeats 800000 in
theorem refNorm_any (A:Option Addr) (xs:List UInt32) (c:Nat) (w:World) (hr:Rd uv w A xs) (hc:xs.length≤c) (hm:c≤maxLen) (hl:(xs.length:Int)≤1000000) :
  Calls Tryz.prog 240 #[.slice A xs.length c] w fun e w'=>∃ v',e = .returned v'∧Own uv 202 w' w.heap.size v' (limbs (val xs))∧Below w.heap.size w w':=by
 unfold maxLen at hm
 go_enter Tryz.func240,Tryz.ntmps240
 go_wp2_with fail
 go_loop [3] (fun v=>∃ n:Nat,v = .int .i64 n∧n≤xs.length∧Hid (∀ j,n≤j→xs.getD j 0=0)) (fun v=>(intOf v).toNat)
 case atStart=>exact ⟨xs.length,rfl,Nat.le_refl _,fun j hj=>by rw [List.getD,List.getElem?_eq_none hj];rfl⟩
 case round =>
  obtain ⟨n,rfl,hn,HZ⟩:=hrel
  have fin:∀ (P:Prop),(Hid (xs.take n=limbs (val xs))→P)→(n=0∨xs.getD (n - 1) 0≠0)→P:=fun P h h'=>h (take_limbs xs n hn HZ.out h')
  by_cases h0:n=0
  ·subst h0
   have hz:=fin _ id (.inl rfl)
   go_wp2_with (first
    | (refine wpList_sl (f:=uv) _ uT rfl _ _ _ rfl A xs c rfl (hr.alloc _) hc 0 0 (.inl ⟨rfl,rfl⟩) (.inr ⟨_,_,rfl,rfl⟩) (by omega) (by omega) (by omega) ?_;intro A1 ys c1 hcut hc1 hc2;obtain ⟨hr1,HY,hlo,hhi⟩:=hcut)
    | (at_builtin;go_must (refine wpList_app (f:=uv) _ uT rfl _ _ rfl uv_one w.heap.size _ [] ys rfl (Own.empty w) _ _ rfl hr1 (by simp [maxLen];omega) (by simp;omega) (by simp) ?_;intro v1 w1 hown1 hbel1)))
   go_ret
   refine ⟨_,rfl,hown1.cast ?_,(nx0 w _).trans hbel1⟩
   rw [HY.out,← hz.out];simp
  ·obtain ⟨m,rfl⟩:∃ m,n=m+1:=⟨n - 1,by omega⟩
   obtain ⟨b,off,rfl,hb,hcell⟩:=hr.at_ (k:=m) (by omega)
   unfold uv at hcell
   have hg:xs.getD m 0=xs[m]:=by rw [List.getD,List.getElem?_eq_getElem (by omega)];rfl
   have HG:=Lib.hid hg
   clear hg
   by_cases hx:xs[m]=0
   ·have hb0:((xs[m].toNat:Int) == 0)=true:=by rw [hx];rfl
    have HX:=Lib.hid hx
    clear hx fin
    go_wp2_with fail
    go_round
    case rel =>
     refine ⟨m,by go_num,by omega,fun j hj=>?_⟩
     by_cases hjm:j=m
     ·subst hjm;rw [HG.out,HX.out]
     ·exact HZ.out j (by omega)
    case measure=>simp [intOf]
   ·have hb0:((xs[m].toNat:Int) == 0)=false:=by
     rw [beq_eq_false_iff_ne]
     intro h
     exact hx (UInt32.toNat_inj.1 (by simpa using h))
    have hz:=fin _ id (.inr (by rw [Nat.add_sub_cancel,HG.out];exact hx))
    have HX:=Lib.hid hx
    clear hx fin
    go_wp2_with (first
     | (refine wpList_sl (f:=uv) _ uT rfl _ _ _ rfl _ xs c rfl (hr.alloc _) hc 0 ((m:Int)+1) (.inl ⟨rfl,rfl⟩) (.inr ⟨_,_,rfl,rfl⟩) (by omega) (by omega) (by omega) ?_;intro A1 ys c1 hcut hc1 hc2;obtain ⟨hr1,HY,hlo,hhi⟩:=hcut)
     | (at_builtin;go_must (refine wpList_app (f:=uv) _ uT rfl _ _ rfl uv_one w.heap.size _ [] ys rfl (Own.empty w) _ _ rfl hr1 (by simp [maxLen];omega) (by simp;omega) (by simp) ?_;intro v1 w1 hown1 hbel1)))
    go_ret
    refine ⟨_,rfl,hown1.cast ?_,(nx0 w _).trans hbel1⟩
    have e:((m:Int)+1).toNat=m+1:=by omega
    rw [HY.out,← hz.out,e];simp
set_option maxHeartbeats 400000 in
theorem refOf_any (n:Nat) (w:World) (hn:(n:Int)≤18446744073709551615) :
  Calls Tryz.prog 193 #[.int .u64 n] w fun e w'=>∃ v',e = .returned v'∧Own uv 202 w' w.heap.size v' (limbs n)∧Below w.heap.size w w':=by
 have hv:Hid (val [UInt32.ofNat n,UInt32.ofNat (n / 4294967296)]=n):=by
  unfold Hid
  simp only [val,UInt32.toNat_ofNat']
  omega
 have h1:Hid (Value.int .u32 ((n:Int) % 4294967296)=uv (UInt32.ofNat n)):=uv_ofNat _ _ (by omega)
 have h2:Hid (Value.int .u32 ((n:Int) / 4294967296)=uv (UInt32.ofNat (n / 4294967296))):=uv_ofNat _ _ (by omega)
 go_enter Tryz.func193,Tryz.ntmps193
 go_wp2_with fail
 refine (refNorm_any (some ⟨w.heap.size,0,none⟩) [UInt32.ofNat n,UInt32.ofNat (n / 4294967296)] 2 _ ?_ (by simp) (by simp [maxLen]) (by simp)).mono ?_
 ·rw [h1.out,h2.out]
  exact Rd.litsU [UInt32.ofNat n,UInt32.ofNat (n / 4294967296)] rfl
 rintro e w1 ⟨v1,rfl,hown1,hb1⟩
 rw [hv.out] at hown1
 go_wp2_with fail
 go_ret
 exact ⟨_,rfl,hown1.less (by simp),nx (nx0 w _) hb1⟩
set_option maxHeartbeats 400000 in
theorem refLow_any (A:Option Addr) (xs:List UInt32) (c:Nat) (w:World) (hr:Rd uv w A xs) (hc:xs.length≤c) (hl:(xs.length:Int)≤1000000) :
  Calls Tryz.prog 202 #[.slice A xs.length c] w fun e w'=>e = .returned (.int .u64 (val xs % 18446744073709551616:Nat))∧w=w':=by
 go_enter Tryz.func202,Tryz.ntmps202
 go_wp2_with fail
 refine (refAt_any A xs c 0 _ hr hc hl (by omega)).mono ?_;rintro e w' ⟨rfl,rfl⟩
 have l0:=ent_le xs 0
 go_wp2_with fail
 refine (refAt_any A xs c 1 _ hr hc hl (by omega)).mono ?_;rintro e w' ⟨rfl,rfl⟩
 have l1:=ent_le xs 1
 have hv:Hid (val xs % 18446744073709551616=ent xs 0+ent xs 1 * 4294967296):=by
  unfold Hid
  rw [ent_val,ent_val]
  generalize val xs=V
  omega
 go_wp2_with fail
 go_ret
 refine ⟨?_,rfl⟩
 rw [hv.out,← or_hi (ent xs 0) (ent xs 1) l0 l1]
 rfl
set_option maxRecDepth 100000 in
set_option maxHeartbeats 800000 in
theorem refCmp_any (A:Option Addr) (xs:List UInt32) (c:Nat) (B:Option Addr) (ys:List UInt32) (d:Nat) (w:World) (hr:Rd uv w A xs) (hc:xs.length≤c) (hl:(xs.length:Int)≤1000000) (hs:Rd uv w B ys) (hd:ys.length≤d) (hl2:(ys.length:Int)≤1000000) :
  Calls Tryz.prog 200 #[.slice A xs.length c,.slice B ys.length d] w fun e w'=>e = .returned (.int .i64 (cmpI (val xs) (val ys)))∧w=w':=by
 go_enter Tryz.func200,Tryz.ntmps200
 go_upto_region 1 with (fail)
 go_cut [5] (fun v wx=>w=wx∧∃ m:Nat,v = .int .i64 ((m:Int) - 1)∧xs.length≤m∧ys.length≤m∧(m:Int)≤1000000)
 case first =>
  go_wp2_with fail
  all_goals go_meet
  all_goals first
   | exact ⟨rfl,ys.length,rfl,by omega,by omega,hl2⟩
   | exact ⟨rfl,xs.length,rfl,by omega,by omega,hl⟩
   | exact ⟨rfl,max xs.length ys.length,by congr 1;omega,by omega,by omega,by omega⟩
 case rest =>
  obtain ⟨rfl,m0,rfl,hm1,hm2,hm3⟩:=hcut
  go_wp2_with fail
  go_loop [5] (fun v=>∃ m:Nat,v = .int .i64 ((m:Int) - 1)∧(m:Int)≤1000000∧Hid (∀ j,m≤j→ent xs j=ent ys j)) (fun v=>(intOf v+1).toNat)
  case atStart =>
   refine ⟨m0,rfl,hm3,fun j hj=>?_⟩
   unfold ent
   rw [List.getD,List.getD,List.getElem?_eq_none (by omega),List.getElem?_eq_none (by omega)]
  case round =>
   obtain ⟨m,rfl,hm,HE⟩:=hrel
   rcases m with _ | m
   ·have hz:cmpI (val xs) (val ys)=0:=by
     have:=val_ext xs ys fun j=>HE.out j (Nat.zero_le _)
     unfold cmpI;rw [this];simp
    have HZ:=Lib.hid hz
    clear hz
    go_wp2_with fail
    go_ret
    refine ⟨?_,rfl⟩
    rw [HZ.out]
    rfl
   ·have e1:Hid (∀ j,m+1≤j→ent xs j=ent ys j):=HE
    obtain ⟨a,HX⟩:∃ a,Hid (ent xs m=a):=⟨_,rfl⟩
    obtain ⟨b,HY⟩:∃ b,Hid (ent ys m=b):=⟨_,rfl⟩
    have la:(a:Int)≤4294967295:=by rw [← HX.out];exact ent_le xs m
    have lb:(b:Int)≤4294967295:=by rw [← HY.out];exact ent_le ys m
    rcases Nat.lt_trichotomy a b with hab | hab | hab
    ·have HL:Hid (val xs<val ys):=val_less xs ys m e1.out (by rw [HX.out,HY.out];exact hab)
     go_wp2_with fail
     refine (refAt_any A xs c m _ hr hc hl (by omega)).mono ?_;rintro e w' ⟨rfl,rfl⟩
     rw [HX.out]
     go_wp2_with fail
     refine (refAt_any B ys d m _ hs hd hl2 (by omega)).mono ?_;rintro e w' ⟨rfl,rfl⟩
     rw [HY.out]
     go_wp2_with fail
     go_ret
     refine ⟨?_,rfl⟩
     rw [cmpI,if_pos HL.out]
     rfl
    ·subst hab
     go_wp2_with fail
     refine (refAt_any A xs c m _ hr hc hl (by omega)).mono ?_;rintro e w' ⟨rfl,rfl⟩
     rw [HX.out]
     go_wp2_with fail
     refine (refAt_any B ys d m _ hs hd hl2 (by omega)).mono ?_;rintro e w' ⟨rfl,rfl⟩
     rw [HY.out]
     go_wp2_with fail
     refine (refAt_any A xs c m _ hr hc hl (by omega)).mono ?_;rintro e w' ⟨rfl,rfl⟩
     rw [HX.out]
     go_wp2_with fail
     refine (refAt_any B ys d m _ hs hd hl2 (by omega)).mono ?_;rintro e w' ⟨rfl,rfl⟩
     rw [HY.out]
     go_wp2_with fail
     go_round
     case rel =>
      refine ⟨m,by go_num,by omega,fun j hj=>?_⟩
      by_cases hjm:j=m
      ·subst hjm;rw [HX.out,HY.out]
      ·exact HE.out j (by omega)
     case measure=>simp [intOf]
    ·have g1:decide (b<a)=true:=decide_eq_true hab
     have g2:decide (a<b)=false:=decide_eq_false (by omega)
     have HL:Hid (val ys<val xs):=val_less ys xs m (fun j hj=>(e1.out j hj).symm) (by rw [HX.out,HY.out];exact hab)
     go_wp2_with fail
     refine (refAt_any A xs c m _ hr hc hl (by omega)).mono ?_;rintro e w' ⟨rfl,rfl⟩
     rw [HX.out]
     go_wp2_with fail
     refine (refAt_any B ys d m _ hs hd hl2 (by omega)).mono ?_;rintro e w' ⟨rfl,rfl⟩
     rw [HY.out]
     go_wp2_with fail
     refine (refAt_any A xs c m _ hr hc hl (by omega)).mono ?_;rintro e w' ⟨rfl,rfl⟩
     rw [HX.out]
     go_wp2_with fail
     refine (refAt_any B ys d m _ hs hd hl2 (by omega)).mono ?_;rintro e w' ⟨rfl,rfl⟩
     rw [HY.out]
     go_wp2_with fail
     go_ret
     refine ⟨?_,rfl⟩
     have hl:=HL.out
     rw [cmpI,if_neg (by omega),if_pos hl]
     rfl
end Go.Proofs.YtjggghfekakogaaGreatDoor
