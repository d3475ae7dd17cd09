/- A number's decimal digits as bytes. Plain lemmas. The decimal digits that are shown: plain lemmas. The contracts of the document's answers for big: entries, lists without noughts behind, order, sums. The contracts of the document's answers for big: sums, differences. The contracts of the document's answers for big: products. -/
import Derived.Test.YteclejplbphkpaaGreatG00
import Derived.Test.YteclejplbphkpaaGreatG06
import Derived.Test.YteclejplbphkpaaGreatG01
import Derived.Lib.TrimByte
import Derived.Laws.Bits64b
import Derived.Test.YteclejplbphkpaaGreatG02
import Derived.Deep.QuietTactic
import Derived.BigQuiet
import Derived.RegionTactic
set_option linter.unusedVariables false
set_option linter.unusedSimpArgs false
set_option linter.unnecessarySimpa false
namespace Go.Proofs.YteclejplbphkpaaGreat
open Go.RowKit
def decF:Nat→Nat→List UInt8
 | 0,n=>[UInt8.ofNat (48+n % 10)]
 | f+1,n=>if n<10 then [UInt8.ofNat (48+n % 10)] else decF f (n / 10)++[UInt8.ofNat (48+n % 10)]
def decS (n:Nat):List UInt8:=decF n n
theorem decF_more (f g n:Nat) (h1:n≤f) (h2:n≤g):decF f n=decF g n:=by
 induction f generalizing g n with
 | zero =>
  obtain rfl:n=0:=by omega
  cases g with
  | zero=>rfl
  | succ g=>simp [decF]
 | succ f ih =>
  cases g with
  | zero =>
   obtain rfl:n=0:=by omega
   simp [decF]
  | succ g =>
   unfold decF
   by_cases h:n<10
   ·rw [if_pos h,if_pos h]
   ·rw [if_neg h,if_neg h,ih g (n / 10) (by omega) (by omega)]
theorem decS_small (n:Nat) (h:n<10):decS n=[UInt8.ofNat (48+n % 10)]:=by
 unfold decS
 cases n with
 | zero=>rfl
 | succ n=>unfold decF;rw [if_pos h]
theorem decS_step (n:Nat) (h:10≤n):decS n=decS (n / 10)++[UInt8.ofNat (48+n % 10)]:=by
 unfold decS
 obtain ⟨m,rfl⟩:∃ m,n=m+1:=⟨n - 1,by omega⟩
 conv=>lhs;unfold decF
 rw [if_neg (by omega),decF_more m ((m+1) / 10) ((m+1) / 10) (by omega) (Nat.le_refl _)]
theorem decS_len (k n:Nat) (h:n<10 ^ (k+1)):(decS n).length≤k+1:=by
 induction k generalizing n with
 | zero=>rw [decS_small n (by simpa using h)];simp
 | succ k ih =>
  by_cases h10:n<10
  ·rw [decS_small n h10];simp
  ·rw [decS_step n (by omega),List.length_append]
   have:=ih (n / 10) (by rw [Nat.pow_succ] at h;omega)
   simp;omega
theorem decS_pos (n:Nat):1≤(decS n).length:=by
 by_cases h:n<10
 ·rw [decS_small n h];simp
 ·rw [decS_step n (by omega)];simp
def tenS (v:Int):List UInt8:=if v<0 then 45 :: decS (-v).toNat else decS v.toNat
end Go.Proofs.YteclejplbphkpaaGreat
namespace Go.Proofs.YteclejplbphkpaaGreat
open Go.RowKit
def exM (b:Nat):Nat:=if b / 4503599627370496=0 then b % 4503599627370496 else b % 4503599627370496+4503599627370496
def exP (b:Nat):Int:=if b / 4503599627370496=0 then -1074 else ((b / 4503599627370496:Nat):Int) - 1075
def GE10 (x y:Nat) (p:Int):Prop:=y * 10 ^ p.toNat≤x * 10 ^ (-p).toNat
theorem ge10_iff (x y:Nat) (p:Int) (a b:Nat) (h:(a:Int) - b=p):GE10 x y p↔y * 10 ^ a≤x * 10 ^ b:=by
 unfold GE10
 rcases Int.le_total 0 p with h0 | h0
 ·obtain ⟨n,rfl⟩:=Int.eq_ofNat_of_zero_le h0
  obtain rfl:a=b+n:=by omega
  rw [show ((n:Int)).toNat=n from by omega,show (-(n:Int)).toNat=0 from by omega,Nat.pow_zero,Nat.mul_one,Nat.pow_add,Nat.mul_comm (10 ^ b),← Nat.mul_assoc]
  exact (Nat.mul_le_mul_right_iff (Nat.pow_pos (by decide))).symm
 ·obtain ⟨n,hn⟩:=Int.eq_ofNat_of_zero_le (a:=-p) (by omega)
  obtain rfl:b=a+n:=by omega
  rw [show p.toNat=0 from by omega,show (-p).toNat=n from by omega,Nat.pow_zero,Nat.mul_one,Nat.pow_add,Nat.mul_comm (10 ^ a) (10 ^ n),← Nat.mul_assoc]
  exact (Nat.mul_le_mul_right_iff (Nat.pow_pos (by decide))).symm
theorem ge10_mono {x y:Nat} {p q:Int} (h:GE10 x y q) (hpq:p≤q):GE10 x y p:=by
 obtain ⟨b,a,a',h1,h2,h3⟩:∃ b a a':Nat,(a:Int) - b=p∧(a':Int) - b=q∧a≤a':=⟨p.natAbs+q.natAbs,(p+(p.natAbs+q.natAbs)).toNat,(q+(p.natAbs+q.natAbs)).toNat,by omega,by omega,by omega⟩
 rw [ge10_iff x y p a b h1]
 rw [ge10_iff x y q a' b h2] at h
 exact Nat.le_trans (Nat.mul_le_mul_left _ (Nat.pow_le_pow_right (by decide) h3)) h
theorem two_ten:2 ^ (3 * 400)≤10 ^ (400:Nat):=by
 obtain ⟨k,hk⟩:∃ k:Nat,k=400:=⟨_,rfl⟩
 rw [← hk,Nat.pow_mul]
 exact Nat.pow_le_pow_left (by decide) k
def exX (b:Nat):Nat:=exM b * 2 ^ (exP b).toNat
def exY (b:Nat):Nat:=1 * 2 ^ (-exP b).toNat
theorem exP_b (b:Nat) (hb:b<LIM) : -1074≤exP b∧exP b≤971:=by
 unfold exP;unfold LIM at hb;split <;> omega
theorem exM_b (b:Nat) (h0:b≠0):1≤exM b∧exM b<9007199254740992:=by
 unfold exM;split <;> omega
theorem exY_pos (b:Nat):0<exY b:=by unfold exY;rw [Nat.one_mul];exact Nat.pow_pos (by decide)
theorem exX_pos (b:Nat) (h0:b≠0):0<exX b:=Nat.mul_pos (exM_b b h0).1 (Nat.pow_pos (by decide))
theorem ex_lo (b:Nat) (hb:b<LIM) (h0:b≠0):GE10 (exX b) (exY b) (-400):=by
 have h1:=exP_b b hb
 have h2:=exX_pos b h0
 have h3:=two_ten
 unfold GE10
 rw [show ((-400:Int)).toNat=0 from rfl,Nat.pow_zero,Nat.mul_one,show (- (-400:Int)).toNat=400 from rfl]
 unfold exY
 rw [Nat.one_mul]
 calc 2 ^ (-exP b).toNat≤2 ^ (3 * 400):=Nat.pow_le_pow_right (by decide) (by omega)
  _≤10 ^ 400:=h3
  _≤exX b * 10 ^ 400:=Nat.le_mul_of_pos_left _ h2
theorem ex_hi (b:Nat) (hb:b<LIM) (h0:b≠0):¬ GE10 (exX b) (exY b) 400:=by
 have h1:=exP_b b hb
 have h2:=exM_b b h0
 have h3:=two_ten
 have h4:=exY_pos b
 unfold GE10
 rw [show (-(400:Int)).toNat=0 from rfl,Nat.pow_zero,Nat.mul_one,show ((400:Int)).toNat=400 from rfl,Nat.not_le]
 unfold exX
 calc exM b * 2 ^ (exP b).toNat<2 ^ 53 * 2 ^ (exP b).toNat:=Nat.mul_lt_mul_of_pos_right (by omega) (Nat.pow_pos (by decide))
  _=2 ^ (53+(exP b).toNat):=(Nat.pow_add ..).symm
  _≤2 ^ (3 * 400):=Nat.pow_le_pow_right (by decide) (by omega)
  _≤10 ^ 400:=h3
  _≤exY b * 10 ^ 400:=Nat.le_mul_of_pos_left _ h4
def digQ (x y:Nat) (T:Int):Nat:=rnd (x * 10 ^ (16 - T).toNat) (y * 10 ^ (-(16 - T)).toNat)
theorem digQ_b (x y:Nat) (T:Int) (hy:0<y) (h1:GE10 x y T) (h2:¬ GE10 x y (T+1)):10000000000000000≤digQ x y T∧digQ x y T≤100000000000000000:=by
 have hY:0<y * 10 ^ (-(16 - T)).toNat:=Nat.mul_pos hy (Nat.pow_pos (by decide))
 rw [ge10_iff x y T ((-(16 - T)).toNat+16) (16 - T).toNat (by omega),Nat.pow_add,← Nat.mul_assoc] at h1
 rw [ge10_iff x y (T+1) ((-(16 - T)).toNat+17) (16 - T).toNat (by omega),Nat.pow_add,← Nat.mul_assoc,Nat.not_le] at h2
 unfold digQ
 exact ⟨rnd_ge _ _ _ hY (by omega),rnd_le _ _ _ hY (by omega)⟩
def tailS (l:List UInt8):List UInt8:=if Lib.trimRightB l 48=[] then [48] else Lib.trimRightB l 48
def showD (T:Int) (D:Nat):List UInt8:=(decS D).take 1++(46 :: (tailS ((decS D).drop 1)++(101 :: tenS (T+((decS D).length:Nat) - 17))))
def sgS (B:Nat):List UInt8:=if 9223372036854775808≤B then [45] else []
def ShowR (B:Nat) (l:List UInt8):Prop :=
 if LIM≤B % 9223372036854775808 then l=[]
 else if B % 9223372036854775808=0 then l=sgS B++[48,46,48,101,48]
 else ∃ T:Int,GE10 (exX (B % 9223372036854775808)) (exY (B % 9223372036854775808)) T∧¬ GE10 (exX (B % 9223372036854775808)) (exY (B % 9223372036854775808)) (T+1) ∧
  l=sgS B++showD T (digQ (exX (B % 9223372036854775808)) (exY (B % 9223372036854775808)) T)
theorem trimB_len (l:List UInt8):(Lib.trimRightB l 48).length≤l.length:=by
 unfold Lib.trimRightB
 rw [List.length_reverse]
 exact Nat.le_trans (List.IsSuffix.length_le (List.dropWhile_suffix _)) (by simp)
theorem Tx.app2 {s t:ByteArray} {a b:List UInt8} (h:Tx s a) (g:Tx t b):Tx (s++t) (a++b):=by
 unfold Tx at *
 rw [← h,← g]
 simp
theorem Tx.sz {s:ByteArray} {l:List UInt8} (h:Tx s l) (k:Nat) (hk:l.length≤k):s.size≤k:=by rw [h.size];exact hk
theorem tenS_len (v:Int) (h1 : -1000≤v) (h2:v≤1000):(tenS v).length≤20:=by
 unfold tenS
 split
 ·have:=decS_len 3 (-v).toNat (by omega);simp;omega
 ·have:=decS_len 3 v.toNat (by omega);omega
theorem ge10_one {x y:Nat} {T S:Int} (h1:GE10 x y T) (h2:¬ GE10 x y (T+1)) (k1:GE10 x y S) (k2:¬ GE10 x y (S+1)):T=S:=by
 rcases Int.lt_trichotomy T S with h | h | h
 ·exact absurd (ge10_mono k1 (show T+1≤S by omega)) h2
 ·exact h
 ·exact absurd (ge10_mono h1 (show S+1≤T by omega)) k2
theorem showR_one {B:Nat} {l m:List UInt8} (h:ShowR B l) (k:ShowR B m):l=m:=by
 unfold ShowR at h k
 split at h
 ·rename_i h1
  rw [if_pos h1] at k
  rw [h,k]
 ·rename_i h1
  rw [if_neg h1] at k
  split at h
  ·rename_i h2
   rw [if_pos h2] at k
   rw [h,k]
  ·rename_i h2
   rw [if_neg h2] at k
   obtain ⟨T,a1,a2,a3⟩:=h
   obtain ⟨S,b1,b2,b3⟩:=k
   obtain rfl:=ge10_one a1 a2 b1 b2
   rw [a3,b3]
end Go.Proofs.YteclejplbphkpaaGreat
namespace Go.Proofs.YteclejplbphkpaaGreat
open Go.RowKit
set_option maxHeartbeats 400000 in
theorem refAt_any (A:Option Addr) (xs:List UInt32) (c:Nat) (i:Nat) (w:World) (hr:Rd uv w A xs) (hc:xs.length≤c) (hl:(xs.length:Int)≤1000000) (hi:(i:Int)≤1000000000) :
  Calls Tryz.prog 53 #[.slice A xs.length c,.int .i64 i] w fun e w'=>e = .returned (.int .u64 (ent xs i:Nat))∧w=w':=by
 by_cases hlt:i<xs.length
 ·obtain ⟨b,off,rfl,hb,hcell⟩:=hr.at_ (k:=i) hlt
  unfold uv at hcell
  have he:Hid (ent xs i=xs[i].toNat):=by unfold Hid ent;rw [List.getD,List.getElem?_eq_getElem hlt];rfl
  have hx:(xs[i].toNat:Int)≤4294967295:=by have:=xs[i].toNat_lt;omega
  have hd:decide (i<xs.length)=true:=decide_eq_true hlt
  go_enter Tryz.func53,Tryz.ntmps53
  go_wp2
  go_ret
  refine ⟨?_,rfl⟩
  rw [he.out]
  rfl
 ·have he:Hid (ent xs i=0):=by unfold Hid ent;rw [List.getD,List.getElem?_eq_none (by omega)];rfl
  have hd:decide (i<xs.length)=false:=decide_eq_false hlt
  go_enter Tryz.func53,Tryz.ntmps53
  go_wp2
  go_ret
  refine ⟨?_,rfl⟩
  rw [he.out]
  rfl
set_option maxHeartbeats 800000 in
theorem refNorm_any (A:Option Addr) (xs:List UInt32) (c:Nat) (w:World) (hr:Rd uv w A xs) (hc:xs.length≤c) (hm:c≤maxLen) (hl:(xs.length:Int)≤1000000) :
  Calls Tryz.prog 50 #[.slice A xs.length c] w fun e w'=>∃ v',e = .returned v'∧Own uv 85 w' w.heap.size v' (limbs (val xs))∧Below w.heap.size w w':=by
 unfold maxLen at hm
 go_enter Tryz.func50,Tryz.ntmps50
 go_wp2_with fail
 go_loop [3] (fun v=>∃ n:Nat,v = .int .i64 n∧n≤xs.length∧Hid (∀ j,n≤j→xs.getD j 0=0)) (fun v=>(intOf v).toNat)
 case atStart=>exact ⟨xs.length,rfl,Nat.le_refl _,fun j hj=>by rw [List.getD,List.getElem?_eq_none hj];rfl⟩
 case round =>
  obtain ⟨n,rfl,hn,HZ⟩:=hrel
  have fin:∀ (P:Prop),(Hid (xs.take n=limbs (val xs))→P)→(n=0∨xs.getD (n - 1) 0≠0)→P:=fun P h h'=>h (take_limbs xs n hn HZ.out h')
  by_cases h0:n=0
  ·subst h0
   have hz:=fin _ id (.inl rfl)
   go_wp2_with (first
    | (refine wpList_sl (f:=uv) _ uT rfl _ _ _ rfl A xs c rfl (hr.alloc _) hc 0 0 (.inl ⟨rfl,rfl⟩) (.inr ⟨_,_,rfl,rfl⟩) (by omega) (by omega) (by omega) ?_;intro A1 ys c1 hcut hc1 hc2;obtain ⟨hr1,HY,hlo,hhi⟩:=hcut)
    | (at_builtin;go_must (refine wpList_app (f:=uv) _ uT rfl _ _ rfl uv_one w.heap.size _ [] ys rfl (Own.empty w) _ _ rfl hr1 (by simp [maxLen];omega) (by simp;omega) (by simp) ?_;intro v1 w1 hown1 hbel1)))
   go_ret
   refine ⟨_,rfl,hown1.cast ?_,(nx0 w _).trans hbel1⟩
   rw [HY.out,← hz.out];simp
  ·obtain ⟨m,rfl⟩:∃ m,n=m+1:=⟨n - 1,by omega⟩
   obtain ⟨b,off,rfl,hb,hcell⟩:=hr.at_ (k:=m) (by omega)
   unfold uv at hcell
   have hg:xs.getD m 0=xs[m]:=by rw [List.getD,List.getElem?_eq_getElem (by omega)];rfl
   have HG:=Lib.hid hg
   clear hg
   by_cases hx:xs[m]=0
   ·have hb0:((xs[m].toNat:Int) == 0)=true:=by rw [hx];rfl
    have HX:=Lib.hid hx
    clear hx fin
    go_wp2_with fail
    go_round
    case rel =>
     refine ⟨m,by go_num,by omega,fun j hj=>?_⟩
     by_cases hjm:j=m
     ·subst hjm;rw [HG.out,HX.out]
     ·exact HZ.out j (by omega)
    case measure=>simp [intOf]
   ·have hb0:((xs[m].toNat:Int) == 0)=false:=by
     rw [beq_eq_false_iff_ne]
     intro h
     exact hx (UInt32.toNat_inj.1 (by simpa using h))
    have hz:=fin _ id (.inr (by rw [Nat.add_sub_cancel,HG.out];exact hx))
    have HX:=Lib.hid hx
    clear hx fin
    go_wp2_with (first
     | (refine wpList_sl (f:=uv) _ uT rfl _ _ _ rfl _ xs c rfl (hr.alloc _) hc 0 ((m:Int)+1) (.inl ⟨rfl,rfl⟩) (.inr ⟨_,_,rfl,rfl⟩) (by omega) (by omega) (by omega) ?_;intro A1 ys c1 hcut hc1 hc2;obtain ⟨hr1,HY,hlo,hhi⟩:=hcut)
     | (at_builtin;go_must (refine wpList_app (f:=uv) _ uT rfl _ _ rfl uv_one w.heap.size _ [] ys rfl (Own.empty w) _ _ rfl hr1 (by simp [maxLen];omega) (by simp;omega) (by simp) ?_;intro v1 w1 hown1 hbel1)))
    go_ret
    refine ⟨_,rfl,hown1.cast ?_,(nx0 w _).trans hbel1⟩
    have e:((m:Int)+1).toNat=m+1:=by omega
    rw [HY.out,← hz.out,e];simp
set_option maxHeartbeats 400000 in
theorem refOf_any (n:Nat) (w:World) (hn:(n:Int)≤18446744073709551615) :
  Calls Tryz.prog 28 #[.int .u64 n] w fun e w'=>∃ v',e = .returned v'∧Own uv 85 w' w.heap.size v' (limbs n)∧Below w.heap.size w w':=by
 have hv:Hid (val [UInt32.ofNat n,UInt32.ofNat (n / 4294967296)]=n):=by
  unfold Hid
  simp only [val,UInt32.toNat_ofNat']
  omega
 have h1:Hid (Value.int .u32 ((n:Int) % 4294967296)=uv (UInt32.ofNat n)):=uv_ofNat _ _ (by omega)
 have h2:Hid (Value.int .u32 ((n:Int) / 4294967296)=uv (UInt32.ofNat (n / 4294967296))):=uv_ofNat _ _ (by omega)
 go_enter Tryz.func28,Tryz.ntmps28
 go_wp2_with fail
 refine (refNorm_any (some ⟨w.heap.size,0,none⟩) [UInt32.ofNat n,UInt32.ofNat (n / 4294967296)] 2 _ ?_ (by simp) (by simp [maxLen]) (by simp)).mono ?_
 ·rw [h1.out,h2.out]
  exact Rd.litsU [UInt32.ofNat n,UInt32.ofNat (n / 4294967296)] rfl
 rintro e w1 ⟨v1,rfl,hown1,hb1⟩
 rw [hv.out] at hown1
 go_wp2_with fail
 go_ret
 exact ⟨_,rfl,hown1.less (by simp),nx (nx0 w _) hb1⟩
set_option maxHeartbeats 400000 in
theorem refLow_any (A:Option Addr) (xs:List UInt32) (c:Nat) (w:World) (hr:Rd uv w A xs) (hc:xs.length≤c) (hl:(xs.length:Int)≤1000000) :
  Calls Tryz.prog 37 #[.slice A xs.length c] w fun e w'=>e = .returned (.int .u64 (val xs % 18446744073709551616:Nat))∧w=w':=by
 go_enter Tryz.func37,Tryz.ntmps37
 go_wp2_with fail
 refine (refAt_any A xs c 0 _ hr hc hl (by omega)).mono ?_;rintro e w' ⟨rfl,rfl⟩
 have l0:=ent_le xs 0
 go_wp2_with fail
 refine (refAt_any A xs c 1 _ hr hc hl (by omega)).mono ?_;rintro e w' ⟨rfl,rfl⟩
 have l1:=ent_le xs 1
 have hv:Hid (val xs % 18446744073709551616=ent xs 0+ent xs 1 * 4294967296):=by
  unfold Hid
  rw [ent_val,ent_val]
  generalize val xs=V
  omega
 go_wp2_with fail
 go_ret
 refine ⟨?_,rfl⟩
 rw [hv.out,← or_hi (ent xs 0) (ent xs 1) l0 l1]
 rfl
set_option maxRecDepth 100000 in
set_option maxHeartbeats 800000 in
theorem refCmp_any (A:Option Addr) (xs:List UInt32) (c:Nat) (B:Option Addr) (ys:List UInt32) (d:Nat) (w:World) (hr:Rd uv w A xs) (hc:xs.length≤c) (hl:(xs.length:Int)≤1000000) (hs:Rd uv w B ys) (hd:ys.length≤d) (hl2:(ys.length:Int)≤1000000) :
  Calls Tryz.prog 35 #[.slice A xs.length c,.slice B ys.length d] w fun e w'=>e = .returned (.int .i64 (cmpI (val xs) (val ys)))∧w=w':=by
 go_enter Tryz.func35,Tryz.ntmps35
 go_upto_region 1 with (fail)
 go_cut [5] (fun v wx=>w=wx∧∃ m:Nat,v = .int .i64 ((m:Int) - 1)∧xs.length≤m∧ys.length≤m∧(m:Int)≤1000000)
 case first =>
  go_wp2_with fail
  all_goals go_meet
  all_goals first
   | exact ⟨rfl,ys.length,rfl,by omega,by omega,hl2⟩
   | exact ⟨rfl,xs.length,rfl,by omega,by omega,hl⟩
   | exact ⟨rfl,max xs.length ys.length,by congr 1;omega,by omega,by omega,by omega⟩
 case rest =>
  obtain ⟨rfl,m0,rfl,hm1,hm2,hm3⟩:=hcut
  go_wp2_with fail
  go_loop [5] (fun v=>∃ m:Nat,v = .int .i64 ((m:Int) - 1)∧(m:Int)≤1000000∧Hid (∀ j,m≤j→ent xs j=ent ys j)) (fun v=>(intOf v+1).toNat)
  case atStart =>
   refine ⟨m0,rfl,hm3,fun j hj=>?_⟩
   unfold ent
   rw [List.getD,List.getD,List.getElem?_eq_none (by omega),List.getElem?_eq_none (by omega)]
  case round =>
   obtain ⟨m,rfl,hm,HE⟩:=hrel
   rcases m with _ | m
   ·have hz:cmpI (val xs) (val ys)=0:=by
     have:=val_ext xs ys fun j=>HE.out j (Nat.zero_le _)
     unfold cmpI;rw [this];simp
    have HZ:=Lib.hid hz
    clear hz
    go_wp2_with fail
    go_ret
    refine ⟨?_,rfl⟩
    rw [HZ.out]
    rfl
   ·have e1:Hid (∀ j,m+1≤j→ent xs j=ent ys j):=HE
    obtain ⟨a,HX⟩:∃ a,Hid (ent xs m=a):=⟨_,rfl⟩
    obtain ⟨b,HY⟩:∃ b,Hid (ent ys m=b):=⟨_,rfl⟩
    have la:(a:Int)≤4294967295:=by rw [← HX.out];exact ent_le xs m
    have lb:(b:Int)≤4294967295:=by rw [← HY.out];exact ent_le ys m
    rcases Nat.lt_trichotomy a b with hab | hab | hab
    ·have HL:Hid (val xs<val ys):=val_less xs ys m e1.out (by rw [HX.out,HY.out];exact hab)
     go_wp2_with fail
     refine (refAt_any A xs c m _ hr hc hl (by omega)).mono ?_;rintro e w' ⟨rfl,rfl⟩
     rw [HX.out]
     go_wp2_with fail
     refine (refAt_any B ys d m _ hs hd hl2 (by omega)).mono ?_;rintro e w' ⟨rfl,rfl⟩
     rw [HY.out]
     go_wp2_with fail
     go_ret
     refine ⟨?_,rfl⟩
     rw [cmpI,if_pos HL.out]
     rfl
    ·subst hab
     go_wp2_with fail
     refine (refAt_any A xs c m _ hr hc hl (by omega)).mono ?_;rintro e w' ⟨rfl,rfl⟩
     rw [HX.out]
     go_wp2_with fail
     refine (refAt_any B ys d m _ hs hd hl2 (by omega)).mono ?_;rintro e w' ⟨rfl,rfl⟩
     rw [HY.out]
     go_wp2_with fail
     refine (refAt_any A xs c m _ hr hc hl (by omega)).mono ?_;rintro e w' ⟨rfl,rfl⟩
     rw [HX.out]
     go_wp2_with fail
     refine (refAt_any B ys d m _ hs hd hl2 (by omega)).mono ?_;rintro e w' ⟨rfl,rfl⟩
     rw [HY.out]
     go_wp2_with fail
     go_round
     case rel =>
      refine ⟨m,by go_num,by omega,fun j hj=>?_⟩
      by_cases hjm:j=m
      ·subst hjm;rw [HX.out,HY.out]
      ·exact HE.out j (by omega)
     case measure=>simp [intOf]
    ·have g1:decide (b<a)=true:=decide_eq_true hab
     have g2:decide (a<b)=false:=decide_eq_false (by omega)
     have HL:Hid (val ys<val xs):=val_less ys xs m (fun j hj=>(e1.out j hj).symm) (by rw [HX.out,HY.out];exact hab)
     go_wp2_with fail
     refine (refAt_any A xs c m _ hr hc hl (by omega)).mono ?_;rintro e w' ⟨rfl,rfl⟩
     rw [HX.out]
     go_wp2_with fail
     refine (refAt_any B ys d m _ hs hd hl2 (by omega)).mono ?_;rintro e w' ⟨rfl,rfl⟩
     rw [HY.out]
     go_wp2_with fail
     refine (refAt_any A xs c m _ hr hc hl (by omega)).mono ?_;rintro e w' ⟨rfl,rfl⟩
     rw [HX.out]
     go_wp2_with fail
     refine (refAt_any B ys d m _ hs hd hl2 (by omega)).mono ?_;rintro e w' ⟨rfl,rfl⟩
     rw [HY.out]
     go_wp2_with fail
     go_ret
     refine ⟨?_,rfl⟩
     have hl:=HL.out
     rw [cmpI,if_neg (by omega),if_pos hl]
     rfl
end Go.Proofs.YteclejplbphkpaaGreat
namespace Go.Proofs.YteclejplbphkpaaGreat
open Go.RowKit
set_option maxRecDepth 100000 in
set_option maxHeartbeats 800000 in
theorem refAdd_any (A:Option Addr) (xs:List UInt32) (c:Nat) (B:Option Addr) (ys:List UInt32) (d:Nat) (w:World) (hr:Rd uv w A xs) (hc:xs.length≤c) (hl:(xs.length:Int)≤100000) (hs:Rd uv w B ys) (hd:ys.length≤d) (hl2:(ys.length:Int)≤100000) :
  Calls Tryz.prog 36 #[.slice A xs.length c,.slice B ys.length d] w fun e w'=>∃ v',e = .returned v'∧Own uv 85 w' w.heap.size v' (limbs (val xs+val ys))∧Below w.heap.size w w':=by
 go_enter Tryz.func36,Tryz.ntmps36
 go_wp2_with fail
 go_loopw [5,6,7] (fun o v i wr=>∃ (k cc:Nat) (os:List UInt32),i = .int .i64 k∧v = .int .u64 cc∧cc≤1∧k+cc≤xs.length+ys.length+1∧os.length≤k∧k≤os.length ∧
  Hid (val os+cc * 4294967296 ^ k=val xs % 4294967296 ^ k+val ys % 4294967296 ^ k)∧Own uv 85 wr w.heap.size o os∧Below w.heap.size w wr) (fun _ _ i _=>xs.length+ys.length+1 - (intOf i).toNat)
 case atStart=>exact ⟨0,0,[],rfl,rfl,by omega,by omega,by simp,by simp,by unfold Hid;simp [val,Nat.mod_one],Own.nil_,Below.refl _ _⟩
 case round =>
  obtain ⟨k,cc,os,rfl,rfl,hcc,hk,ho1,ho2,HV,hown,hbel⟩:=hrel
  have hsz:=hbel.size
  have hrw:=hr.below hbel
  have hsw:=hs.below hbel
  by_cases hgo:k<xs.length∨k<ys.length∨0<cc
  ·obtain ⟨a,HX⟩:∃ a,Hid (ent xs k=a):=⟨_,rfl⟩
   obtain ⟨b,HY⟩:∃ b,Hid (ent ys k=b):=⟨_,rfl⟩
   have la:(a:Int)≤4294967295:=by rw [← HX.out];exact ent_le xs k
   have lb:(b:Int)≤4294967295:=by rw [← HY.out];exact ent_le ys k
   have hz:xs.length≤k→ys.length≤k→a=0∧b=0:=fun h1 h2=>by
    rw [← HX.out,← HY.out]
    unfold ent
    rw [List.getD,List.getD,List.getElem?_eq_none h1,List.getElem?_eq_none h2]
    exact ⟨rfl,rfl⟩
   have HZ:=Lib.hid hz
   clear hz
   by_cases g1:k<xs.length
   ·have b1:decide (k<xs.length)=true:=decide_eq_true g1
    go_wp2_with fail
    refine (refAt_any A xs c k _ hrw hc (by omega) (by omega)).mono ?_;rintro e w' ⟨rfl,rfl⟩
    rw [HX.out]
    go_wp2_with fail
    refine (refAt_any B ys d k _ hsw hd (by omega) (by omega)).mono ?_;rintro e w' ⟨rfl,rfl⟩
    rw [HY.out]
    go_wp2_with (at_builtin;go_must (refine wpList_app (f:=uv) _ uT rfl _ _ rfl uv_one w.heap.size _ os [UInt32.ofNat (cc+a+b)] rfl (hown.alloc _) _ _ rfl (Rd.one (uv_ofNat _ _ (by omega)) rfl) (by simp [maxLen];omega) (by simp;omega) (by simp;omega) ?_;intro v2 w2 hown2 hbel2))
    go_roundw
    case rel =>
     refine ⟨k+1,(cc+a+b) / 4294967296,_,by go_num,by go_num,by omega,?_,by simp;omega,by simp;omega,?_,hown2,(hbel.alloc hsz _).trans hbel2⟩
     ·omega
     ·unfold Hid
      have hlen:os.length=k:=by omega
      have:=add_step (val os) cc (4294967296 ^ k) (val xs) (val ys) (cc+a+b) (by rw [← HX.out,← HY.out,ent_val,ent_val]) HV.out
      rw [val_snoc,hlen,UInt32.toNat_ofNat',Nat.pow_succ]
      exact this
    case measure=>simp [intOf];omega
   ·have b1:decide (k<xs.length)=false:=decide_eq_false g1
    by_cases g2:k<ys.length
    ·have b2:decide (k<ys.length)=true:=decide_eq_true g2
     go_wp2_with fail
     refine (refAt_any A xs c k _ hrw hc (by omega) (by omega)).mono ?_;rintro e w' ⟨rfl,rfl⟩
     rw [HX.out]
     go_wp2_with fail
     refine (refAt_any B ys d k _ hsw hd (by omega) (by omega)).mono ?_;rintro e w' ⟨rfl,rfl⟩
     rw [HY.out]
     go_wp2_with (at_builtin;go_must (refine wpList_app (f:=uv) _ uT rfl _ _ rfl uv_one w.heap.size _ os [UInt32.ofNat (cc+a+b)] rfl (hown.alloc _) _ _ rfl (Rd.one (uv_ofNat _ _ (by omega)) rfl) (by simp [maxLen];omega) (by simp;omega) (by simp;omega) ?_;intro v2 w2 hown2 hbel2))
     go_roundw
     case rel =>
      refine ⟨k+1,(cc+a+b) / 4294967296,_,by go_num,by go_num,by omega,?_,by simp;omega,by simp;omega,?_,hown2,(hbel.alloc hsz _).trans hbel2⟩
      ·omega
      ·unfold Hid
       have hlen:os.length=k:=by omega
       have:=add_step (val os) cc (4294967296 ^ k) (val xs) (val ys) (cc+a+b) (by rw [← HX.out,← HY.out,ent_val,ent_val]) HV.out
       rw [val_snoc,hlen,UInt32.toNat_ofNat',Nat.pow_succ]
       exact this
     case measure=>simp [intOf];omega
    ·have b2:decide (k<ys.length)=false:=decide_eq_false g2
     have b3:decide (0<cc)=true:=decide_eq_true (by omega)
     obtain ⟨z1,z2⟩:=HZ.out (by omega) (by omega)
     have Z1:=Lib.hid z1
     have Z2:=Lib.hid z2
     clear z1 z2
     go_wp2_with fail
     refine (refAt_any A xs c k _ hrw hc (by omega) (by omega)).mono ?_;rintro e w' ⟨rfl,rfl⟩
     rw [HX.out]
     go_wp2_with fail
     refine (refAt_any B ys d k _ hsw hd (by omega) (by omega)).mono ?_;rintro e w' ⟨rfl,rfl⟩
     rw [HY.out]
     go_wp2_with (at_builtin;go_must (refine wpList_app (f:=uv) _ uT rfl _ _ rfl uv_one w.heap.size _ os [UInt32.ofNat (cc+a+b)] rfl (hown.alloc _) _ _ rfl (Rd.one (uv_ofNat _ _ (by omega)) rfl) (by simp [maxLen];omega) (by simp;omega) (by simp;omega) ?_;intro v2 w2 hown2 hbel2))
     go_roundw
     case rel =>
      refine ⟨k+1,(cc+a+b) / 4294967296,_,by go_num,by go_num,by omega,?_,by simp;omega,by simp;omega,?_,hown2,(hbel.alloc hsz _).trans hbel2⟩
      ·have:=Z1.out;have:=Z2.out;omega
      ·unfold Hid
       have hlen:os.length=k:=by omega
       have:=add_step (val os) cc (4294967296 ^ k) (val xs) (val ys) (cc+a+b) (by rw [← HX.out,← HY.out,ent_val,ent_val]) HV.out
       rw [val_snoc,hlen,UInt32.toNat_ofNat',Nat.pow_succ]
       exact this
     case measure=>simp [intOf];omega
  ·have b1:decide (k<xs.length)=false:=decide_eq_false (by omega)
   have b2:decide (k<ys.length)=false:=decide_eq_false (by omega)
   have b3:decide (0<cc)=false:=decide_eq_false (by omega)
   have hfin:Hid (val os=val xs+val ys):=by
    unfold Hid
    have h:=HV.out
    have h1:=val_lt xs
    have h2:=val_lt ys
    have h3:4294967296 ^ xs.length≤4294967296 ^ k:=Nat.pow_le_pow_right (by decide) (by omega)
    have h4:4294967296 ^ ys.length≤4294967296 ^ k:=Nat.pow_le_pow_right (by decide) (by omega)
    rw [Nat.mod_eq_of_lt (Nat.lt_of_lt_of_le h1 h3),Nat.mod_eq_of_lt (Nat.lt_of_lt_of_le h2 h4),show cc=0 from by omega] at h
    omega
   obtain ⟨A2,c2,rfl,hc2,hm2,hr2⟩:=hown.sl
   go_wp2_with fail
   refine (refNorm_any A2 os c2 _ hr2 hc2 hm2 (by omega)).mono ?_;rintro e w2 ⟨v2,rfl,hown2,hb2⟩
   rw [hfin.out] at hown2
   go_wp2_with fail
   go_ret
   exact ⟨_,rfl,hown2.less hsz,nx hbel hb2⟩
set_option maxRecDepth 100000 in
set_option maxHeartbeats 800000 in
theorem refSub_any (A:Option Addr) (xs:List UInt32) (c:Nat) (B:Option Addr) (ys:List UInt32) (d:Nat) (w:World) (hr:Rd uv w A xs) (hc:xs.length≤c) (hl:(xs.length:Int)≤100000) (hs:Rd uv w B ys) (hd:ys.length≤d) (hl2:(ys.length:Int)≤100000) :
  Calls Tryz.prog 52 #[.slice A xs.length c,.slice B ys.length d] w fun e w'=>∃ v' is,e = .returned (.tuple #[v',.bool is])∧SubIs w w' (val xs) (val ys) v' is∧Below w.heap.size w w':=by
 obtain ⟨C,HC⟩:∃ C,Hid (cmpI (val xs) (val ys)=C):=⟨_,rfl⟩
 by_cases hlt:val xs<val ys
 ·have hC:C = -1:=by rw [← HC.out,cmpI,if_pos hlt]
  have HL:=Lib.hid hlt
  clear hlt
  subst hC
  go_enter Tryz.func52,Tryz.ntmps52
  go_wp2_with fail
  refine (refCmp_any A xs c B ys d _ hr hc (by omega) hs hd (by omega)).mono ?_;rintro e w' ⟨rfl,rfl⟩
  rw [HC.out]
  go_wp2_with fail
  go_ret2
  refine ⟨_,_,rfl,?_,Below.refl _ _⟩
  unfold SubIs
  rw [if_pos HL.out]
  exact ⟨rfl,rfl⟩
 ·have hC:0≤C:=by rw [← HC.out,cmpI,if_neg hlt];split <;> omega
  have HL:=Lib.hid hlt
  clear hlt
  go_enter Tryz.func52,Tryz.ntmps52
  go_wp2_with fail
  refine (refCmp_any A xs c B ys d _ hr hc (by omega) hs hd (by omega)).mono ?_;rintro e w' ⟨rfl,rfl⟩
  rw [HC.out]
  have hC2:decide (C<0)=false:=decide_eq_false (by omega)
  go_wp2_with fail
  go_loopw [6,7,8] (fun o v i wr=>∃ (k bo:Nat) (os:List UInt32),i = .int .i64 k∧v = .int .u64 bo∧bo≤1∧k≤xs.length∧os.length≤k∧k≤os.length ∧
   Hid (val os+val ys % 4294967296 ^ k=val xs % 4294967296 ^ k+bo * 4294967296 ^ k)∧Own uv 85 wr w.heap.size o os∧Below w.heap.size w wr) (fun _ _ i _=>xs.length - (intOf i).toNat)
  case atStart=>exact ⟨0,0,[],rfl,rfl,by omega,by omega,by simp,by simp,by unfold Hid;simp [val,Nat.mod_one],Own.nil_,Below.refl _ _⟩
  case round =>
   obtain ⟨k,bo,os,rfl,rfl,hbo,hk,ho1,ho2,HV,hown,hbel⟩:=hrel
   have hsz:=hbel.size
   have hrw:=hr.below hbel
   have hsw:=hs.below hbel
   by_cases g1:k<xs.length
   ·obtain ⟨a,HX⟩:∃ a,Hid (ent xs k=a):=⟨_,rfl⟩
    obtain ⟨b,HY⟩:∃ b,Hid (ent ys k=b):=⟨_,rfl⟩
    have la:(a:Int)≤4294967295:=by rw [← HX.out];exact ent_le xs k
    have lb:(b:Int)≤4294967295:=by rw [← HY.out];exact ent_le ys k
    have b1:decide (k<xs.length)=true:=decide_eq_true g1
    go_wp2_with fail
    refine (refAt_any A xs c k _ hrw hc (by omega) (by omega)).mono ?_;rintro e w' ⟨rfl,rfl⟩
    rw [HX.out]
    go_wp2_with fail
    refine (refAt_any B ys d k _ hsw hd (by omega) (by omega)).mono ?_;rintro e w' ⟨rfl,rfl⟩
    rw [HY.out]
    go_wp2_with (at_builtin;go_must (refine wpList_app (f:=uv) _ uT rfl _ _ rfl uv_one w.heap.size _ os [UInt32.ofNat (a+4294967296 - b - bo)] rfl (hown.alloc _) _ _ rfl (Rd.one (uv_ofNat _ _ (by omega)) rfl) (by simp [maxLen];omega) (by simp;omega) (by simp;omega) ?_;intro v2 w2 hown2 hbel2))
    go_roundw
    case rel =>
     refine ⟨k+1,1 - (a+4294967296 - b - bo) / 4294967296,_,by go_num,by go_num,by omega,by omega,by simp;omega,by simp;omega,?_,hown2,(hbel.alloc hsz _).trans hbel2⟩
     unfold Hid
     have hlen:os.length=k:=by omega
     have hX:=ent_val xs k
     have hY:=ent_val ys k
     rw [HX.out] at hX
     rw [HY.out] at hY
     have:=sub_step (val os) bo (4294967296 ^ k) (val xs) (val ys) (a+4294967296 - b - bo) (1 - (a+4294967296 - b - bo) / 4294967296) (by rw [← hX,← hY];omega) (by omega) HV.out
     rw [val_snoc,hlen,UInt32.toNat_ofNat',Nat.pow_succ]
     exact this
    case measure=>simp [intOf];omega
   ·obtain rfl:k=xs.length:=by omega
    have b1:decide (xs.length<xs.length)=false:=decide_eq_false (by omega)
    have hfin:Hid (val os=val xs - val ys):=by
     unfold Hid
     have h:=HV.out
     have h1:=val_lt xs
     have h2:=HL.out
     have h3:=val_lt os
     rw [show os.length=xs.length from by omega] at h3
     rw [Nat.mod_eq_of_lt h1,Nat.mod_eq_of_lt (by omega)] at h
     rcases (by omega:bo=0∨bo=1) with rfl | rfl <;> omega
    obtain ⟨A2,c2,rfl,hc2,hm2,hr2⟩:=hown.sl
    go_wp2_with fail
    refine (refNorm_any A2 os c2 _ hr2 hc2 hm2 (by omega)).mono ?_;rintro e w2 ⟨v2,rfl,hown2,hb2⟩
    rw [hfin.out] at hown2
    go_wp2_with fail
    go_ret2
    refine ⟨_,_,rfl,?_,nx hbel hb2⟩
    unfold SubIs
    rw [if_neg HL.out]
    exact ⟨hown2.less hsz,rfl⟩
end Go.Proofs.YteclejplbphkpaaGreat
namespace Go.Proofs.YteclejplbphkpaaGreat
open Go.RowKit
set_option maxRecDepth 100000 in
set_option maxHeartbeats 1600000 in
theorem refMul_any (A:Option Addr) (xs:List UInt32) (c:Nat) (B:Option Addr) (ys:List UInt32) (d:Nat) (w:World) (hr:Rd uv w A xs) (hc:xs.length≤c) (hl:(xs.length:Int)≤100000) (hs:Rd uv w B ys) (hd:ys.length≤d) (hl2:(ys.length:Int)≤100000) :
  Calls Tryz.prog 32 #[.slice A xs.length c,.slice B ys.length d] w fun e w'=>∃ v',e = .returned v'∧Own uv 85 w' w.heap.size v' (limbs (val xs * val ys))∧Below w.heap.size w w':=by
 go_enter Tryz.func32,Tryz.ntmps32
 go_wp2_with (at_make;go_must (refine wpList_mkz (f:=uv) _ uT 0 uZ rfl rfl _ _ rfl w.heap.size _ _ ((xs.length:Int)+ys.length+1) rfl rfl (by omega) (by omega) (by omega) (Nat.le_refl _) ?_;intro v1 w1 zs hg1 HZ1 hz1 hz2 hb1))
 rcases id hg1 with ⟨h0,h0'⟩ | ⟨g,off,cap,rfl,hBg,hgl,hn3,hm3,-,-⟩
 ·exfalso;have:zs.length=0:=by rw [h0'];rfl
  omega
 have hn:zs.length=xs.length+ys.length+1:=by omega
 have HN:=Lib.hid hn
 have hnA:xs.length+ys.length+1≤zs.length:=by omega
 have hnB:zs.length≤xs.length+ys.length+1:=by omega
 clear hn hz1 hz2
 have HG1:=Lib.hid hg1
 clear hg1 hn3 hm3
 go_loopw [6] (fun v wr=>∃ (i:Nat) (os:List UInt32),v = .int .i64 i∧i≤xs.length∧os.length≤zs.length∧zs.length≤os.length∧Hid (val os=val (xs.take i) * val ys)∧Hid (∀ j,i+ys.length≤j→os.getD j 0=0) ∧
  OwnG uv wr w.heap.size (.slice (some ⟨g,off,none⟩) os.length cap) os∧Below w.heap.size w wr) (fun v _=>xs.length - (intOf v).toNat)
 case atStart =>
  refine ⟨0,zs,rfl,Nat.zero_le _,Nat.le_refl _,Nat.le_refl _,?_,?_,HG1.out,hb1⟩
  ·unfold Hid;rw [HZ1.out,val_zeros];simp [val]
  ·intro j _;rw [HZ1.out];simp [List.getD,List.getElem?_replicate];split <;> rfl
 case round =>
  obtain ⟨i,os,rfl,hi,ho1,ho2,HV,HE,hown,hbel⟩:=hrel
  by_cases hlt:i<xs.length
  ·obtain ⟨a,HX⟩:∃ a,Hid (ent xs i=a):=⟨_,rfl⟩
   have la:(a:Int)≤4294967295:=by rw [← HX.out];exact ent_le xs i
   have b0:decide (i<xs.length)=true:=decide_eq_true hlt
   have HO:=Lib.hid hown
   clear hown
   go_wp2_with fail
   obtain ⟨wo,rfl⟩:∃ wo:World,wo=wr:=⟨_,rfl⟩
   go_loopw [7,8] (fun v u wq=>∃ (k cc:Nat) (us:List UInt32),u = .int .i64 k∧v = .int .u64 cc∧(cc:Int)≤4294967295∧k≤ys.length∧us.length≤zs.length∧zs.length≤us.length ∧
    Hid (val us+cc * 4294967296 ^ (i+k)=val (xs.take i) * val ys+a * (val ys % 4294967296 ^ k) * 4294967296 ^ i)∧Hid (∀ j,i+ys.length≤j→us.getD j 0=0) ∧
    OwnG uv wq w.heap.size (.slice (some ⟨g,off,none⟩) us.length cap) us∧Below w.heap.size w wq) (fun _ u _=>ys.length - (intOf u).toNat)
   case atStart=>exact ⟨0,0,os,rfl,rfl,by omega,Nat.zero_le _,ho1,ho2,by unfold Hid;rw [HV.out];simp [Nat.mod_one],HE,HO.out,hbel⟩
   case round =>
    obtain ⟨k,cc,us,rfl,rfl,hcc,hk,hu1,hu2,HU,HF,hgw,hbw⟩:=hrel
    by_cases hlk:k<ys.length
    ·obtain ⟨b,HY⟩:∃ b,Hid (ent ys k=b):=⟨_,rfl⟩
     obtain ⟨o,HO2⟩:∃ o,Hid (ent us (i+k)=o):=⟨_,rfl⟩
     have lb:(b:Int)≤4294967295:=by rw [← HY.out];exact ent_le ys k
     have lo:(o:Int)≤4294967295:=by rw [← HO2.out];exact ent_le us (i+k)
     have lab:(a:Int) * (b:Int)≤18446744065119617025:=by
      have:=Int.mul_le_mul la lb (by omega) (by omega)
      omega
     have lab0:0≤(a:Int) * (b:Int):=Int.mul_nonneg (by omega) (by omega)
     obtain ⟨bx,offx,eA,hbx,hcx⟩:=(hr.below hbw).at_ (k:=i) hlt
     obtain ⟨by_,offy,eB,hby,hcy⟩:=(hs.below hbw).at_ (k:=k) hlk
     subst eA
     subst eB
     rcases id hgw with ⟨h0,_⟩ | ⟨g0,off0,cap0,h0,_,hg0,hn0,hm0,hsp0,hcs0⟩
     ·cases h0
     cases h0
     obtain ⟨-,hf1⟩:=hsp0 (i+k) (by omega)
     have hco:=hcs0 (i+k) (by omega)
     clear hsp0 hcs0 hn0
     have vx:uv xs[i] = .int .u32 (a:Int):=by rw [← HX.out,uv,ent,List.getD,List.getElem?_eq_getElem hlt];rfl
     have vy:uv ys[k] = .int .u32 (b:Int):=by rw [← HY.out,uv,ent,List.getD,List.getElem?_eq_getElem hlk];rfl
     have vo:uv (us[i+k]'(by omega)) = .int .u32 (o:Int):=by rw [← HO2.out,uv,ent,List.getD,List.getElem?_eq_getElem (by omega)];rfl
     rw [vx] at hcx
     rw [vy] at hcy
     rw [vo] at hco
     have hst:=hgw.set_ (i:=i+k) (y:=UInt32.ofNat (cc+o+a * b)) (by omega)
     have hbs:=hbw.setCell (p:=⟨g,off+(i+k),none⟩) hBg (uv (UInt32.ofNat (cc+o+a * b)))
     have HST:=Lib.hid hst
     have HBS:=Lib.hid hbs
     clear hst hbs vx vy vo hgw
     have b1:decide (k<ys.length)=true:=decide_eq_true hlk
     go_upto_region 9 with (fail)
     go_region
     all_goals go_wp2_with fail
     go_roundw
     case rel =>
      have hcast:((cc+o+a * b:Nat):Int)=(cc:Int)+o+(a:Int) * b:=by rw [Int.natCast_add,Int.natCast_add,Int.natCast_mul]
      have hu:Value.int .u32 (((cc:Int)+o+(a:Int) * b) % 4294967296)=uv (UInt32.ofNat (cc+o+a * b)):=uv_ofNat _ _ (by omega)
      have hS:cc+o+a * b≤18446744073709551615:=by omega
      rw [hu]
      refine ⟨k+1,(cc+o+a * b) / 4294967296,us.set (i+k) (UInt32.ofNat (cc+o+a * b)),by go_num,congrArg (Value.int IntKind.u64) (by omega),by omega,by omega,by simpa using hu1,by simpa using hu2,?_,?_,OwnG.drew HST.out,HBS.out.drew⟩
      ·unfold Hid
       have hset:=val_set us (i+k) (by omega) (UInt32.ofNat (cc+o+a * b))
       have ho:(us.getD (i+k) 0).toNat=o:=HO2.out
       rw [ho,UInt32.toNat_ofNat'] at hset
       have hyk:b=val ys / 4294967296 ^ k % 4294967296:=by rw [← HY.out,ent_val]
       have:=mul_step (val us) _ cc (4294967296 ^ (i+k)) (4294967296 ^ i) (val (xs.take i) * val ys) a b o (cc+o+a * b) (val ys) (4294967296 ^ k) (Nat.pow_add _ _ _) rfl hyk hset HU.out
       rw [← Nat.add_assoc,Nat.pow_succ,Nat.pow_succ]
       exact this
      ·intro j hj
       have:=HF.out j hj
       rw [List.getD,List.getElem?_set_ne (by omega)]
       exact this
     case measure=>simp [intOf];omega
    ·obtain rfl:k=ys.length:=by omega
     have b1:decide (ys.length<ys.length)=false:=decide_eq_false (by omega)
     rcases id hgw with ⟨h0,_⟩ | ⟨g0,off0,cap0,h0,_,hg0,hn0,hm0,hsp0,hcs0⟩
     ·cases h0
     cases h0
     obtain ⟨-,hf1⟩:=hsp0 (i+ys.length) (by omega)
     have hco:=hcs0 (i+ys.length) (by omega)
     clear hsp0 hcs0 hn0
     unfold uv at hco
     have hst:=hgw.set_ (i:=i+ys.length) (y:=UInt32.ofNat cc) (by omega)
     have hbs:=hbw.setCell (p:=⟨g,off+(i+ys.length),none⟩) hBg (uv (UInt32.ofNat cc))
     have HST:=Lib.hid hst
     have HBS:=Lib.hid hbs
     clear hst hbs hgw
     go_wp2_with fail
     go_roundw
     case rel =>
      have hu:Value.int .u32 (cc:Int)=uv (UInt32.ofNat cc):=uv_ofNat _ _ (by omega)
      rw [hu]
      refine ⟨i+1,us.set (i+ys.length) (UInt32.ofNat cc),by go_num,by omega,by simpa using hu1,by simpa using hu2,?_,?_,HST.out,HBS.out⟩
      ·unfold Hid
       have hset:=val_set us (i+ys.length) (by omega) (UInt32.ofNat cc)
       have hz:(us.getD (i+ys.length) 0).toNat=0:=by rw [HF.out _ (Nat.le_refl _)];rfl
       have hcc':(UInt32.ofNat cc).toNat=cc:=by rw [UInt32.toNat_ofNat'];exact Nat.mod_eq_of_lt (by omega)
       rw [hz,hcc',Nat.mul_zero,Nat.add_zero] at hset
       have hU:=HU.out
       rw [Nat.mod_eq_of_lt (val_lt ys)] at hU
       rw [hset,List.take_succ_eq_append_getElem hlt,val_snoc,List.length_take,Nat.min_eq_left (by omega),Nat.add_mul,Nat.mul_comm (4294967296 ^ (i+ys.length)),hU]
       have hx:xs[i].toNat=a:=by rw [← HX.out,ent,List.getD,List.getElem?_eq_getElem hlt];rfl
       rw [hx,Nat.mul_comm (4294967296 ^ i) a,Nat.mul_assoc a,Nat.mul_assoc a,Nat.mul_comm (val ys)]
      ·intro j hj
       have:=HF.out j (by omega)
       rw [List.getD,List.getElem?_set_ne (by omega)]
       exact this
     case measure=>simp [intOf];omega
  ·obtain rfl:i=xs.length:=by omega
   have b0:decide (xs.length<xs.length)=false:=decide_eq_false (by omega)
   have hfin:Hid (val os=val xs * val ys):=by unfold Hid;rw [HV.out,List.take_length]
   have hl3:os.length=zs.length:=by omega
   obtain ⟨A2,c2,e2,hc2,hm2,hr2⟩:=hown.sl
   cases e2
   have h1000:(os.length:Int)≤1000000:=by omega
   have hsz:=hbel.size
   have HL3:=Lib.hid hl3
   clear hl3
   go_wp2_with fail
   rw [← HL3.out]
   refine (refNorm_any (some ⟨g,off,none⟩) os cap _ hr2 hc2 hm2 h1000).mono ?_;rintro e w2 ⟨v2,rfl,hown2,hb2⟩
   rw [hfin.out] at hown2
   go_wp2_with fail
   go_ret
   exact ⟨_,rfl,hown2.less hsz,nx hbel hb2⟩
end Go.Proofs.YteclejplbphkpaaGreat
