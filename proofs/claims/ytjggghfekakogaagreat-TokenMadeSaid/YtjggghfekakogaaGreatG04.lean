/- The contracts of big: entries, how many bits a word has, lists without noughts behind, order, the low bits. The contracts of big: a row that the call makes and writes; order, sums, differences. The contracts of big: sums, differences, products, powers of ten. The contracts of big: products, powers of ten. -/
import Derived.Test.YtjggghfekakogaaGreatG03
import Derived.Test.YtjggghfekakogaaGreatG01
set_option linter.unusedVariables false
set_option linter.unusedSimpArgs false
set_option linter.unnecessarySimpa false
namespace Go.Proofs.YtjggghfekakogaaGreat
open Go.RowKit
set_option maxHeartbeats 400000 in
theorem elem_any (A:Option Addr) (xs:List UInt32) (c:Nat) (i:Nat) (w:World) (hr:Rd uv w A xs) (hc:xs.length≤c) (hl:(xs.length:Int)≤1000000) (hi:(i:Int)≤1000000000) :
  Calls Tryz.prog 122 #[.slice A xs.length c,.int .i64 i] w fun e w'=>e = .returned (.int .u64 (ent xs i:Nat))∧w=w':=by
 by_cases hlt:i<xs.length
 ·obtain ⟨b,off,rfl,hb,hcell⟩:=hr.at_ (k:=i) hlt
  unfold uv at hcell
  have he:Hid (ent xs i=xs[i].toNat):=by unfold Hid ent;rw [List.getD,List.getElem?_eq_getElem hlt];rfl
  have hx:(xs[i].toNat:Int)≤4294967295:=by have:=xs[i].toNat_lt;omega
  have hd:decide (xs.length≤i)=false:=decide_eq_false (by omega)
  go_enter Tryz.func122,Tryz.ntmps122
  go_wp2
  go_ret
  refine ⟨?_,rfl⟩
  rw [he.out]
  rfl
 ·have he:Hid (ent xs i=0):=by unfold Hid ent;rw [List.getD,List.getElem?_eq_none (by omega)];rfl
  have hd:decide (xs.length≤i)=true:=decide_eq_true (by omega)
  go_enter Tryz.func122,Tryz.ntmps122
  go_wp2
  go_ret
  refine ⟨?_,rfl⟩
  rw [he.out]
  rfl
set_option maxHeartbeats 800000 in
theorem length_any (v:Nat) (w:World) (hv:(v:Int)≤4294967295) :
  Calls Tryz.prog 123 #[.int .u32 v] w fun e w'=>e = .returned (.int .i64 (blen v:Nat))∧w=w':=by
 go_enter Tryz.func123,Tryz.ntmps123
 go_wp2_with fail
 go_loop [0,3] (fun x k=>∃ n u:Nat,k = .int .i64 n∧n≤32∧x = .int .u32 u∧(u:Int)≤4294967295∧Hid (v / 2 ^ n=u)∧Hid (n=0∨2 ^ (n - 1)≤v)) (fun x _=>(intOf x).toNat)
 case atStart=>exact ⟨0,v,rfl,by omega,rfl,hv,by unfold Hid;simp,.inl rfl⟩
 case round =>
  obtain ⟨n,u,rfl,hn,rfl,hu,HU,HN⟩:=hrel
  by_cases h0:0<u
  ·have hd:decide (0<u)=true:=decide_eq_true h0
   have hp:2 ^ n≤v:=by
    rcases Nat.lt_or_ge v (2 ^ n) with h | h
    ·have:=HU.out;rw [Nat.div_eq_of_lt h] at this;omega
    ·exact h
   have hn31:n≤31:=by
    rcases Nat.lt_or_ge 31 n with h | h
    ·have:2 ^ 32≤2 ^ n:=Nat.pow_le_pow_right (by decide) h
     omega
    ·exact h
   have HP:=Lib.hid hp
   clear hp
   go_wp2_with fail
   go_round
   case rel =>
    refine ⟨n+1,u / 2,by go_num,by omega,by go_num,by omega,?_,.inr HP.out⟩
    unfold Hid
    rw [Nat.pow_succ,← Nat.div_div_eq_div_mul,HU.out]
   case measure=>simp [intOf];omega
  ·obtain rfl:u=0:=by omega
   have hfin:Hid (blen v=n):=by
    have h:=HU.out
    have hlt:v<2 ^ n:=(Nat.div_eq_zero_iff_lt (Nat.pow_pos (by decide))).1 h
    exact (bits_unique _ _ hlt HN.out).symm
   go_wp2_with fail
   go_ret
   refine ⟨?_,rfl⟩
   rw [hfin.out]
   rfl
def lenV:Value→Nat | .slice _ n _=>n | _=>0
set_option maxHeartbeats 1600000 in
theorem trim_any (A:Option Addr) (xs:List UInt32) (c:Nat) (w:World) (hr:Rd uv w A xs) (hc:xs.length≤c) (hm:c≤maxLen) (hl:(xs.length:Int)≤1000000) :
  Calls Tryz.prog 114 #[.slice A xs.length c] w fun e w'=>∃ v',e = .returned v'∧IsNum w v' (val xs)∧w=w':=by
 unfold maxLen at hm
 go_enter Tryz.func114,Tryz.ntmps114
 go_wp2_with fail
 go_loop [0] (fun v=>∃ A' c' n,v = .slice A' n c'∧n≤xs.length∧n≤c'∧c'≤c∧Rd uv w A' (xs.take n)∧Hid (∀ j,n≤j→xs.getD j 0=0)) (fun v=>lenV v)
 case atStart =>
  refine ⟨A,c,xs.length,rfl,Nat.le_refl _,hc,Nat.le_refl _,?_,fun j hj=>by rw [List.getD,List.getElem?_eq_none hj];rfl⟩
  rw [List.take_length];exact hr
 case round =>
  obtain ⟨A1,c1,n,rfl,hn,hnc,hcc,hr1,HZ⟩:=hrel
  have fin:(n=0∨xs.getD (n - 1) 0≠0)→IsNum w (.slice A1 n c1) (val xs):=fun h=>by
   have e:(xs.take n).length=n:=by rw [List.length_take];omega
   refine ⟨A1,c1,xs.take n,by rw [e],hr1,by omega,by unfold maxLen;omega,take_limbs xs n hn HZ.out h⟩
  rcases n with _ | m
  ·have hz:=Lib.hid (fin (.inl rfl))
   clear fin
   go_wp2_with fail
   go_ret
   exact ⟨_,rfl,hz.out,rfl⟩
  ·have hml:m<xs.length:=by omega
   obtain ⟨b,off,rfl,hb,hcell⟩:∃ b off,A1=some ⟨b,off,none⟩∧b<w.heap.size∧w.cell? ⟨b,off+m,none⟩=some (.int .u32 (xs[m].toNat:Int)):=by
    obtain ⟨b,off,h1,h2,h3⟩:=hr1.at_ (k:=m) (by rw [List.length_take];omega)
    rw [List.getElem_take] at h3
    exact ⟨b,off,h1,h2,h3⟩
   have HG:Hid (xs.getD m 0=xs[m]):=by unfold Hid;rw [List.getD,List.getElem?_eq_getElem (by omega)];rfl
   have HL:Hid ((xs.take (m+1)).length=m+1):=by unfold Hid;rw [List.length_take];omega
   by_cases hx:xs[m]=0
   ·have hb0:((xs[m].toNat:Int) == 0)=true:=by rw [hx];rfl
    have HX:=Lib.hid hx
    clear hx fin
    go_wp2_with (refine wpList_sl (f:=uv) _ uT rfl _ _ _ rfl _ (xs.take (m+1)) c1 (by rw [HL.out];rfl) hr1 (by rw [HL.out];omega) 0 (m:Int) (.inl ⟨rfl,rfl⟩) (.inr ⟨_,_,rfl,rfl⟩) (by omega) (by omega) (by rw [HL.out];omega) ?_;intro A2 ys c2 hcut hc1 hc2;obtain ⟨hr2,HY,hlo,hhi⟩:=hcut)
    go_round
    case rel =>
     have e:ys.length=m:=by omega
     refine ⟨A2,c2,ys.length,rfl,by omega,hc1,by omega,hr2.cast ?_,fun j hj=>?_⟩
     ·rw [e,HY.out];simp [List.take_take]
     ·by_cases hjm:j=m
      ·subst hjm;rw [HG.out,HX.out]
      ·exact HZ.out j (by omega)
    case measure=>simp [lenV];omega
   ·have hb0:((xs[m].toNat:Int) == 0)=false:=by
     rw [beq_eq_false_iff_ne]
     intro h
     exact hx (UInt32.toNat_inj.1 (by simpa using h))
    have hz:=Lib.hid (fin (.inr (by rw [Nat.add_sub_cancel,HG.out];exact hx)))
    clear hx fin
    go_wp2_with fail
    go_ret
    exact ⟨_,rfl,hz.out,rfl⟩
def cmpZ (a b:Int):Int:=if a<b then -1 else if b<a then 1 else 0
set_option maxHeartbeats 400000 in
theorem nanInt_any (a:Int) (w:World):Calls Tryz.prog 136 #[.int .i64 a] w fun e w'=>e = .returned (.bool false)∧w=w':=by
 have g0:(a != a)=false:=by simp
 go_enter Tryz.func136,Tryz.ntmps136
 go_wp2_with fail
 go_ret
 exact ⟨rfl,rfl⟩
set_option maxHeartbeats 400000 in
theorem nanU32_any (a:Int) (w:World):Calls Tryz.prog 137 #[.int .u32 a] w fun e w'=>e = .returned (.bool false)∧w=w':=by
 have g0:(a != a)=false:=by simp
 go_enter Tryz.func137,Tryz.ntmps137
 go_wp2_with fail
 go_ret
 exact ⟨rfl,rfl⟩
set_option maxHeartbeats 800000 in
theorem cmpInt_any (a b:Int) (w:World):Calls Tryz.prog 132 #[.int .i64 a,.int .i64 b] w fun e w'=>e = .returned (.int .i64 (cmpZ a b))∧w=w':=by
 rcases (by omega:a<b∨(¬ a<b∧b<a)∨(¬ a<b∧¬ b<a)) with h | ⟨h1,h2⟩ | ⟨h1,h2⟩
 ·have hz:Hid (cmpZ a b = -1):=by unfold Hid cmpZ;rw [if_pos h]
  go_enter Tryz.func132,Tryz.ntmps132
  go_wp2_with fail
  refine (nanInt_any a _).mono ?_;rintro e w' ⟨rfl,rfl⟩
  go_wp2_with fail
  refine (nanInt_any b _).mono ?_;rintro e w' ⟨rfl,rfl⟩
  go_wp2_with fail
  go_ret
  exact ⟨by rw [hz.out];rfl,rfl⟩
 ·have hz:Hid (cmpZ a b=1):=by unfold Hid cmpZ;rw [if_neg h1,if_pos h2]
  go_enter Tryz.func132,Tryz.ntmps132
  go_wp2_with fail
  refine (nanInt_any a _).mono ?_;rintro e w' ⟨rfl,rfl⟩
  go_wp2_with fail
  refine (nanInt_any b _).mono ?_;rintro e w' ⟨rfl,rfl⟩
  go_wp2_with fail
  go_ret
  exact ⟨by rw [hz.out];rfl,rfl⟩
 ·have hz:Hid (cmpZ a b=0):=by unfold Hid cmpZ;rw [if_neg h1,if_neg h2]
  go_enter Tryz.func132,Tryz.ntmps132
  go_wp2_with fail
  refine (nanInt_any a _).mono ?_;rintro e w' ⟨rfl,rfl⟩
  go_wp2_with fail
  refine (nanInt_any b _).mono ?_;rintro e w' ⟨rfl,rfl⟩
  go_wp2_with fail
  go_ret
  exact ⟨by rw [hz.out];rfl,rfl⟩
set_option maxHeartbeats 800000 in
theorem cmpU32_any (a b:Int) (w:World):Calls Tryz.prog 133 #[.int .u32 a,.int .u32 b] w fun e w'=>e = .returned (.int .i64 (cmpZ a b))∧w=w':=by
 rcases (by omega:a<b∨(¬ a<b∧b<a)∨(¬ a<b∧¬ b<a)) with h | ⟨h1,h2⟩ | ⟨h1,h2⟩
 ·have hz:Hid (cmpZ a b = -1):=by unfold Hid cmpZ;rw [if_pos h]
  go_enter Tryz.func133,Tryz.ntmps133
  go_wp2_with fail
  refine (nanU32_any a _).mono ?_;rintro e w' ⟨rfl,rfl⟩
  go_wp2_with fail
  refine (nanU32_any b _).mono ?_;rintro e w' ⟨rfl,rfl⟩
  go_wp2_with fail
  go_ret
  exact ⟨by rw [hz.out];rfl,rfl⟩
 ·have hz:Hid (cmpZ a b=1):=by unfold Hid cmpZ;rw [if_neg h1,if_pos h2]
  go_enter Tryz.func133,Tryz.ntmps133
  go_wp2_with fail
  refine (nanU32_any a _).mono ?_;rintro e w' ⟨rfl,rfl⟩
  go_wp2_with fail
  refine (nanU32_any b _).mono ?_;rintro e w' ⟨rfl,rfl⟩
  go_wp2_with fail
  go_ret
  exact ⟨by rw [hz.out];rfl,rfl⟩
 ·have hz:Hid (cmpZ a b=0):=by unfold Hid cmpZ;rw [if_neg h1,if_neg h2]
  go_enter Tryz.func133,Tryz.ntmps133
  go_wp2_with fail
  refine (nanU32_any a _).mono ?_;rintro e w' ⟨rfl,rfl⟩
  go_wp2_with fail
  refine (nanU32_any b _).mono ?_;rintro e w' ⟨rfl,rfl⟩
  go_wp2_with fail
  go_ret
  exact ⟨by rw [hz.out];rfl,rfl⟩
theorem or_lo (a b:Nat) (ha:(a:Int)≤4294967295) (hb:(b:Int)≤4294967295):bits .or .u64 ((b:Int) * 4294967296) (a:Int)=((a+b * 4294967296:Nat):Int):=by
 have h0:((b:Int) * 4294967296)=((b * 4294967296:Nat):Int):=by omega
 have hl:b * 4294967296<18446744073709551616:=by omega
 have hl2:a<18446744073709551616:=by omega
 have ha':a<2 ^ 32:=by omega
 rw [h0,bits_or_u64_nat _ a hl hl2]
 have:=Nat.two_pow_add_eq_or_of_lt (i:=32) (b:=a) ha' b
 rw [Nat.mul_comm b,show (4294967296:Nat)=2 ^ 32 from rfl,← this,Nat.add_comm]
set_option maxHeartbeats 400000 in
theorem low_any (A:Option Addr) (xs:List UInt32) (c:Nat) (w:World) (hr:Rd uv w A xs) (hc:xs.length≤c) (hl:(xs.length:Int)≤1000000) :
  Calls Tryz.prog 127 #[.slice A xs.length c] w fun e w'=>e = .returned (.int .u64 (val xs % 18446744073709551616:Nat))∧w=w':=by
 go_enter Tryz.func127,Tryz.ntmps127
 go_wp2_with fail
 refine (elem_any A xs c 1 _ hr hc hl (by omega)).mono ?_;rintro e w' ⟨rfl,rfl⟩
 have l1:=ent_le xs 1
 go_wp2_with fail
 refine (elem_any A xs c 0 _ hr hc hl (by omega)).mono ?_;rintro e w' ⟨rfl,rfl⟩
 have l0:=ent_le xs 0
 have hv:Hid (val xs % 18446744073709551616=ent xs 0+ent xs 1 * 4294967296):=by
  unfold Hid
  rw [ent_val,ent_val]
  generalize val xs=V
  omega
 go_wp2_with fail
 go_ret
 refine ⟨?_,rfl⟩
 rw [hv.out,← or_lo (ent xs 0) (ent xs 1) l0 l1]
 rfl
set_option maxHeartbeats 400000 in
theorem of_any (n:Nat) (w:World) (hn:(n:Int)≤18446744073709551615) :
  Calls Tryz.prog 99 #[.int .u64 n] w fun e w'=>∃ v',e = .returned v'∧IsNum w' v' n∧Below w.heap.size w w':=by
 have hv:Hid (val [UInt32.ofNat n,UInt32.ofNat (n / 4294967296)]=n):=by
  unfold Hid
  simp only [val,UInt32.toNat_ofNat']
  omega
 have h1:Hid (Value.int .u32 ((n:Int) % 4294967296)=uv (UInt32.ofNat n)):=uv_ofNat _ _ (by omega)
 have h2:Hid (Value.int .u32 ((n:Int) / 4294967296)=uv (UInt32.ofNat (n / 4294967296))):=uv_ofNat _ _ (by omega)
 go_enter Tryz.func99,Tryz.ntmps99
 go_wp2_with fail
 refine (trim_any (some ⟨w.heap.size,0,none⟩) [UInt32.ofNat n,UInt32.ofNat (n / 4294967296)] 2 _ ?_ (by simp) (by simp [maxLen]) (by simp)).mono ?_
 ·rw [h1.out,h2.out]
  exact Rd.litsU [UInt32.ofNat n,UInt32.ofNat (n / 4294967296)] rfl
 rintro e w1 ⟨v1,rfl,hown1,rfl⟩
 rw [hv.out] at hown1
 go_wp2_with fail
 go_ret
 exact ⟨_,rfl,hown1,nx0 w _⟩
theorem blen_top (l:List UInt32) (t:Nat) (hl:l.length=t+1) (h0:ent l t≠0):blen (val l)=32 * t+blen (ent l t):=by
 have hlt:=val_lt l
 rw [hl] at hlt
 have he:ent l t=val l / 4294967296 ^ t:=by
  rw [ent_val]
  exact Nat.mod_eq_of_lt (Nat.div_lt_of_lt_mul (by rw [← Nat.pow_succ];exact hlt))
 have hB:(4294967296:Nat) ^ t=2 ^ (32 * t):=by rw [Nat.pow_mul]
 rw [hB] at he
 generalize ent l t=e at *
 have hP:0<2 ^ (32 * t):=Nat.pow_pos (by decide)
 have hb:blen e=Nat.log2 e+1:=by unfold blen;rw [if_neg h0]
 have h1:2 ^ Nat.log2 e≤e:=Nat.log2_self_le h0
 have h2:e<2 ^ (Nat.log2 e+1):=(Nat.log2_lt h0).1 (Nat.lt_succ_self _)
 have hv0:val l≠0:=by
  intro h
  rw [h,Nat.zero_div] at he
  exact h0 he
 unfold blen at *
 rw [if_neg hv0,if_neg h0]
 refine ((bits_unique (val l) (32 * t+(Nat.log2 e+1)) ?_ (.inr ?_)).trans (by rw [if_neg hv0])).symm
 ·rw [Nat.pow_add,Nat.mul_comm]
  rw [he] at h2 ⊢
  exact (Nat.div_lt_iff_lt_mul hP).1 h2
 ·rw [show 32 * t+(Nat.log2 e+1) - 1=Nat.log2 e+32 * t from by omega,Nat.pow_add]
  exact Nat.le_trans (Nat.mul_le_mul_right _ h1) (by rw [he];exact Nat.div_mul_le_self _ _)
theorem limbs_top (n t:Nat) (h:(limbs n).length=t+1):ent (limbs n) t≠0:=by
 have hne:limbs n≠[]:=by intro e;rw [e] at h;simp at h
 have hc:=canon_limbs n hne
 intro h0
 apply hc
 rw [List.getLast_eq_getElem]
 unfold ent at h0
 rw [List.getD,List.getElem?_eq_getElem (by omega)] at h0
 simp only [h,Nat.add_sub_cancel]
 exact UInt32.toNat_inj.1 h0
set_option maxHeartbeats 800000 in
theorem bits_any (A:Option Addr) (xs:List UInt32) (c:Nat) (w:World) (hr:Rd uv w A xs) (hc:xs.length≤c) (hm:c≤maxLen) (hl:(xs.length:Int)≤200000) :
  Calls Tryz.prog 115 #[.slice A xs.length c] w fun e w'=>e = .returned (.int .i64 (blen (val xs):Nat))∧w=w':=by
 go_enter Tryz.func115,Tryz.ntmps115
 go_wp2_with fail
 refine (trim_any A xs c _ hr hc hm (by omega)).mono ?_;rintro e w1 ⟨v1,rfl,hn1,rfl⟩
 obtain ⟨A1,c1,ys,rfl,hr1,hc1,hm1,hl1,HY,HV⟩:=hn1.open_ xs.length (val_lt xs)
 have hyl:(ys.length:Int)≤200000:=by omega
 by_cases h0:ys.length=0
 ·have hfin:Hid (blen (val xs)=0):=by
   unfold Hid
   rw [← HV.out,List.eq_nil_of_length_eq_zero h0];rfl
  have hd:((ys.length:Int) == 0)=true:=by rw [h0];rfl
  have H0:=Lib.hid h0
  clear h0 hl1
  go_wp2_with fail
  go_ret
  refine ⟨?_,rfl⟩
  rw [hfin.out]
  rfl
 ·obtain ⟨t,ht⟩:∃ t,ys.length=t+1:=⟨ys.length - 1,by omega⟩
  have hd:((ys.length:Int) == 0)=false:=by rw [beq_eq_false_iff_ne];omega
  obtain ⟨b,off,rfl,hb,hcell⟩:=hr1.at_ (k:=t) (by omega)
  obtain ⟨x,HX⟩:∃ x,Hid (ent ys t=x):=⟨_,rfl⟩
  have vx:uv (ys[t]'(by omega)) = .int .u32 (x:Int):=by rw [← HX.out,uv,ent,List.getD,List.getElem?_eq_getElem (by omega)];rfl
  rw [vx] at hcell
  have lx:(x:Int)≤4294967295:=by rw [← HX.out];exact ent_le ys t
  have hfin:Hid (blen (val xs)=32 * t+blen x):=by
   unfold Hid
   rw [← HV.out,← HX.out]
   exact blen_top ys t ht (by rw [HY.out];exact limbs_top _ _ (by rw [← HY.out];exact ht))
  have hbx:(blen x:Int)≤32:=by
   unfold blen
   split
   ·decide
   ·rename_i hx0
    have:Nat.log2 x<32:=(Nat.log2_lt hx0).2 (by omega)
    omega
  have i1:((ys.length:Int) - 1)=(t:Int):=by omega
  have ht1:(t:Int)≤200000:=by omega
  have ht2:t<ys.length:=by omega
  have HT:=Lib.hid ht
  clear ht vx h0
  go_wp2_with fail
  refine (length_any x _ lx).mono ?_;rintro e w' ⟨rfl,rfl⟩
  go_wp2_with fail
  go_ret
  refine ⟨?_,rfl⟩
  rw [hfin.out]
  congr 2
theorem limbs_less (x y:Nat) (h:(limbs x).length<(limbs y).length):x<y:=by
 rcases Nat.lt_or_ge x y with h' | h'
 ·exact h'
 ·exfalso
  obtain ⟨t,ht⟩:∃ t,(limbs y).length=t+1:=⟨(limbs y).length - 1,by omega⟩
  have h1:=limbs_top y t ht
  rw [ent_val,val_limbs] at h1
  have h2:x<4294967296 ^ (limbs x).length:=by have:=val_lt (limbs x);rwa [val_limbs] at this
  have h3:4294967296 ^ (limbs x).length≤4294967296 ^ t:=Nat.pow_le_pow_right (by decide) (by omega)
  rw [Nat.div_eq_of_lt (by omega)] at h1
  exact h1 rfl
end Go.Proofs.YtjggghfekakogaaGreat
namespace Go.Proofs.YtjggghfekakogaaGreat
open Go.RowKit
structure Row (w:World) (B g off cap:Nat) (xs:List UInt32):Prop where
 hB:B≤g
 hg:g<w.heap.size
 hn:xs.length≤cap
 hm:cap≤maxLen
 hs:∀ j,j<cap→(w.cell? ⟨g,off+j,none⟩).isSome=true∧w.frozen? ⟨g,off+j,none⟩=false
 hc:∀ j (h:j<xs.length),w.cell? ⟨g,off+j,none⟩=some (uv xs[j])
theorem Row.rd {w:World} {B g off cap:Nat} {xs:List UInt32} (h:Row w B g off cap xs):Rd uv w (some ⟨g,off,none⟩) xs:=fun _=>⟨g,off,rfl,h.hg,h.hc⟩
theorem Row.gen {w:World} {B g off cap:Nat} {xs:List UInt32} (h:Row w B g off cap xs):OwnG uv w B (.slice (some ⟨g,off,none⟩) xs.length cap) xs:=.inr ⟨g,off,cap,rfl,h.hB,h.hg,h.hn,h.hm,h.hs,h.hc⟩
theorem Row.of_gen {w:World} {B g off cap n:Nat} {xs:List UInt32} (h:OwnG uv w B (.slice (some ⟨g,off,none⟩) n cap) xs):Row w B g off cap xs:=by
 rcases h with ⟨h,_⟩ | ⟨g',off',cap',h1,h2,h3,h4,h5,h6,h7⟩
 ·cases h
 ·injection h1 with e1 e2 e3;injection e1 with e1;injection e1 with e4 e5;subst e4 e5 e3;exact ⟨h2,h3,h4,h5,h6,h7⟩
theorem Row.below {w w':World} {B g off cap:Nat} {xs:List UInt32} (h:Row w B g off cap xs) (hb:Below w.heap.size w w'):Row w' B g off cap xs:=Row.of_gen (h.gen.below hb)
theorem Row.less {w:World} {B B' g off cap:Nat} {xs:List UInt32} (h:Row w B g off cap xs) (hB:B'≤B):Row w B' g off cap xs:={ h with hB:=Nat.le_trans hB h.hB }
theorem Row.set_ {w:World} {B g off cap i:Nat} {xs:List UInt32} {y:UInt32} (h:Row w B g off cap xs) (hi:i<xs.length):Row (w.setCell ⟨g,off+i,none⟩ (uv y)) B g off cap (xs.set i y) :=
 Row.of_gen (h.gen.set_ hi)
theorem Row.drew {w:World} {B g off cap:Nat} {xs:List UInt32} (h:Row w B g off cap xs):Row w.drew B g off cap xs:=⟨h.hB,h.hg,h.hn,h.hm,h.hs,h.hc⟩
theorem Row.cell {w:World} {B g off cap:Nat} {xs:List UInt32} (h:Row w B g off cap xs) {i a:Nat} (hi:i<xs.length) (ha:Hid (ent xs i=a)):w.cell? ⟨g,off+i,none⟩=some (.int .u32 (a:Int)):=by
 rw [h.hc i hi,← ha.out,uv,ent,List.getD,List.getElem?_eq_getElem hi];rfl
theorem Row.free {w:World} {B g off cap:Nat} {xs:List UInt32} (h:Row w B g off cap xs) {i:Nat} (hi:i<xs.length):w.frozen? ⟨g,off+i,none⟩=false:=(h.hs i (Nat.lt_of_lt_of_le hi h.hn)).2
theorem Row.put {w:World} {B g off cap i:Nat} {xs:List UInt32} (h:Row w B g off cap xs) (hi:i<xs.length) (n:Nat):Row (w.setCell ⟨g,off+i,none⟩ (uv (UInt32.ofNat n))) B g off cap (xs.set i (UInt32.ofNat n)):=h.set_ hi
theorem rd_cell {w:World} {A:Option Addr} {xs:List UInt32} (h:Rd uv w A xs) {i a:Nat} (hi:i<xs.length) (ha:Hid (ent xs i=a)):∃ b off,A=some ⟨b,off,none⟩∧b<w.heap.size∧w.cell? ⟨b,off+i,none⟩=some (.int .u32 (a:Int)):=by
 obtain ⟨b,off,h1,h2,h3⟩:=h.at_ hi
 refine ⟨b,off,h1,h2,?_⟩
 rw [h3,← ha.out,uv,ent,List.getD,List.getElem?_eq_getElem hi];rfl
section
variable {P:Program} (w:World) {ops:Array Oper} {rest:List Oper} {o:Oper} {a:Act} {Q:Exit→Act→World→Prop}
theorem wpList_mke {t e:TypeId} {by_:Nat} (T:ElT P t e by_) (hz0:∀ i,P.info? e=some i→i.zero=some (uv 0)) (hgd:o.guard=none) (l c:Operand) (hop:o.op=Op.makeSlice t l c)
  (B:Nat) (kl kc:IntKind) (N:Int) (hl:a.eval l = .int kl N) (hc:a.eval c = .int kc N) (h0:0≤N) (hby:by_ * N≤281474976710656) (hm:N≤281474976710656) (hB:B≤w.heap.size)
  (h:∀ g off cap w' (zs:List UInt32),Row w' B g off cap zs→Hid (zs=List.replicate N.toNat 0)→(zs.length:Int)≤N→N≤(zs.length:Int)→Below B w w'→w.heap.size≤g→wpList P ops Q rest (a.put o.dst (.slice (some ⟨g,off,none⟩) zs.length cap)) w'):wpList P ops Q (o :: rest) a w:=by
 obtain ⟨i,z,hi,hz,h1,h2,h3⟩:=T.inf
 obtain rfl:z=uv 0:=by have:=hz0 i hi;rw [hz] at this;injection this
 refine wpList_plain hgd fun K hK=>?_
 have hrun:=run_make (P:=P) w t e i (uv 0) T.ht hi hz kl kc N N h0 (Int.le_refl _) (by rw [h2];exact hby) (by omega)
 rw [h1,Nat.mul_one] at hrun
 have hmc:(madeCells (uv 0).cells N.toNat).toList=List.replicate N.toNat (uv 0):=by
  rw [show (uv 0).cells=#[uv 0] from rfl]
  apply List.ext_getElem
  ·simp [madeCells]
  ·intro j h1 h2
   simp [madeCells,Nat.mod_one]
 have hsz:(madeCells (uv 0).cells N.toNat).size=N.toNat:=by rw [← Array.length_toList,hmc];simp
 have hown:OwnG uv (w.alloc (.cells (madeCells (uv 0).cells N.toNat) e)) B (.slice (some ⟨w.heap.size,0,none⟩) (List.replicate N.toNat (0:UInt32)).length N.toNat) (List.replicate N.toNat 0) :=
  Own.gen (e:=e) ⟨by simp,.inr ⟨w.heap.size,N.toNat,_,rfl,hB,heap_alloc_new w _,by simp,by simp only [maxLen];omega,by omega,by rw [hmc];simp⟩⟩
 have:=hK _ _ (h _ _ _ _ _ (Row.of_gen hown) rfl (by rw [List.length_replicate];omega) (by rw [List.length_replicate];omega) ((Below.refl B w).alloc hB _) (Nat.le_refl _))
 unfold Oper.wp execOp
 simp only [hop,Sem.run_bind,Sem.run_pure,Result.andThen_ok,hl,hc,hrun]
 simp only [List.length_replicate] at this
 exact this
end
theorem trim_n (A:Option Addr) (xs:List UInt32) (n c:Nat) (w:World) (hn:Hid (xs.length=n)) (hr:Rd uv w A xs) (hc:xs.length≤c) (hm:c≤maxLen) (hl:(xs.length:Int)≤1000000) :
  Calls Tryz.prog 114 #[.slice A n c] w fun e w'=>∃ v',e = .returned v'∧IsNum w v' (val xs)∧w=w':=by
 have:=hn.out;subst this;exact trim_any A xs c w hr hc hm hl
theorem cmpI_len (x y:Nat) (h:(limbs x).length≠(limbs y).length):cmpZ (limbs x).length (limbs y).length=cmpI x y:=by
 unfold cmpZ cmpI
 rcases Nat.lt_or_ge (limbs x).length (limbs y).length with h1 | h1
 ·rw [if_pos (by omega),if_pos (limbs_less _ _ h1)]
 ·have h2:=limbs_less y x (by omega)
  rw [if_neg (by omega),if_pos (by omega),if_neg (by omega),if_pos h2]
set_option maxRecDepth 100000 in
set_option maxHeartbeats 1600000 in
theorem cmp_any (A:Option Addr) (xs:List UInt32) (c:Nat) (B:Option Addr) (ys:List UInt32) (d:Nat) (w:World) (hr:Rd uv w A xs) (hc:xs.length≤c) (hm:c≤maxLen) (hl:(xs.length:Int)≤1000000) (hs:Rd uv w B ys) (hd:ys.length≤d) (hm2:d≤maxLen) (hl2:(ys.length:Int)≤1000000) :
  Calls Tryz.prog 128 #[.slice A xs.length c,.slice B ys.length d] w fun e w'=>e = .returned (.int .i64 (cmpI (val xs) (val ys)))∧Below w.heap.size w w':=by
 go_enter Tryz.func128,Tryz.ntmps128
 go_wp2_with fail
 refine (trim_any A xs c _ hr hc hm hl).mono ?_;rintro e w1 ⟨v1,rfl,hn1,rfl⟩
 obtain ⟨A1,c1,us,rfl,hr1,hc1,hm1,hl1,HU,HVU⟩:=hn1.open_ xs.length (val_lt xs)
 clear hn1
 go_wp2_with fail
 refine (trim_any B ys d _ hs hd hm2 hl2).mono ?_;rintro e w1 ⟨v2,rfl,hn2,rfl⟩
 obtain ⟨A2,c2,vs,rfl,hr2,hc2,hm2',hl2',HW,HVW⟩:=hn2.open_ ys.length (val_lt ys)
 clear hn2
 have hul:(us.length:Int)≤1000000:=by omega
 have hvl:(vs.length:Int)≤1000000:=by omega
 clear hl1 hl2'
 by_cases hlen:us.length=vs.length
 ·have b1:((us.length:Int) != (vs.length:Int))=false:=by rw [hlen];simp
  have HLEN:=Lib.hid hlen
  have hle:us.length≤vs.length:=by omega
  clear hlen
  go_wp2_with fail
  go_loopw [5] (fun v wr=>∃ m:Nat,v = .int .i64 ((m:Int) - 1)∧m≤us.length∧Hid (∀ j,m≤j→ent us j=ent vs j)∧Nx w wr) (fun v _=>(intOf v+1).toNat)
  case atStart =>
   refine ⟨us.length,rfl,Nat.le_refl _,fun j hj=>?_,Nx.refl _⟩
   have:=HLEN.out
   unfold ent
   rw [List.getD,List.getD,List.getElem?_eq_none (by omega),List.getElem?_eq_none (by omega)]
  case round =>
   obtain ⟨m,rfl,hm,HE,hb⟩:=hrel
   rcases m with _ | m
   ·have hz:Hid (cmpI (val xs) (val ys)=0):=by
     have:=val_ext us vs fun j=>HE.out j (Nat.zero_le _)
     rw [HVU.out,HVW.out] at this
     unfold Hid cmpI;rw [this];simp
    go_wp2_with fail
    go_ret
    refine ⟨?_,hb⟩
    rw [hz.out]
    rfl
   ·obtain ⟨a,HX⟩:∃ a,Hid (ent us m=a):=⟨_,rfl⟩
    obtain ⟨b,HY⟩:∃ b,Hid (ent vs m=b):=⟨_,rfl⟩
    obtain ⟨b1',off1,rfl,hb1',hcx⟩:=rd_cell (hr1.below hb) (i:=m) (by omega) HX
    obtain ⟨b2',off2,rfl,hb2',hcy⟩:=rd_cell (hr2.below hb) (i:=m) (by omega) HY
    have hmv:m<vs.length:=by omega
    have hmu:m<us.length:=by omega
    by_cases hab:a=b
    ·subst hab
     have g1:((a:Int) != (a:Int))=false:=by simp
     go_upto_region 7 with (fail)
     refine wp_region_hyb [(0,true),(1,true),(2,true),(3,true),(4,true),(5,true),(6,true),(7,true),(8,true)] (by kernel_rfl) (by kernel_rfl) ?_
     have f1:∀ x:Gr wr,x.1.cell? ⟨b1',off1+m,none⟩=some (.int .u32 (a:Int)):=fun x=>(x.2.cell (by exact hb1')).trans hcx
     have f2:∀ x:Gr wr,x.1.cell? ⟨b2',off2+m,none⟩=some (.int .u32 (a:Int)):=fun x=>(x.2.cell (by exact hb2')).trans hcy
     iterate 9 (refine hyb_calm rfl (fun K hK=>?_);go_simp;refine hK _ ?_;clear hK K)
     clear f1 f2
     refine hyb_nil (fun w3 hn3=>?_)
     go_wp2_with fail
     go_roundw
     case rel =>
      refine ⟨m,by go_num,by omega,fun j hj=>?_,hb.trans hn3⟩
      by_cases hjm:j=m
      ·subst hjm;rw [HX.out,HY.out]
      ·exact HE.out j (by omega)
     case measure=>simp [intOf]
    ·have g1:((a:Int) != (b:Int))=true:=by simp;omega
     have hz:Hid (cmpZ a b=cmpI (val xs) (val ys)):=by
      unfold Hid
      rw [← HVU.out,← HVW.out]
      unfold cmpZ cmpI
      rcases Nat.lt_or_ge a b with h | h
      ·rw [if_pos (by omega),if_pos (val_less us vs m HE.out (by rw [HX.out,HY.out];exact h))]
      ·have h3:=val_less vs us m (fun j hj=>(HE.out j hj).symm) (by rw [HX.out,HY.out];omega)
       rw [if_neg (by omega),if_pos (by omega),if_neg (by omega),if_pos h3]
     clear hab
     go_upto_region 7 with (fail)
     refine wp_region_hyb [(0,true),(1,true),(2,true),(3,true),(4,true),(5,true),(6,true),(7,true),(8,true)] (by kernel_rfl) (by kernel_rfl) ?_
     have f1:∀ x:Gr wr,x.1.cell? ⟨b1',off1+m,none⟩=some (.int .u32 (a:Int)):=fun x=>(x.2.cell (by exact hb1')).trans hcx
     have f2:∀ x:Gr wr,x.1.cell? ⟨b2',off2+m,none⟩=some (.int .u32 (b:Int)):=fun x=>(x.2.cell (by exact hb2')).trans hcy
     iterate 9 (refine hyb_calm rfl (fun K hK=>?_);go_simp;refine hK _ ?_;clear hK K)
     refine hyb_nil (fun w3 hn3=>?_)
     have f1':∀ x:Gr w3,x.1.cell? ⟨b1',off1+m,none⟩=some (.int .u32 (a:Int)):=fun x=>f1 ⟨x.1,hn3.trans x.2⟩
     have f2':∀ x:Gr w3,x.1.cell? ⟨b2',off2+m,none⟩=some (.int .u32 (b:Int)):=fun x=>f2 ⟨x.1,hn3.trans x.2⟩
     clear f1 f2
     go_upto_region 8 with (fail)
     refine wp_region_hyb [(0,true),(1,true),(2,true),(3,true),(4,true),(5,true),(6,true),(7,true),(8,false),(9,true)] (by kernel_rfl) (by kernel_rfl) ?_
     iterate 8 (refine hyb_calm rfl (fun K hK=>?_);go_simp;refine hK _ ?_;clear hK K)
     clear f1' f2'
     refine hyb_alone rfl (fun w4 hn4 K hK=>?_)
     go_simp
     refine (cmpU32_any a b _).mono ?_;rintro e w' ⟨rfl,rfl⟩
     refine hK _ _ (Nx.refl _) ?_
     clear hK K
     refine hyb_calm rfl (fun K hK=>?_);go_simp;refine hK _ ?_;clear hK K
     refine hyb_nil (fun w5 hn5=>?_)
     go_wp2
     go_ret
     refine ⟨?_,hb.trans (hn3.trans (hn4.trans hn5))⟩
     rw [← hz.out]
     rfl
 ·have b1:((us.length:Int) != (vs.length:Int))=true:=by simp;omega
  have hz:Hid (cmpZ us.length vs.length=cmpI (val xs) (val ys)):=by
   unfold Hid
   rw [HU.out,HW.out] at hlen ⊢
   exact cmpI_len _ _ hlen
  clear hlen
  go_wp2_with fail
  refine (cmpInt_any _ _ _).mono ?_;rintro e w' ⟨rfl,rfl⟩
  rw [hz.out]
  go_wp2_with fail
  go_ret
  exact ⟨rfl,Below.refl _ _⟩
end Go.Proofs.YtjggghfekakogaaGreat
namespace Go.Proofs.YtjggghfekakogaaGreat
open Go.RowKit
theorem set_zero (l:List UInt32) (i n:Nat) (hi:i<l.length) (h0:ent l i=0):val (l.set i (UInt32.ofNat n))=val l+4294967296 ^ i * (n % 4294967296):=by
 have:=val_set l i hi (UInt32.ofNat n)
 have h0':(l.getD i 0).toNat=0:=h0
 rw [h0',UInt32.toNat_ofNat'] at this
 simpa using this
theorem ent_set_ne (l:List UInt32) (i j:Nat) (y:UInt32) (h:i≠j):ent (l.set i y) j=ent l j:=by
 unfold ent;rw [List.getD,List.getD,List.getElem?_set_ne h]
theorem ent_zeros (n j:Nat):ent (List.replicate n 0) j=0:=by
 unfold ent;rw [List.getD,List.getElem?_replicate];split <;> rfl
set_option maxRecDepth 100000 in
set_option maxHeartbeats 1600000 in
theorem add_any (A:Option Addr) (xs:List UInt32) (c:Nat) (B:Option Addr) (ys:List UInt32) (d:Nat) (w:World) (hr:Rd uv w A xs) (hc:xs.length≤c) (hl:(xs.length:Int)≤100000) (hs:Rd uv w B ys) (hd:ys.length≤d) (hl2:(ys.length:Int)≤100000) :
  Calls Tryz.prog 112 #[.slice A xs.length c,.slice B ys.length d] w fun e w'=>∃ v',e = .returned v'∧IsNum w' v' (val xs+val ys)∧Below w.heap.size w w':=by
 obtain ⟨M,hM,hM1,hM2,hM3⟩:∃ M:Nat,max (xs.length:Int) (ys.length:Int)=(M:Int)∧xs.length≤M∧ys.length≤M∧(M:Int)≤100000:=by
  by_cases h:xs.length<ys.length
  ·exact ⟨ys.length,by omega,by omega,by omega,hl2⟩
  ·exact ⟨xs.length,by omega,by omega,by omega,hl⟩
 go_enter Tryz.func112,Tryz.ntmps112
 go_wp2_with (at_make;go_must (refine wpList_mke _ uT uZ rfl _ _ rfl w.heap.size _ _ ((M:Int)+1) rfl rfl (by omega) (by omega) (by omega) (Nat.le_refl _) ?_;intro g off cap w1 zs hrow1 HZ1 hz1 hz2 hb1 hg1))
 clear hM
 have HR:=Lib.hid hrow1
 clear hrow1
 go_loopw [6,18] (fun v i wr=>∃ (k cc:Nat) (os:List UInt32),i = .int .i64 k∧v = .int .u64 cc∧cc≤1∧k≤zs.length∧os.length≤zs.length∧zs.length≤os.length ∧
  Hid (val os+cc * 4294967296 ^ k=val xs % 4294967296 ^ k+val ys % 4294967296 ^ k)∧Hid (∀ j,k≤j→ent os j=0)∧Row wr w.heap.size g off cap os∧Below w.heap.size w wr) (fun _ i _=>zs.length - (intOf i).toNat)
 case atStart =>
  refine ⟨0,0,zs,rfl,rfl,by omega,by omega,by omega,by omega,?_,?_,HR.out,hb1⟩
  ·unfold Hid;rw [HZ1.out,val_zeros];simp [Nat.mod_one]
  ·intro j _;rw [HZ1.out];exact ent_zeros _ _
 case round =>
  obtain ⟨k,cc,os,rfl,rfl,hcc,hk,ho1,ho2,HV,HE,hrow,hbel⟩:=hrel
  have hrw:=hr.below hbel
  have hsw:=hs.below hbel
  by_cases hlt:k<zs.length
  ·obtain ⟨a,HX⟩:∃ a,Hid (ent xs k=a):=⟨_,rfl⟩
   obtain ⟨b,HY⟩:∃ b,Hid (ent ys k=b):=⟨_,rfl⟩
   have la:(a:Int)≤4294967295:=by rw [← HX.out];exact ent_le xs k
   have lb:(b:Int)≤4294967295:=by rw [← HY.out];exact ent_le ys k
   have h0:Hid (ent os k=0):=HE.out k (Nat.le_refl _)
   have hco:=hrow.cell (by omega) h0
   have hfo:=hrow.free (i:=k) (by omega)
   have HST:=Lib.hid (hrow.put (i:=k) (by omega) (a+b+cc))
   have HBS:=Lib.hid (hbel.setCell (p:=⟨g,off+k,none⟩) hrow.hB (uv (UInt32.ofNat (a+b+cc))))
   have b1:decide (k<zs.length)=true:=decide_eq_true hlt
   clear hrow
   go_wp2_with fail
   refine (elem_any A xs c k _ hrw hc (by omega) (by omega)).mono ?_;rintro e w' ⟨rfl,rfl⟩
   rw [HX.out]
   go_wp2_with fail
   refine (elem_any B ys d k _ hsw hd (by omega) (by omega)).mono ?_;rintro e w' ⟨rfl,rfl⟩
   rw [HY.out]
   go_wp2_with fail
   go_roundw
   case rel =>
    have hu:Value.int .u32 (((a:Int)+b+cc) % 4294967296)=uv (UInt32.ofNat (a+b+cc)):=uv_ofNat _ _ (by omega)
    rw [hu]
    refine ⟨k+1,(a+b+cc) / 4294967296,os.set k (UInt32.ofNat (a+b+cc)),by go_num,by go_num,by omega,by omega,by simpa using ho1,by simpa using ho2,?_,?_,HST.out,HBS.out⟩
    ·unfold Hid
     have:=add_step (val os) cc (4294967296 ^ k) (val xs) (val ys) (a+b+cc) (by rw [← HX.out,← HY.out,ent_val,ent_val];omega) HV.out
     rw [set_zero os k _ (by omega) h0.out,Nat.pow_succ]
     exact this
    ·intro j hj
     rw [ent_set_ne _ _ _ _ (by omega)]
     exact HE.out j (by omega)
   case measure=>simp [intOf];omega
  ·obtain rfl:k=zs.length:=by omega
   have b1:decide (zs.length<zs.length)=false:=decide_eq_false (by omega)
   have hfin:Hid (val os=val xs+val ys):=by
    unfold Hid
    have h:=HV.out
    have h1:=val_lt xs
    have h2:=val_lt ys
    have h3:4294967296 ^ xs.length≤4294967296 ^ M:=Nat.pow_le_pow_right (by decide) hM1
    have h4:4294967296 ^ ys.length≤4294967296 ^ M:=Nat.pow_le_pow_right (by decide) hM2
    have h5:4294967296 ^ zs.length=4294967296 ^ M * 4294967296:=by rw [show zs.length=M+1 from by omega,Nat.pow_succ]
    rw [h5,Nat.mod_eq_of_lt (by omega),Nat.mod_eq_of_lt (by omega)] at h
    rcases (by omega:cc=0∨cc=1) with rfl | rfl <;> omega
   have HL:Hid (os.length=zs.length):=by unfold Hid;omega
   go_wp2_with fail
   refine (trim_n _ os _ cap _ HL hrow.rd hrow.hn hrow.hm (by omega)).mono ?_;rintro e w2 ⟨v2,rfl,hn2,rfl⟩
   rw [hfin.out] at hn2
   go_wp2_with fail
   go_ret
   exact ⟨_,rfl,hn2,hbel⟩
end Go.Proofs.YtjggghfekakogaaGreat
namespace Go.Proofs.YtjggghfekakogaaGreat
open Go.RowKit
set_option maxRecDepth 100000 in
set_option maxHeartbeats 1600000 in
theorem mul_any (A:Option Addr) (xs:List UInt32) (c:Nat) (B:Option Addr) (ys:List UInt32) (d:Nat) (w:World) (hr:Rd uv w A xs) (hc:xs.length≤c) (hl:(xs.length:Int)≤100000) (hs:Rd uv w B ys) (hd:ys.length≤d) (hl2:(ys.length:Int)≤100000) :
  Calls Tryz.prog 113 #[.slice A xs.length c,.slice B ys.length d] w fun e w'=>∃ v',e = .returned v'∧IsNum w' v' (val xs * val ys)∧Below w.heap.size w w':=by
 go_enter Tryz.func113,Tryz.ntmps113
 go_wp2_with (at_make;go_must (refine wpList_mke _ uT uZ rfl _ _ rfl w.heap.size _ _ ((xs.length:Int)+ys.length) rfl rfl (by omega) (by omega) (by omega) (Nat.le_refl _) ?_;intro g off cap w1 zs hrow1 HZ1 hz1 hz2 hb1 hg1))
 have HR:=Lib.hid hrow1
 clear hrow1 hg1
 go_loopw [20] (fun v wr=>∃ (i:Nat) (os:List UInt32),v = .int .i64 i∧i≤xs.length∧os.length≤zs.length∧zs.length≤os.length∧Hid (val os=val (xs.take i) * val ys)∧Hid (∀ j,i+ys.length≤j→ent os j=0) ∧
  Row wr w.heap.size g off cap os∧Below w.heap.size w wr) (fun v _=>xs.length - (intOf v).toNat)
 case atStart =>
  refine ⟨0,zs,rfl,Nat.zero_le _,Nat.le_refl _,Nat.le_refl _,?_,?_,HR.out,hb1⟩
  ·unfold Hid;rw [HZ1.out,val_zeros];simp [val]
  ·intro j _;rw [HZ1.out];exact ent_zeros _ _
 case round =>
  obtain ⟨i,os,rfl,hi,ho1,ho2,HV,HE,hrow,hbel⟩:=hrel
  by_cases hlt:i<xs.length
  ·obtain ⟨a,HX⟩:∃ a,Hid (ent xs i=a):=⟨_,rfl⟩
   have la:(a:Int)≤4294967295:=by rw [← HX.out];exact ent_le xs i
   have b0:decide (i<xs.length)=true:=decide_eq_true hlt
   obtain ⟨bx,offx,rfl,hbx,hcx⟩:=rd_cell (hr.below hbel) hlt HX
   have HO:=Lib.hid hrow
   clear hrow
   go_wp2_with fail
   obtain ⟨wo,rfl⟩:∃ wo:World,wo=wr:=⟨_,rfl⟩
   go_loopw [8,27] (fun v u wq=>∃ (k cc:Nat) (us:List UInt32),u = .int .i64 k∧v = .int .u64 cc∧(cc:Int)≤4294967295∧k≤ys.length∧us.length≤zs.length∧zs.length≤us.length ∧
    Hid (val us+cc * 4294967296 ^ (i+k)=val (xs.take i) * val ys+a * (val ys % 4294967296 ^ k) * 4294967296 ^ i)∧Hid (∀ j,i+ys.length≤j→ent us j=0) ∧
    Row wq w.heap.size g off cap us∧Below w.heap.size w wq) (fun _ u _=>ys.length - (intOf u).toNat)
   case atStart=>exact ⟨0,0,os,rfl,rfl,by omega,Nat.zero_le _,ho1,ho2,by unfold Hid;rw [HV.out];simp [Nat.mod_one],HE,HO.out,hbel⟩
   case round =>
    obtain ⟨k,cc,us,rfl,rfl,hcc,hk,hu1,hu2,HU,HF,hgw,hbw⟩:=hrel
    by_cases hlk:k<ys.length
    ·obtain ⟨b,HY⟩:∃ b,Hid (ent ys k=b):=⟨_,rfl⟩
     obtain ⟨o,HO2⟩:∃ o,Hid (ent us (i+k)=o):=⟨_,rfl⟩
     have lb:(b:Int)≤4294967295:=by rw [← HY.out];exact ent_le ys k
     have lo:(o:Int)≤4294967295:=by rw [← HO2.out];exact ent_le us (i+k)
     have lab:(a:Int) * (b:Int)≤18446744065119617025:=by
      have:=Int.mul_le_mul la lb (by omega) (by omega)
      omega
     have lab0:0≤(a:Int) * (b:Int):=Int.mul_nonneg (by omega) (by omega)
     obtain ⟨by_,offy,eB,hby,hcy⟩:=rd_cell (hs.below hbw) hlk HY
     subst eB
     have hco:=hgw.cell (i:=i+k) (by omega) HO2
     have hf1:=hgw.free (i:=i+k) (by omega)
     have HST:=Lib.hid (hgw.put (i:=i+k) (by omega) (cc+o+a * b))
     have HBS:=Lib.hid (hbw.setCell (p:=⟨g,off+(i+k),none⟩) hgw.hB (uv (UInt32.ofNat (cc+o+a * b))))
     have hik:i+k<zs.length:=by omega
     have b1:decide (k<ys.length)=true:=decide_eq_true hlk
     clear hgw
     go_wp2_with fail
     go_roundw
     case rel =>
      have hcast:((cc+o+a * b:Nat):Int)=(a:Int) * b+o+cc:=by rw [Int.natCast_add,Int.natCast_add,Int.natCast_mul];omega
      have hu:Value.int .u32 (((a:Int) * b+o+cc) % 4294967296)=uv (UInt32.ofNat (cc+o+a * b)):=uv_ofNat _ _ (by omega)
      have hS:cc+o+a * b≤18446744073709551615:=by omega
      rw [hu]
      refine ⟨k+1,(cc+o+a * b) / 4294967296,us.set (i+k) (UInt32.ofNat (cc+o+a * b)),by go_num,congrArg (Value.int IntKind.u64) (by omega),by omega,by omega,by simpa using hu1,by simpa using hu2,?_,?_,HST.out,HBS.out⟩
      ·unfold Hid
       have hset:=val_set us (i+k) (by omega) (UInt32.ofNat (cc+o+a * b))
       have ho:(us.getD (i+k) 0).toNat=o:=HO2.out
       rw [ho,UInt32.toNat_ofNat'] at hset
       have hyk:b=val ys / 4294967296 ^ k % 4294967296:=by rw [← HY.out,ent_val]
       have:=mul_step (val us) _ cc (4294967296 ^ (i+k)) (4294967296 ^ i) (val (xs.take i) * val ys) a b o (cc+o+a * b) (val ys) (4294967296 ^ k) (Nat.pow_add _ _ _) rfl hyk hset HU.out
       rw [← Nat.add_assoc,Nat.pow_succ,Nat.pow_succ]
       exact this
      ·intro j hj
       rw [ent_set_ne _ _ _ _ (by omega)]
       exact HF.out j hj
     case measure=>simp [intOf];omega
    ·obtain rfl:k=ys.length:=by omega
     have b1:decide (ys.length<ys.length)=false:=decide_eq_false (by omega)
     have hz:Hid (ent us (i+ys.length)=0):=HF.out _ (Nat.le_refl _)
     have hco:=hgw.cell (i:=i+ys.length) (by omega) hz
     have hf1:=hgw.free (i:=i+ys.length) (by omega)
     have HST:=Lib.hid (hgw.put (i:=i+ys.length) (by omega) cc)
     have HBS:=Lib.hid (hbw.setCell (p:=⟨g,off+(i+ys.length),none⟩) hgw.hB (uv (UInt32.ofNat cc)))
     have hik:i+ys.length<zs.length:=by omega
     clear hgw
     go_wp2_with fail
     go_roundw
     case rel =>
      have hu:Value.int .u32 (cc:Int)=uv (UInt32.ofNat cc):=uv_ofNat _ _ (by omega)
      rw [hu]
      refine ⟨i+1,us.set (i+ys.length) (UInt32.ofNat cc),by go_num,by omega,by simpa using hu1,by simpa using hu2,?_,?_,HST.out,HBS.out⟩
      ·unfold Hid
       have hset:=set_zero us (i+ys.length) cc (by omega) hz.out
       rw [Nat.mod_eq_of_lt (a:=cc) (by omega)] at hset
       have hU:=HU.out
       rw [Nat.mod_eq_of_lt (val_lt ys)] at hU
       rw [hset,List.take_succ_eq_append_getElem hlt,val_snoc,List.length_take,Nat.min_eq_left (by omega),Nat.add_mul,Nat.mul_comm (4294967296 ^ (i+ys.length)),hU]
       have hx:xs[i].toNat=a:=by rw [← HX.out,ent,List.getD,List.getElem?_eq_getElem hlt];rfl
       rw [hx,Nat.mul_comm (4294967296 ^ i) a,Nat.mul_assoc a,Nat.mul_assoc a,Nat.mul_comm (val ys)]
      ·intro j hj
       rw [ent_set_ne _ _ _ _ (by omega)]
       exact HF.out j (by omega)
     case measure=>simp [intOf];omega
  ·obtain rfl:i=xs.length:=by omega
   have b0:decide (xs.length<xs.length)=false:=decide_eq_false (by omega)
   have hfin:Hid (val os=val xs * val ys):=by unfold Hid;rw [HV.out,List.take_length]
   have HLL:Hid (os.length=zs.length):=by unfold Hid;omega
   go_wp2_with fail
   refine (trim_n _ os _ cap _ HLL hrow.rd hrow.hn hrow.hm (by omega)).mono ?_;rintro e w2 ⟨v2,rfl,hn2,rfl⟩
   rw [hfin.out] at hn2
   go_wp2_with fail
   go_ret
   exact ⟨_,rfl,hn2,hbel⟩
end Go.Proofs.YtjggghfekakogaaGreat
