/- The contracts of big: entries, how many bits a word has, lists without noughts behind, order, the low bits. A region that draws its order, in which some operations read and others make memory: one walk serves every order, if at each step the operation taken either reads alone (and gives one value however memory has grown) or is the only one that can come up. Plain lemmas over any program. -/
import Derived.Test.YtjggghfekakogaaGreatDoorG00
import Derived.Still
import Derived.Deep.Quiet
import Derived.Deep.QuietTactic
set_option linter.unusedVariables false
set_option linter.unusedSimpArgs false
set_option linter.unnecessarySimpa false
namespace Go.Proofs.YtjggghfekakogaaGreatDoor
open Go.RowKit
set_option maxHeartbeats 400000 in
theorem elem_any (A:Option Addr) (xs:List UInt32) (c:Nat) (i:Nat) (w:World) (hr:Rd uv w A xs) (hc:xs.length≤c) (hl:(xs.length:Int)≤1000000) (hi:(i:Int)≤1000000000) :
  Calls Tryz.prog 291 #[.slice A xs.length c,.int .i64 i] w fun e w'=>e = .returned (.int .u64 (ent xs i:Nat))∧w=w':=by
 by_cases hlt:i<xs.length
 ·obtain ⟨b,off,rfl,hb,hcell⟩:=hr.at_ (k:=i) hlt
  unfold uv at hcell
  have he:Hid (ent xs i=xs[i].toNat):=by unfold Hid ent;rw [List.getD,List.getElem?_eq_getElem hlt];rfl
  have hx:(xs[i].toNat:Int)≤4294967295:=by have:=xs[i].toNat_lt;omega
  have hd:decide (xs.length≤i)=false:=decide_eq_false (by omega)
  go_enter Tryz.func291,Tryz.ntmps291
  go_wp2
  go_ret
  refine ⟨?_,rfl⟩
  rw [he.out]
  rfl
 ·have he:Hid (ent xs i=0):=by unfold Hid ent;rw [List.getD,List.getElem?_eq_none (by omega)];rfl
  have hd:decide (xs.length≤i)=true:=decide_eq_true (by omega)
  go_enter Tryz.func291,Tryz.ntmps291
  go_wp2
  go_ret
  refine ⟨?_,rfl⟩
  rw [he.out]
  rfl
set_option maxHeartbeats 800000 in
theorem length_any (v:Nat) (w:World) (hv:(v:Int)≤4294967295) :
  Calls Tryz.prog 287 #[.int .u32 v] w fun e w'=>e = .returned (.int .i64 (blen v:Nat))∧w=w':=by
 go_enter Tryz.func287,Tryz.ntmps287
 go_wp2_with fail
 go_loop [0,3] (fun x k=>∃ n u:Nat,k = .int .i64 n∧n≤32∧x = .int .u32 u∧(u:Int)≤4294967295∧Hid (v / 2 ^ n=u)∧Hid (n=0∨2 ^ (n - 1)≤v)) (fun x _=>(intOf x).toNat)
 case atStart=>exact ⟨0,v,rfl,by omega,rfl,hv,by unfold Hid;simp,.inl rfl⟩
 case round =>
  obtain ⟨n,u,rfl,hn,rfl,hu,HU,HN⟩:=hrel
  by_cases h0:0<u
  ·have hd:decide (0<u)=true:=decide_eq_true h0
   have hp:2 ^ n≤v:=by
    rcases Nat.lt_or_ge v (2 ^ n) with h | h
    ·have:=HU.out;rw [Nat.div_eq_of_lt h] at this;omega
    ·exact h
   have hn31:n≤31:=by
    rcases Nat.lt_or_ge 31 n with h | h
    ·have:2 ^ 32≤2 ^ n:=Nat.pow_le_pow_right (by decide) h
     omega
    ·exact h
   have HP:=Lib.hid hp
   clear hp
   go_wp2_with fail
   go_round
   case rel =>
    refine ⟨n+1,u / 2,by go_num,by omega,by go_num,by omega,?_,.inr HP.out⟩
    unfold Hid
    rw [Nat.pow_succ,← Nat.div_div_eq_div_mul,HU.out]
   case measure=>simp [intOf];omega
  ·obtain rfl:u=0:=by omega
   have hfin:Hid (blen v=n):=by
    have h:=HU.out
    have hlt:v<2 ^ n:=(Nat.div_eq_zero_iff_lt (Nat.pow_pos (by decide))).1 h
    exact (bits_unique _ _ hlt HN.out).symm
   go_wp2_with fail
   go_ret
   refine ⟨?_,rfl⟩
   rw [hfin.out]
   rfl
def lenV:Value→Nat | .slice _ n _=>n | _=>0
set_option maxHeartbeats 1600000 in
theorem trim_any (A:Option Addr) (xs:List UInt32) (c:Nat) (w:World) (hr:Rd uv w A xs) (hc:xs.length≤c) (hm:c≤maxLen) (hl:(xs.length:Int)≤1000000) :
  Calls Tryz.prog 257 #[.slice A xs.length c] w fun e w'=>∃ v',e = .returned v'∧IsNum w v' (val xs)∧w=w':=by
 unfold maxLen at hm
 go_enter Tryz.func257,Tryz.ntmps257
 go_wp2_with fail
 go_loop [0] (fun v=>∃ A' c' n,v = .slice A' n c'∧n≤xs.length∧n≤c'∧c'≤c∧Rd uv w A' (xs.take n)∧Hid (∀ j,n≤j→xs.getD j 0=0)) (fun v=>lenV v)
 case atStart =>
  refine ⟨A,c,xs.length,rfl,Nat.le_refl _,hc,Nat.le_refl _,?_,fun j hj=>by rw [List.getD,List.getElem?_eq_none hj];rfl⟩
  rw [List.take_length];exact hr
 case round =>
  obtain ⟨A1,c1,n,rfl,hn,hnc,hcc,hr1,HZ⟩:=hrel
  have fin:(n=0∨xs.getD (n - 1) 0≠0)→IsNum w (.slice A1 n c1) (val xs):=fun h=>by
   have e:(xs.take n).length=n:=by rw [List.length_take];omega
   refine ⟨A1,c1,xs.take n,by rw [e],hr1,by omega,by unfold maxLen;omega,take_limbs xs n hn HZ.out h⟩
  rcases n with _ | m
  ·have hz:=Lib.hid (fin (.inl rfl))
   clear fin
   go_wp2_with fail
   go_ret
   exact ⟨_,rfl,hz.out,rfl⟩
  ·have hml:m<xs.length:=by omega
   obtain ⟨b,off,rfl,hb,hcell⟩:∃ b off,A1=some ⟨b,off,none⟩∧b<w.heap.size∧w.cell? ⟨b,off+m,none⟩=some (.int .u32 (xs[m].toNat:Int)):=by
    obtain ⟨b,off,h1,h2,h3⟩:=hr1.at_ (k:=m) (by rw [List.length_take];omega)
    rw [List.getElem_take] at h3
    exact ⟨b,off,h1,h2,h3⟩
   have HG:Hid (xs.getD m 0=xs[m]):=by unfold Hid;rw [List.getD,List.getElem?_eq_getElem (by omega)];rfl
   have HL:Hid ((xs.take (m+1)).length=m+1):=by unfold Hid;rw [List.length_take];omega
   by_cases hx:xs[m]=0
   ·have hb0:((xs[m].toNat:Int) == 0)=true:=by rw [hx];rfl
    have HX:=Lib.hid hx
    clear hx fin
    go_wp2_with (refine wpList_sl (f:=uv) _ uT rfl _ _ _ rfl _ (xs.take (m+1)) c1 (by rw [HL.out];rfl) hr1 (by rw [HL.out];omega) 0 (m:Int) (.inl ⟨rfl,rfl⟩) (.inr ⟨_,_,rfl,rfl⟩) (by omega) (by omega) (by rw [HL.out];omega) ?_;intro A2 ys c2 hcut hc1 hc2;obtain ⟨hr2,HY,hlo,hhi⟩:=hcut)
    go_round
    case rel =>
     have e:ys.length=m:=by omega
     refine ⟨A2,c2,ys.length,rfl,by omega,hc1,by omega,hr2.cast ?_,fun j hj=>?_⟩
     ·rw [e,HY.out];simp [List.take_take]
     ·by_cases hjm:j=m
      ·subst hjm;rw [HG.out,HX.out]
      ·exact HZ.out j (by omega)
    case measure=>simp [lenV];omega
   ·have hb0:((xs[m].toNat:Int) == 0)=false:=by
     rw [beq_eq_false_iff_ne]
     intro h
     exact hx (UInt32.toNat_inj.1 (by simpa using h))
    have hz:=Lib.hid (fin (.inr (by rw [Nat.add_sub_cancel,HG.out];exact hx)))
    clear hx fin
    go_wp2_with fail
    go_ret
    exact ⟨_,rfl,hz.out,rfl⟩
def cmpZ (a b:Int):Int:=if a<b then -1 else if b<a then 1 else 0
set_option maxHeartbeats 400000 in
theorem nanInt_any (a:Int) (w:World):Calls Tryz.prog 309 #[.int .i64 a] w fun e w'=>e = .returned (.bool false)∧w=w':=by
 have g0:(a != a)=false:=by simp
 go_enter Tryz.func309,Tryz.ntmps309
 go_wp2_with fail
 go_ret
 exact ⟨rfl,rfl⟩
set_option maxHeartbeats 400000 in
theorem nanU32_any (a:Int) (w:World):Calls Tryz.prog 310 #[.int .u32 a] w fun e w'=>e = .returned (.bool false)∧w=w':=by
 have g0:(a != a)=false:=by simp
 go_enter Tryz.func310,Tryz.ntmps310
 go_wp2_with fail
 go_ret
 exact ⟨rfl,rfl⟩
set_option maxHeartbeats 800000 in
theorem cmpInt_any (a b:Int) (w:World):Calls Tryz.prog 292 #[.int .i64 a,.int .i64 b] w fun e w'=>e = .returned (.int .i64 (cmpZ a b))∧w=w':=by
 rcases (by omega:a<b∨(¬ a<b∧b<a)∨(¬ a<b∧¬ b<a)) with h | ⟨h1,h2⟩ | ⟨h1,h2⟩
 ·have hz:Hid (cmpZ a b = -1):=by unfold Hid cmpZ;rw [if_pos h]
  go_enter Tryz.func292,Tryz.ntmps292
  go_wp2_with fail
  refine (nanInt_any a _).mono ?_;rintro e w' ⟨rfl,rfl⟩
  go_wp2_with fail
  refine (nanInt_any b _).mono ?_;rintro e w' ⟨rfl,rfl⟩
  go_wp2_with fail
  go_ret
  exact ⟨by rw [hz.out];rfl,rfl⟩
 ·have hz:Hid (cmpZ a b=1):=by unfold Hid cmpZ;rw [if_neg h1,if_pos h2]
  go_enter Tryz.func292,Tryz.ntmps292
  go_wp2_with fail
  refine (nanInt_any a _).mono ?_;rintro e w' ⟨rfl,rfl⟩
  go_wp2_with fail
  refine (nanInt_any b _).mono ?_;rintro e w' ⟨rfl,rfl⟩
  go_wp2_with fail
  go_ret
  exact ⟨by rw [hz.out];rfl,rfl⟩
 ·have hz:Hid (cmpZ a b=0):=by unfold Hid cmpZ;rw [if_neg h1,if_neg h2]
  go_enter Tryz.func292,Tryz.ntmps292
  go_wp2_with fail
  refine (nanInt_any a _).mono ?_;rintro e w' ⟨rfl,rfl⟩
  go_wp2_with fail
  refine (nanInt_any b _).mono ?_;rintro e w' ⟨rfl,rfl⟩
  go_wp2_with fail
  go_ret
  exact ⟨by rw [hz.out];rfl,rfl⟩
set_option maxHeartbeats 800000 in
theorem cmpU32_any (a b:Int) (w:World):Calls Tryz.prog 293 #[.int .u32 a,.int .u32 b] w fun e w'=>e = .returned (.int .i64 (cmpZ a b))∧w=w':=by
 rcases (by omega:a<b∨(¬ a<b∧b<a)∨(¬ a<b∧¬ b<a)) with h | ⟨h1,h2⟩ | ⟨h1,h2⟩
 ·have hz:Hid (cmpZ a b = -1):=by unfold Hid cmpZ;rw [if_pos h]
  go_enter Tryz.func293,Tryz.ntmps293
  go_wp2_with fail
  refine (nanU32_any a _).mono ?_;rintro e w' ⟨rfl,rfl⟩
  go_wp2_with fail
  refine (nanU32_any b _).mono ?_;rintro e w' ⟨rfl,rfl⟩
  go_wp2_with fail
  go_ret
  exact ⟨by rw [hz.out];rfl,rfl⟩
 ·have hz:Hid (cmpZ a b=1):=by unfold Hid cmpZ;rw [if_neg h1,if_pos h2]
  go_enter Tryz.func293,Tryz.ntmps293
  go_wp2_with fail
  refine (nanU32_any a _).mono ?_;rintro e w' ⟨rfl,rfl⟩
  go_wp2_with fail
  refine (nanU32_any b _).mono ?_;rintro e w' ⟨rfl,rfl⟩
  go_wp2_with fail
  go_ret
  exact ⟨by rw [hz.out];rfl,rfl⟩
 ·have hz:Hid (cmpZ a b=0):=by unfold Hid cmpZ;rw [if_neg h1,if_neg h2]
  go_enter Tryz.func293,Tryz.ntmps293
  go_wp2_with fail
  refine (nanU32_any a _).mono ?_;rintro e w' ⟨rfl,rfl⟩
  go_wp2_with fail
  refine (nanU32_any b _).mono ?_;rintro e w' ⟨rfl,rfl⟩
  go_wp2_with fail
  go_ret
  exact ⟨by rw [hz.out];rfl,rfl⟩
theorem or_lo (a b:Nat) (ha:(a:Int)≤4294967295) (hb:(b:Int)≤4294967295):bits .or .u64 ((b:Int) * 4294967296) (a:Int)=((a+b * 4294967296:Nat):Int):=by
 have h0:((b:Int) * 4294967296)=((b * 4294967296:Nat):Int):=by omega
 have hl:b * 4294967296<18446744073709551616:=by omega
 have hl2:a<18446744073709551616:=by omega
 have ha':a<2 ^ 32:=by omega
 rw [h0,bits_or_u64_nat _ a hl hl2]
 have:=Nat.two_pow_add_eq_or_of_lt (i:=32) (b:=a) ha' b
 rw [Nat.mul_comm b,show (4294967296:Nat)=2 ^ 32 from rfl,← this,Nat.add_comm]
set_option maxHeartbeats 400000 in
theorem low_any (A:Option Addr) (xs:List UInt32) (c:Nat) (w:World) (hr:Rd uv w A xs) (hc:xs.length≤c) (hl:(xs.length:Int)≤1000000) :
  Calls Tryz.prog 254 #[.slice A xs.length c] w fun e w'=>e = .returned (.int .u64 (val xs % 18446744073709551616:Nat))∧w=w':=by
 go_enter Tryz.func254,Tryz.ntmps254
 go_wp2_with fail
 refine (elem_any A xs c 1 _ hr hc hl (by omega)).mono ?_;rintro e w' ⟨rfl,rfl⟩
 have l1:=ent_le xs 1
 go_wp2_with fail
 refine (elem_any A xs c 0 _ hr hc hl (by omega)).mono ?_;rintro e w' ⟨rfl,rfl⟩
 have l0:=ent_le xs 0
 have hv:Hid (val xs % 18446744073709551616=ent xs 0+ent xs 1 * 4294967296):=by
  unfold Hid
  rw [ent_val,ent_val]
  generalize val xs=V
  omega
 go_wp2_with fail
 go_ret
 refine ⟨?_,rfl⟩
 rw [hv.out,← or_lo (ent xs 0) (ent xs 1) l0 l1]
 rfl
set_option maxHeartbeats 400000 in
theorem of_any (n:Nat) (w:World) (hn:(n:Int)≤18446744073709551615) :
  Calls Tryz.prog 208 #[.int .u64 n] w fun e w'=>∃ v',e = .returned v'∧IsNum w' v' n∧Below w.heap.size w w':=by
 have hv:Hid (val [UInt32.ofNat n,UInt32.ofNat (n / 4294967296)]=n):=by
  unfold Hid
  simp only [val,UInt32.toNat_ofNat']
  omega
 have h1:Hid (Value.int .u32 ((n:Int) % 4294967296)=uv (UInt32.ofNat n)):=uv_ofNat _ _ (by omega)
 have h2:Hid (Value.int .u32 ((n:Int) / 4294967296)=uv (UInt32.ofNat (n / 4294967296))):=uv_ofNat _ _ (by omega)
 go_enter Tryz.func208,Tryz.ntmps208
 go_wp2_with fail
 refine (trim_any (some ⟨w.heap.size,0,none⟩) [UInt32.ofNat n,UInt32.ofNat (n / 4294967296)] 2 _ ?_ (by simp) (by simp [maxLen]) (by simp)).mono ?_
 ·rw [h1.out,h2.out]
  exact Rd.litsU [UInt32.ofNat n,UInt32.ofNat (n / 4294967296)] rfl
 rintro e w1 ⟨v1,rfl,hown1,rfl⟩
 rw [hv.out] at hown1
 go_wp2_with fail
 go_ret
 exact ⟨_,rfl,hown1,nx0 w _⟩
theorem blen_top (l:List UInt32) (t:Nat) (hl:l.length=t+1) (h0:ent l t≠0):blen (val l)=32 * t+blen (ent l t):=by
 have hlt:=val_lt l
 rw [hl] at hlt
 have he:ent l t=val l / 4294967296 ^ t:=by
  rw [ent_val]
  exact Nat.mod_eq_of_lt (Nat.div_lt_of_lt_mul (by rw [← Nat.pow_succ];exact hlt))
 have hB:(4294967296:Nat) ^ t=2 ^ (32 * t):=by rw [Nat.pow_mul]
 rw [hB] at he
 generalize ent l t=e at *
 have hP:0<2 ^ (32 * t):=Nat.pow_pos (by decide)
 have hb:blen e=Nat.log2 e+1:=by unfold blen;rw [if_neg h0]
 have h1:2 ^ Nat.log2 e≤e:=Nat.log2_self_le h0
 have h2:e<2 ^ (Nat.log2 e+1):=(Nat.log2_lt h0).1 (Nat.lt_succ_self _)
 have hv0:val l≠0:=by
  intro h
  rw [h,Nat.zero_div] at he
  exact h0 he
 unfold blen at *
 rw [if_neg hv0,if_neg h0]
 refine ((bits_unique (val l) (32 * t+(Nat.log2 e+1)) ?_ (.inr ?_)).trans (by rw [if_neg hv0])).symm
 ·rw [Nat.pow_add,Nat.mul_comm]
  rw [he] at h2 ⊢
  exact (Nat.div_lt_iff_lt_mul hP).1 h2
 ·rw [show 32 * t+(Nat.log2 e+1) - 1=Nat.log2 e+32 * t from by omega,Nat.pow_add]
  exact Nat.le_trans (Nat.mul_le_mul_right _ h1) (by rw [he];exact Nat.div_mul_le_self _ _)
theorem limbs_top (n t:Nat) (h:(limbs n).length=t+1):ent (limbs n) t≠0:=by
 have hne:limbs n≠[]:=by intro e;rw [e] at h;simp at h
 have hc:=canon_limbs n hne
 intro h0
 apply hc
 rw [List.getLast_eq_getElem]
 unfold ent at h0
 rw [List.getD,List.getElem?_eq_getElem (by omega)] at h0
 simp only [h,Nat.add_sub_cancel]
 exact UInt32.toNat_inj.1 h0
set_option maxHeartbeats 800000 in
theorem bits_any (A:Option Addr) (xs:List UInt32) (c:Nat) (w:World) (hr:Rd uv w A xs) (hc:xs.length≤c) (hm:c≤maxLen) (hl:(xs.length:Int)≤200000) :
  Calls Tryz.prog 286 #[.slice A xs.length c] w fun e w'=>e = .returned (.int .i64 (blen (val xs):Nat))∧w=w':=by
 go_enter Tryz.func286,Tryz.ntmps286
 go_wp2_with fail
 refine (trim_any A xs c _ hr hc hm (by omega)).mono ?_;rintro e w1 ⟨v1,rfl,hn1,rfl⟩
 obtain ⟨A1,c1,ys,rfl,hr1,hc1,hm1,hl1,HY,HV⟩:=hn1.open_ xs.length (val_lt xs)
 have hyl:(ys.length:Int)≤200000:=by omega
 by_cases h0:ys.length=0
 ·have hfin:Hid (blen (val xs)=0):=by
   unfold Hid
   rw [← HV.out,List.eq_nil_of_length_eq_zero h0];rfl
  have hd:((ys.length:Int) == 0)=true:=by rw [h0];rfl
  have H0:=Lib.hid h0
  clear h0 hl1
  go_wp2_with fail
  go_ret
  refine ⟨?_,rfl⟩
  rw [hfin.out]
  rfl
 ·obtain ⟨t,ht⟩:∃ t,ys.length=t+1:=⟨ys.length - 1,by omega⟩
  have hd:((ys.length:Int) == 0)=false:=by rw [beq_eq_false_iff_ne];omega
  obtain ⟨b,off,rfl,hb,hcell⟩:=hr1.at_ (k:=t) (by omega)
  obtain ⟨x,HX⟩:∃ x,Hid (ent ys t=x):=⟨_,rfl⟩
  have vx:uv (ys[t]'(by omega)) = .int .u32 (x:Int):=by rw [← HX.out,uv,ent,List.getD,List.getElem?_eq_getElem (by omega)];rfl
  rw [vx] at hcell
  have lx:(x:Int)≤4294967295:=by rw [← HX.out];exact ent_le ys t
  have hfin:Hid (blen (val xs)=32 * t+blen x):=by
   unfold Hid
   rw [← HV.out,← HX.out]
   exact blen_top ys t ht (by rw [HY.out];exact limbs_top _ _ (by rw [← HY.out];exact ht))
  have hbx:(blen x:Int)≤32:=by
   unfold blen
   split
   ·decide
   ·rename_i hx0
    have:Nat.log2 x<32:=(Nat.log2_lt hx0).2 (by omega)
    omega
  have i1:((ys.length:Int) - 1)=(t:Int):=by omega
  have ht1:(t:Int)≤200000:=by omega
  have ht2:t<ys.length:=by omega
  have HT:=Lib.hid ht
  clear ht vx h0
  go_wp2_with fail
  refine (length_any x _ lx).mono ?_;rintro e w' ⟨rfl,rfl⟩
  go_wp2_with fail
  go_ret
  refine ⟨?_,rfl⟩
  rw [hfin.out]
  congr 2
theorem limbs_less (x y:Nat) (h:(limbs x).length<(limbs y).length):x<y:=by
 rcases Nat.lt_or_ge x y with h' | h'
 ·exact h'
 ·exfalso
  obtain ⟨t,ht⟩:∃ t,(limbs y).length=t+1:=⟨(limbs y).length - 1,by omega⟩
  have h1:=limbs_top y t ht
  rw [ent_val,val_limbs] at h1
  have h2:x<4294967296 ^ (limbs x).length:=by have:=val_lt (limbs x);rwa [val_limbs] at this
  have h3:4294967296 ^ (limbs x).length≤4294967296 ^ t:=Nat.pow_le_pow_right (by decide) (by omega)
  rw [Nat.div_eq_of_lt (by omega)] at h1
  exact h1 rfl
end Go.Proofs.YtjggghfekakogaaGreatDoor
namespace Go.Proofs.YtjggghfekakogaaGreatDoor
open Go.RowKit
def Nx (w w':World):Prop:=Below w.heap.size w w'
theorem Nx.refl (w:World):Nx w w:=Below.refl _ _
theorem Nx.trans {a b c:World} (h:Nx a b) (k:Nx b c):Nx a c:=nx h k
theorem Nx.drawn (w:World):Nx w { w with drawn:=w.drawn+1 }:=⟨rfl,rfl,rfl,Nat.le_refl _,fun _ _=>rfl⟩
theorem Nx.drewN (w:World) (n:Nat):Nx w (w.drewN n):=⟨rfl,rfl,rfl,Nat.le_refl _,fun _ _=>rfl⟩
abbrev Gr (w:World):={ w':World // Nx w w' }
instance grNonempty (w:World):Nonempty (Gr w):=⟨⟨w,Nx.refl w⟩⟩
section
variable {P:Program} {ops:Array Oper} {md:Region.Mode}
def calm (P:Program) (o:Oper) (a:Act) (w:World) (next:Act→Prop):Prop :=
 ∃ v,(∀ x:Gr w,o.quietAt P a (fun w''=>w''=x.1) x.1 v)∧next (a.put o.dst v)
def gOp (P:Program) (ops:Array Oper) (i:Nat) (K:Act→World→Prop) (a:Act) (w:World):Prop :=
 match ops[i]? with
 | none=>K a w
 | some o=>if Region.wanted o (yielded ops a.tmps) then o.wp P a w K (fun _ _ _=>False) else K (a.put o.dst undef) w
def GA (P:Program) (md:Region.Mode) (ops:Array Oper) (Q:Act→World→Prop):Nat→Array Bool→Act→World→Prop
 | 0,listed,a,w=>Region.ready md ops listed=[]∧∀ w1,Nx w w1→Q a w1
 | f+1,listed,a,w=>∀ w1,Nx w w1→(Region.ready md ops listed=[]→Q a w1) ∧
   ∀ i ∈ Region.ready md ops listed,gOp P ops i (fun a' w'=>Nx w1 w'∧GA P md ops Q f (listed.setIfInBounds i true) a' w') a w1
theorem GA.grow {Q:Act→World→Prop} {f:Nat} {listed:Array Bool} {a:Act} {w w1:World} (h:GA P md ops Q f listed a w) (hn:Nx w w1):GA P md ops Q f listed a w1:=by
 cases f with
 | zero=>exact ⟨h.1,fun w2 h2=>h.2 w2 (hn.trans h2)⟩
 | succ f=>exact fun w2 h2=>h w2 (hn.trans h2)
theorem wp_mono_both {o:Oper} {a:Act} {w:World} {K K':Act→World→Prop} {Q:Exit→Act→World→Prop} (h:∀ a w,K a w→K' a w) (hh:o.wp P a w K (fun _ _ _=>False)) (hl:True):o.wp P a w K' Q:=by
 unfold Oper.wp at *
 generalize (execOp a.eval o).run P w=r at *
 cases r with
 | ok n w' =>
  cases n <;> simp only [Oper.upon] at hh ⊢
  case value v=>exact h _ _ hh
  case skip=>exact h _ _ hh
  case defer d=>exact h _ _ hh
  case enter f args =>
   refine hh.mono fun e w'' he=>?_
   cases e with
   | returned v=>exact h _ _ he
   | panicked c=>exact he.elim
   | outgrown=>exact absurd he (by simp [LetsOut])
  case row r args=>exact hh.mono fun v w'' he=>h _ _ he
 | halt x w'=>cases x <;> simp only [Oper.upon] at hh
theorem wpAny_of_GA {Q:Act→World→Prop} {Q':Exit→Act→World→Prop} (hQ:∀ a w,Q a w→Q' .normal a w):∀ (f:Nat) (listed:Array Bool) (a:Act) (w:World),
  GA P md ops Q f listed a w→wpAny P md ops Q' f listed a w
 | 0,_,_,w,h=>⟨h.1,hQ _ _ (h.2 w (Nx.refl w))⟩
 | f+1,listed,a,w,h=>by
  refine ⟨fun h0=>hQ _ _ ((h w (Nx.refl w)).1 h0),fun i hi=>?_⟩
  have:=(h w (Nx.refl w)).2 i hi
  unfold gOp at this
  unfold wpOp
  split
  ·rename_i ho;simp only [ho] at this;exact wpAny_of_GA hQ f _ _ _ this.2
  ·rename_i o ho
   simp only [ho] at this
   split
   ·rename_i hw;simp only [hw,if_true] at this;exact .inl (wp_mono_both (fun a' w' h'=>wpAny_of_GA hQ f _ _ _ h'.2) this trivial)
   ·rename_i hw;simp only [hw] at this;exact wpAny_of_GA hQ f _ _ _ this.2
def YG (P:Program) (ops:Array Oper) (w:World) (o:Oper) (v:Value) (a:Act):Prop :=
 (Region.wanted o (yielded ops a.tmps)=true∧∀ x:Gr w,o.quietAt P a (fun w''=>w''=x.1) x.1 v) ∨
 (Region.wanted o (yielded ops a.tmps)=false∧v=undef)
theorem YG.grow {w w1:World} {o:Oper} {v:Value} {a:Act} (h:YG P ops w o v a) (hn:Nx w w1):YG P ops w1 o v a:=by
 rcases h with ⟨h1,h2⟩ | h
 ·exact .inl ⟨h1,fun x=>h2 ⟨x.1,hn.trans x.2⟩⟩
 ·exact .inr h
theorem YG.gOp {i:Nat} {w:World} {o:Oper} {v:Value} {a:Act} (hi:ops[i]? = some o) (hy:YG P ops w o v a) {K:Act→World→Prop} (h:K (a.put o.dst v) w):gOp P ops i K a w:=by
 unfold Go.Proofs.YtjggghfekakogaaGreatDoor.gOp
 simp only [hi]
 rcases hy with ⟨hw,hv⟩ | ⟨hw,rfl⟩
 ·simp only [hw,if_true]
  have h3:=hv ⟨w,Nx.refl w⟩
  unfold Oper.quietAt at h3
  unfold Oper.wp
  generalize (execOp a.eval o).run P w=r at *
  cases r with
  | ok n w' =>
   cases n <;> simp only [Oper.quietUpon] at h3 <;> simp only [Oper.upon]
   case value u=>obtain ⟨e1,e2⟩:=h3;rw [e1,e2];exact h
   case skip=>obtain ⟨e1,e2⟩:=h3;rw [e1,← e2];exact h
   case enter f args =>
    obtain ⟨e1,hc⟩:=h3
    rw [e1]
    exact hc.mono fun e w'' ⟨he,hw''⟩=>by subst he;rw [hw''];exact h
  | halt x w'=>simp only [Oper.quietUpon] at h3
 ·simp only [hw,Bool.false_eq_true,if_false];exact h
theorem YG.of_same {w:World} {o:Oper} {v:Value} {a a':Act} (hy:YG P ops w o v a) (he:execOp a'.eval o=execOp a.eval o)
  (hw:Region.wanted o (yielded ops a'.tmps)=Region.wanted o (yielded ops a.tmps)):YG P ops w o v a':=by
 unfold YG Oper.quietAt at *
 rw [he,hw]
 exact hy
theorem defers_put (a:Act) (ds:List Deferred) (x:Option Tmp) (v:Value):({ a with defers:=ds }:Act).put x v = { a.put x v with defers:=ds }:=by cases x <;> rfl
theorem gOp_put {j:Nat} {w:World} {oi oj:Oper} {v:Value} (hj:ops[j]? = some oj) (hap:oi.apart ops oj=true)
  (hsi:∀ cs b,oi.op≠.select cs b) (hsj:∀ cs b,oj.op≠.select cs b) {K:Act→World→Prop} {a:Act}
  (hy:YG P ops w oi v a) (h:gOp P ops j K (a.put oi.dst v) w) :
  gOp P ops j (fun a' w'=>YG P ops w oi v a'∧K (a'.put oi.dst v) w') a w:=by
 obtain ⟨h1,h2,h3⟩:=Oper.apart_spec hap
 have keep:∀ u,YG P ops w oi v (a.put oj.dst u):=fun u =>
  hy.of_same (execOp_put oi hsi a oj.dst u h3) (wanted_put oi a oj.dst u h3)
 have pc:∀ u,(a.put oi.dst v).put oj.dst u=(a.put oj.dst u).put oi.dst v:=fun u=>Act.put_comm a v u h2
 unfold Go.Proofs.YtjggghfekakogaaGreatDoor.gOp at *
 simp only [hj] at *
 rw [wanted_put oj a oi.dst v h1] at h
 split
 ·rename_i hw
  simp only [hw,if_true] at h
  unfold Oper.wp at *
  rw [execOp_put oj hsj a oi.dst v h1] at h
  generalize (execOp a.eval oj).run P w=r at *
  cases r with
  | ok n w' =>
   cases n <;> simp only [Oper.upon] at h ⊢
   case value u=>exact ⟨keep u,by rw [← pc];exact h⟩
   case skip=>exact ⟨keep _,by rw [← pc];exact h⟩
   case defer d =>
    have hd:(a.put oi.dst v).defers=a.defers:=by cases oi.dst <;> rfl
    rw [hd,defers_put,pc] at h
    rw [defers_put]
    refine ⟨(keep undef).of_same rfl rfl,?_⟩
    rw [defers_put]
    exact h
   case enter f args =>
    refine h.mono fun e w'' he=>?_
    cases e with
    | returned u=>exact ⟨keep u,by rw [← pc];exact he⟩
    | panicked c=>exact he.elim
    | outgrown=>exact absurd he (by simp [LetsOut])
   case row r args=>exact h.mono fun u w'' he=>⟨keep u,by rw [← pc];exact he⟩
  | halt x w'=>cases x <;> simp only [Oper.upon] at h
 ·rename_i hw
  simp only [hw] at h
  exact ⟨keep _,by rw [← pc];exact h⟩
theorem gOp_mono {i:Nat} {a:Act} {w:World} {K K':Act→World→Prop} (h:∀ a w,K a w→K' a w) (hh:gOp P ops i K a w):gOp P ops i K' a w:=by
 unfold Go.Proofs.YtjggghfekakogaaGreatDoor.gOp at *
 split
 ·exact h _ _ (by simpa [*] using hh)
 ·rename_i o ho
  simp only [ho] at hh
  split
  ·rename_i hw;simp only [hw,if_true] at hh;exact wp_mono_both h hh trivial
  ·rename_i hw;simp only [hw] at hh;exact h _ _ hh
theorem GA_first {Q:Act→World→Prop} {i:Nat} {oi:Oper} {v:Value} (hi:ops[i]? = some oi) (hsel:∀ (j:Nat) (o:Oper) cs b,ops[j]? = some o→o.op≠.select cs b) :
  ∀ (f:Nat) (listed:Array Bool) (a:Act) (w:World),
   (∀ j oj,ops[j]? = some oj→j≠i→listed.getD j true=false→(∀ e ∈ oj.after,Region.binds md e=true→e.on≠i)→oi.apart ops oj=true) →
   i ∈ Region.ready md ops listed→YG P ops w oi v a →
   GA P md ops Q f (listed.setIfInBounds i true) (a.put oi.dst v) w→GA P md ops Q (f+1) listed a w:=by
 intro f
 induction f with
 | zero =>
  intro listed a w _ hr hy H w1 hn
  refine ⟨fun h=>(by rw [h] at hr;cases hr),fun j hj=>?_⟩
  by_cases hji:j=i
  ·subst hji;exact (hy.grow hn).gOp hi ⟨Nx.refl _,H.grow hn⟩
  ·have:=ready_mono hj hji
   rw [H.1] at this
   cases this
 | succ f ih =>
  intro listed a w hfree hr hy H w1 hn
  refine ⟨fun h=>(by rw [h] at hr;cases hr),fun j hj=>?_⟩
  by_cases hji:j=i
  ·subst hji;exact (hy.grow hn).gOp hi ⟨Nx.refl _,H.grow hn⟩
  ·have h1:=(H w1 hn).2 j (ready_mono hj hji)
   obtain ⟨hjun,oj,hoj,hall⟩:=mem_ready.1 hj
   have hnot:∀ e ∈ oj.after,Region.binds md e=true→e.on≠i:=fun e he hb heq=>by
    have h1:=hall e he hb
    have h0:=(mem_ready.1 hr).1
    rw [heq] at h1
    rcases Nat.lt_or_ge i listed.size with h' | h'
    ·simp [h'] at h0 h1;rw [h0] at h1;cases h1
    ·simp [Array.getElem?_eq_none h'] at h1
   have h2:=gOp_put hoj (hfree j oj hoj hji hjun hnot) (fun cs b=>hsel i oi cs b hi) (fun cs b=>hsel j oj cs b hoj) (hy.grow hn) h1
   have hfree':∀ k ok,ops[k]? = some ok→k≠i→(listed.setIfInBounds j true).getD k true=false →
     (∀ e ∈ ok.after,Region.binds md e=true→e.on≠i)→oi.apart ops ok=true:=fun k ok hk hki hun hno=>by
    refine hfree k ok hk hki ?_ hno
    by_cases hjk:j=k
    ·subst hjk;exact hjun
    ·rw [getD_set_ne true hjk] at hun;exact hun
   refine gOp_mono (fun a' w' h3=>⟨h3.2.1,ih (listed.setIfInBounds j true) a' w' hfree' (ready_mono hr (Ne.symm hji)) (h3.1.grow h3.2.1) ?_⟩) h2
   rw [Array.setIfInBounds_comm _ _ hji]
   exact h3.2.2
def wpHyb (P:Program) (ops:Array Oper) (Q:Act→World→Prop):List (Nat×Bool)→Act→World→Prop
 | [],a,w=>∀ w1,Nx w w1→Q a w1
 | (k,true) :: rest,a,w=>match ops[k]? with
  | none=>False
  | some o=>if Region.wanted o (yielded ops a.tmps) then calm P o a w (fun a'=>wpHyb P ops Q rest a' w) else wpHyb P ops Q rest (a.put o.dst undef) w
 | (k,false) :: rest,a,w=>∀ w1,Nx w w1→match ops[k]? with
  | none=>False
  | some o=>if Region.wanted o (yielded ops a.tmps) then o.wp P a w1 (fun a' w'=>Nx w1 w'∧wpHyb P ops Q rest a' w') (fun _ _ _=>False) else wpHyb P ops Q rest (a.put o.dst undef) w1
def hybFrom (md:Region.Mode) (ops:Array Oper):List (Nat×Bool)→Array Bool→Bool
 | [],listed=>(Region.ready md ops listed).isEmpty
 | (k,true) :: rest,listed=>(Region.ready md ops listed).contains k && Region.free md ops listed k && hybFrom md ops rest (listed.setIfInBounds k true)
 | (k,false) :: rest,listed=>Region.ready md ops listed == [k] && hybFrom md ops rest (listed.setIfInBounds k true)
def hybB (md:Region.Mode) (ops:Array Oper) (s:List (Nat×Bool)):Bool:=Region.noSelect ops && s.length == ops.size && hybFrom md ops s (Array.replicate ops.size false)
theorem GA_hyb {Q:Act→World→Prop} (hs:Region.noSelect ops=true):∀ (s:List (Nat×Bool)) (listed:Array Bool) (a:Act) (w:World),
  hybFrom md ops s listed=true→wpHyb P ops Q s a w→GA P md ops Q s.length listed a w
 | [],listed,a,w,hB,h=>⟨by simpa [hybFrom] using hB,h⟩
 | (k,true) :: rest,listed,a,w,hB,h=>by
  simp only [hybFrom,Bool.and_eq_true] at hB
  obtain ⟨⟨hr,hf⟩,hB'⟩:=hB
  have hr':k ∈ Region.ready md ops listed:=by simpa using hr
  obtain ⟨_,o,ho,_⟩:=mem_ready.1 hr'
  simp only [wpHyb,ho] at h
  by_cases hw:Region.wanted o (yielded ops a.tmps)=true
  ·simp only [hw,if_true] at h
   obtain ⟨v,h1,h2⟩:=h
   exact GA_first ho (Region.noSelect_spec hs) rest.length listed a w (Region.free_spec ho hf) hr' (.inl ⟨hw,h1⟩) (GA_hyb hs rest _ _ _ hB' h2)
  ·simp only [hw] at h
   exact GA_first ho (Region.noSelect_spec hs) rest.length listed a w (Region.free_spec ho hf) hr' (.inr ⟨by simpa using hw,rfl⟩) (GA_hyb hs rest _ _ _ hB' h)
 | (k,false) :: rest,listed,a,w,hB,h=>by
  simp only [hybFrom,Bool.and_eq_true,beq_iff_eq] at hB
  obtain ⟨hr,hB'⟩:=hB
  intro w1 hn
  refine ⟨fun h0=>(by rw [hr] at h0;cases h0),fun i hi=>?_⟩
  rw [hr] at hi
  obtain rfl:i=k:=by simpa using hi
  have h:=h w1 hn
  unfold gOp
  cases ho:ops[i]? with
  | none=>rw [ho] at h;exact h.elim
  | some o =>
   rw [ho] at h
   simp only at h ⊢
   by_cases hw:Region.wanted o (yielded ops a.tmps)=true
   ·simp only [hw,if_true] at h ⊢
    exact wp_mono_both (fun a' w' h'=>⟨h'.1,GA_hyb hs rest _ _ _ hB' h'.2⟩) h trivial
   ·simp only [hw] at h ⊢
    exact ⟨Nx.refl _,GA_hyb hs rest _ _ _ hB' h⟩
structure Hyb (P:Program) (ops:Array Oper) (Q:Act→World→Prop) (s:List (Nat×Bool)) (a:Act) (w:World):Prop where
 out:wpHyb P ops Q s a w
theorem wp_region_hyb {id:Nat} {Q:Exit→Act→World→Prop} {a:Act} {w:World} {l:List Oper} (s:List (Nat×Bool)) (hm:P.follows .mixedOrders=true) (hB:hybB .any l.toArray s=true)
  (h:Hyb P l.toArray (fun a w=>Q .normal a w) s a w):(Code.region id l.toArray true).wp P Q a w:=by
 simp only [hybB,Bool.and_eq_true,beq_iff_eq] at hB
 obtain ⟨⟨h1,h2⟩,h3⟩:=hB
 refine wp_region_any hm (wpAny_of_GA (Q:=fun a w=>Q .normal a w) (fun _ _ h=>h) _ _ _ _ ?_)
 have:=GA_hyb (md:=.any) h1 s _ _ _ h3 h.out
 rw [h2] at this
 exact this.grow (Nx.drawn w)
theorem hyb_calm {Q:Act→World→Prop} {k:Nat} {o:Oper} {rest:List (Nat×Bool)} {a:Act} {w:World} (ho:ops[k]? = some o)
  (h:∀ K:Act→Prop,(∀ a,Hyb P ops Q rest a w→K a)→if Region.wanted o (yielded ops a.tmps) then calm P o a w K else K (a.put o.dst undef)):Hyb P ops Q ((k,true) :: rest) a w:=by
 refine ⟨?_⟩
 simp only [wpHyb,ho]
 exact h _ (fun _ h=>h.out)
theorem hyb_alone {Q:Act→World→Prop} {k:Nat} {o:Oper} {rest:List (Nat×Bool)} {a:Act} {w:World} (ho:ops[k]? = some o)
  (h:∀ w1,Nx w w1→∀ K:Act→World→Prop,(∀ a' w',Nx w1 w'→Hyb P ops Q rest a' w'→K a' w')→if Region.wanted o (yielded ops a.tmps) then o.wp P a w1 K (fun _ _ _=>False) else K (a.put o.dst undef) w1):Hyb P ops Q ((k,false) :: rest) a w:=by
 refine ⟨?_⟩
 intro w1 hn
 simp only [ho]
 have:=h w1 hn (fun a' w'=>Nx w1 w'∧wpHyb P ops Q rest a' w') (fun a' w' h1 h2=>⟨h1,h2.out⟩)
 split
 ·rename_i hw;simpa [hw] using this
 ·rename_i hw;simp [hw] at this;exact this.2
theorem hyb_nil {Q:Act→World→Prop} {a:Act} {w:World} (h:∀ w1,Nx w w1→Q a w1):Hyb P ops Q [] a w:=⟨h⟩
end
attribute [go_sem] calm
end Go.Proofs.YtjggghfekakogaaGreatDoor
