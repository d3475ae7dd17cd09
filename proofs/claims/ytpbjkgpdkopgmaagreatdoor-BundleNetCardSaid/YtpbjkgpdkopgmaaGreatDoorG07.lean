/- The contracts of big: shifts. The contracts of big: shifts by either sign. The contracts of big: a multiple taken from a row, a number added to a row. -/
import Derived.Test.YtpbjkgpdkopgmaaGreatDoorG06
set_option linter.unusedVariables false
set_option linter.unusedSimpArgs false
set_option linter.unnecessarySimpa false
namespace Go.Proofs.YtpbjkgpdkopgmaaGreatDoor
open Go.RowKit
theorem shl_room (V e i X b:Nat) (h:V=4294967296 ^ e * (X * 2 ^ b)) (hX:X<4294967296 ^ i) (hb:b≤31) :
  V / 4294967296 ^ (e+i) % 4294967296<2 ^ b∧V / 4294967296 ^ (e+i+1) % 4294967296=0:=by
 have hp:2 ^ b≤2 ^ 31:=Nat.pow_le_pow_right (by decide) hb
 have hp0:0<2 ^ b:=Nat.pow_pos (by decide)
 have h1:V<4294967296 ^ (e+i) * 2 ^ b:=by
  rw [h,Nat.pow_add,Nat.mul_assoc]
  exact Nat.mul_lt_mul_of_pos_left (Nat.mul_lt_mul_of_pos_right hX hp0) (Nat.pow_pos (by decide))
 constructor
 ·exact Nat.lt_of_le_of_lt (Nat.mod_le _ _) (Nat.div_lt_of_lt_mul h1)
 ·rw [Nat.div_eq_of_lt]
  ·rw [Nat.pow_succ]
   exact Nat.lt_of_lt_of_le h1 (Nat.mul_le_mul_left _ (by omega))
theorem shl_word (a b h:Nat) (ha:(a:Int)≤4294967295) (hb:(b:Int)≤31) (hh:h<2 ^ b) :
  bits .or .u32 (h:Int) (IntKind.u64.wrap ((a:Int) * 2 ^ b) % 4294967296)=((h+a * 2 ^ b % 4294967296:Nat):Int)∧h+a * 2 ^ b % 4294967296<4294967296 ∧
  IntKind.u64.wrap ((a:Int) * 2 ^ b) / 4294967296 % 4294967296=((a * 2 ^ b / 4294967296 % 4294967296:Nat):Int):=by
 have e:∀ x:Int,IntKind.u64.wrap x=x % 18446744073709551616:=fun x=>by simp [IntKind.wrap,IntKind.bits,IntKind.signed]
 have hc:((a:Int) * 2 ^ b)=((a * 2 ^ b:Nat):Int):=by rw [Int.natCast_mul,Int.natCast_pow];rfl
 have hp:2 ^ b≤2 ^ 31:=Nat.pow_le_pow_right (by decide) (by omega)
 have hab:a * 2 ^ b≤4294967295 * 2147483648:=Nat.mul_le_mul (by omega) (by omega)
 have h32:(4294967296:Nat)=2 ^ (32 - b) * 2 ^ b:=by rw [← Nat.pow_add,show 32 - b+b=32 from by omega]
 have hm:a * 2 ^ b % 4294967296=2 ^ b * (a % 2 ^ (32 - b)):=by rw [h32,Nat.mul_mod_mul_right,Nat.mul_comm]
 have hor:=Nat.two_pow_add_eq_or_of_lt (i:=b) (b:=h) hh (a % 2 ^ (32 - b))
 rw [← hm] at hor
 have hlt:a * 2 ^ b % 4294967296<4294967296:=Nat.mod_lt _ (by decide)
 have hh32:h<4294967296:=by omega
 have hs:h+a * 2 ^ b % 4294967296<4294967296:=by
  rw [Nat.add_comm,hor];exact Nat.or_lt_two_pow (n:=32) hlt hh32
 rw [hc,e]
 refine ⟨?_,hs,by omega⟩
 have hc2:((a * 2 ^ b:Nat):Int) % 18446744073709551616 % 4294967296=((a * 2 ^ b % 4294967296:Nat):Int):=by omega
 rw [hc2,u32_or_nat h _ hh32 hlt,Nat.add_comm h,hor,Nat.or_comm]
theorem shl_step (e i X a b h V1:Nat) (ha:(a:Int)≤4294967295) (hb:(b:Int)≤31) (hset:V1+4294967296 ^ (e+i) * h=4294967296 ^ e * (X * 2 ^ b)+4294967296 ^ (e+i) * (h+a * 2 ^ b % 4294967296)) :
  V1+4294967296 ^ (e+i+1) * (a * 2 ^ b / 4294967296 % 4294967296)=4294967296 ^ e * ((X+4294967296 ^ i * a) * 2 ^ b):=by
 have hp:2 ^ b≤2 ^ 31:=Nat.pow_le_pow_right (by decide) (by omega)
 have hab:a * 2 ^ b≤4294967295 * 2147483648:=Nat.mul_le_mul (by omega) (by omega)
 have e1:4294967296 ^ e * ((X+4294967296 ^ i * a) * 2 ^ b)=4294967296 ^ e * (X * 2 ^ b)+4294967296 ^ (e+i) * (a * 2 ^ b):=by
  rw [Nat.add_mul,Nat.mul_add,Nat.pow_add,Nat.mul_assoc (4294967296 ^ i),Nat.mul_assoc (4294967296 ^ e)]
 rw [e1,Nat.pow_succ,Nat.mul_assoc]
 generalize a * 2 ^ b=T at *
 have e2:4294967296 ^ (e+i) * T=4294967296 ^ (e+i) * (4294967296 * (T / 4294967296 % 4294967296))+4294967296 ^ (e+i) * (T % 4294967296):=by
  rw [← Nat.mul_add];congr 1;omega
 rw [Nat.mul_add] at hset
 omega
set_option maxRecDepth 100000 in
set_option maxHeartbeats 1600000 in
theorem shiftUp_any (A:Option Addr) (xs:List UInt32) (c:Nat) (e b:Nat) (w:World) (hr:Rd uv w A xs) (hc:xs.length≤c) (hl:(xs.length:Int)≤100000) (he:(e:Int)≤100000) (hb:(b:Int)≤31) :
  Calls Tryz.prog 274 #[.slice A xs.length c,.int .i64 e,.int .i64 b] w fun e' w'=>∃ v',e' = .returned v'∧IsNum w' v' (4294967296 ^ e * (val xs * 2 ^ b))∧Below w.heap.size w w':=by
 go_enter Tryz.func274,Tryz.ntmps274
 go_wp2_with (at_make;go_must (refine wpList_mke _ uT uZ rfl _ _ rfl w.heap.size _ _ ((e:Int)+xs.length+1) rfl rfl (by omega) (by omega) (by omega) (Nat.le_refl _) ?_;intro g off cap w1 zs hrow1 HZ1 hz1 hz2 hb1 hg1))
 have HR:=Lib.hid hrow1
 clear hrow1 hg1
 go_loopw [19] (fun v wr=>∃ (i:Nat) (os:List UInt32),v = .int .i64 i∧i≤xs.length∧os.length≤zs.length∧zs.length≤os.length∧Hid (val os=4294967296 ^ e * (val (xs.take i) * 2 ^ b)) ∧
  Row wr w.heap.size g off cap os∧Below w.heap.size w wr) (fun v _=>xs.length - (intOf v).toNat)
 case atStart =>
  refine ⟨0,zs,rfl,Nat.zero_le _,Nat.le_refl _,Nat.le_refl _,?_,HR.out,hb1⟩
  unfold Hid;rw [HZ1.out,val_zeros];simp [val]
 case round =>
  obtain ⟨i,os,rfl,hi,ho1,ho2,HV,hrow,hbel⟩:=hrel
  by_cases hlt:i<xs.length
  ·obtain ⟨a,HX⟩:∃ a,Hid (ent xs i=a):=⟨_,rfl⟩
   obtain ⟨h,HH⟩:∃ h,Hid (ent os (e+i)=h):=⟨_,rfl⟩
   have la:(a:Int)≤4294967295:=by rw [← HX.out];exact ent_le xs i
   have lh:(h:Int)≤4294967295:=by rw [← HH.out];exact ent_le os _
   have b0:decide (i<xs.length)=true:=decide_eq_true hlt
   obtain ⟨bx,offx,rfl,hbx,hcx⟩:=rd_cell (hr.below hbel) hlt HX
   have hco:=hrow.cell (i:=e+i) (by omega) HH
   have hf1:=hrow.free (i:=e+i) (by omega)
   have hik:e+i<zs.length:=by omega
   have hik2:e+i+1<zs.length:=by omega
   have hvo:=shl_room (val os) e i (val (xs.take i)) b HV.out (by have:=val_lt (xs.take i);rw [List.length_take,Nat.min_eq_left hi] at this;exact this) (by omega)
   have h0:Hid (ent os (e+i+1)=0):=by
    unfold Hid
    rw [ent_val,hvo.2]
   have hh:h<2 ^ b:=by rw [← HH.out,ent_val];exact hvo.1
   have hw:=shl_word a b h la hb hh
   have HW:=Lib.hid hw
   have hco2:=hrow.cell (i:=e+i+1) (by omega) h0
   have hf2:=hrow.free (i:=e+i+1) (by omega)
   have hne:∀ V:Value,(wr.setCell ⟨g,off+(e+i),none⟩ V).cell? ⟨g,off+(e+i+1),none⟩=some (.int .u32 ((0:Nat):Int)):=fun V=>by
    rw [World.cell?_setCell_other _ _ _ _ (by simp only [ne_eq,Addr.mk.injEq];omega)]
    exact hco2
   have hrow1:=hrow.put (i:=e+i) (by omega) (h+a * 2 ^ b % 4294967296)
   have HST:=Lib.hid (hrow1.put (i:=e+i+1) (by simp;omega) (a * 2 ^ b / 4294967296))
   have HBS:=Lib.hid ((hbel.setCell (p:=⟨g,off+(e+i),none⟩) hrow.hB (uv (UInt32.ofNat (h+a * 2 ^ b % 4294967296)))).setCell (p:=⟨g,off+(e+i+1),none⟩) hrow.hB (uv (UInt32.ofNat (a * 2 ^ b / 4294967296))))
   clear hrow hrow1 hvo hh hw hco2
   go_wp2_with fail
   obtain ⟨hw1,hw2,hw3⟩:=HW.out
   rw [hw1,hw3]
   go_roundw
   case rel =>
    rw [uv_ofNat (h+a * 2 ^ b % 4294967296) _ (by rw [Nat.mod_eq_of_lt hw2]),uv_ofNat (a * 2 ^ b / 4294967296) _ rfl]
    refine ⟨i+1,(os.set (e+i) (UInt32.ofNat (h+a * 2 ^ b % 4294967296))).set (e+i+1) (UInt32.ofNat (a * 2 ^ b / 4294967296)),by go_num,by omega,by simpa using ho1,by simpa using ho2,?_,HST.out,HBS.out⟩
    unfold Hid
    rw [set_zero _ _ _ (by simp;omega) (by rw [ent_set_ne _ _ _ _ (by omega)];exact h0.out)]
    have hset:=val_set os (e+i) (by omega) (UInt32.ofNat (h+a * 2 ^ b % 4294967296))
    have ho:(os.getD (e+i) 0).toNat=h:=HH.out
    rw [ho,UInt32.toNat_ofNat',Nat.mod_eq_of_lt hw2,HV.out] at hset
    have hx:xs[i].toNat=a:=by rw [← HX.out,ent,List.getD,List.getElem?_eq_getElem hlt];rfl
    rw [List.take_succ_eq_append_getElem hlt,val_snoc,List.length_take,Nat.min_eq_left (by omega),hx]
    exact shl_step _ _ _ _ _ _ _ la hb hset
   case measure=>simp [intOf];omega
  ·obtain rfl:i=xs.length:=by omega
   have b0:decide (xs.length<xs.length)=false:=decide_eq_false (by omega)
   have hfin:Hid (val os=4294967296 ^ e * (val xs * 2 ^ b)):=by unfold Hid;rw [HV.out,List.take_length]
   have HLL:Hid (os.length=zs.length):=by unfold Hid;omega
   go_wp2_with fail
   refine (trim_n _ os _ cap _ HLL hrow.rd hrow.hn hrow.hm (by omega)).mono ?_;rintro e w2 ⟨v2,rfl,hn2,rfl⟩
   rw [hfin.out] at hn2
   go_wp2_with fail
   go_ret
   exact ⟨_,rfl,hn2,hbel⟩
theorem or_word (a b:Nat) (ha:(a:Int)≤4294967295) (hb:(b:Int)≤4294967295) (s:Nat) (hs:(s:Int)≤31) :
  bits .or .u64 ((b:Int) * 4294967296) (a:Int) / 2 ^ s % 4294967296=(((a+b * 4294967296) / 2 ^ s % 4294967296:Nat):Int):=by
 rw [or_lo a b ha hb]
 have:((2:Int) ^ s)=((2 ^ s:Nat):Int):=by rw [Int.natCast_pow];rfl
 rw [this,← Int.natCast_ediv]
 rfl
theorem down_word (V s k:Nat) (hs:s≤31):(V / 4294967296 ^ k % 4294967296+V / 4294967296 ^ (k+1) % 4294967296 * 4294967296) / 2 ^ s % 4294967296=V / 2 ^ s / 4294967296 ^ k % 4294967296:=by
 have e1:V / 2 ^ s / 4294967296 ^ k=V / 4294967296 ^ k / 2 ^ s:=by rw [Nat.div_div_eq_div_mul,Nat.div_div_eq_div_mul,Nat.mul_comm]
 rw [e1,Nat.pow_succ,← Nat.div_div_eq_div_mul]
 generalize V / 4294967296 ^ k=W
 have e2:W % 4294967296+W / 4294967296 % 4294967296 * 4294967296=W % (4294967296 * 4294967296):=by rw [Nat.mod_mul,Nat.mul_comm 4294967296 (W / 4294967296 % 4294967296)]
 rw [e2]
 have h32:(4294967296 * 4294967296:Nat)=2 ^ s * (4294967296 * 2 ^ (32 - s)):=by
  have:(4294967296:Nat)=2 ^ s * 2 ^ (32 - s):=by rw [← Nat.pow_add,show s+(32 - s)=32 from by omega]
  calc (4294967296 * 4294967296:Nat)=4294967296 * (2 ^ s * 2 ^ (32 - s)):=by rw [← this]
   _=2 ^ s * (4294967296 * 2 ^ (32 - s)):=by rw [Nat.mul_left_comm]
 rw [h32,Nat.mod_mul_right_div_self]
 exact Nat.mod_mod_of_dvd _ ⟨_,rfl⟩
set_option maxRecDepth 100000 in
set_option maxHeartbeats 1600000 in
theorem shiftDown_any (A:Option Addr) (xs:List UInt32) (c:Nat) (e s:Nat) (w:World) (hr:Rd uv w A xs) (hc:xs.length≤c) (hl:(xs.length:Int)≤100000) (he:(e:Int)≤100000) (hs:(s:Int)≤31) :
  Calls Tryz.prog 273 #[.slice A xs.length c,.int .i64 e,.int .i64 s] w fun e' w'=>∃ v',e' = .returned v'∧IsNum w' v' (val xs / 4294967296 ^ e / 2 ^ s)∧Below w.heap.size w w':=by
 by_cases hge:xs.length≤e
 ·have hz:Hid (val xs / 4294967296 ^ e / 2 ^ s=0):=by
   unfold Hid
   rw [Nat.div_eq_of_lt (Nat.lt_of_lt_of_le (val_lt xs) (Nat.pow_le_pow_right (by decide) hge)),Nat.zero_div]
  have hd:decide (xs.length≤e)=true:=decide_eq_true hge
  go_enter Tryz.func273,Tryz.ntmps273
  go_wp2_with fail
  go_ret
  exact ⟨_,rfl,(IsNum.zero _).cast hz.out.symm,Below.refl _ _⟩
 ·have hd:decide (xs.length≤e)=false:=decide_eq_false hge
  go_enter Tryz.func273,Tryz.ntmps273
  go_wp2_with (first
   | (refine wpList_sl (f:=uv) _ uT rfl _ _ _ rfl _ xs c rfl hr hc (e:Int) (xs.length:Int) (.inr ⟨_,_,rfl,rfl⟩) (.inl ⟨rfl,rfl⟩) (by omega) (by omega) (by omega) ?_;intro A2 us c2 hcut hc1 hc2;obtain ⟨hr2,HY,hlo,hhi⟩:=hcut)
   | (at_make;go_must (refine wpList_mke _ uT uZ rfl _ _ rfl w.heap.size _ _ (us.length:Int) rfl rfl (by omega) (by omega) (by omega) (Nat.le_refl _) ?_;intro g off cap w1 zs hrow1 HZ1 hz1 hz2 hb1 hg1)))
  have HV:Hid (val us=val xs / 4294967296 ^ e):=by
   have h1:xs=xs.take e++us:=by rw [HY.out];simp
   have h2:=congrArg val h1
   rw [val_append,List.length_take,Nat.min_eq_left (by omega)] at h2
   have h3:=val_lt (xs.take e)
   rw [List.length_take,Nat.min_eq_left (by omega)] at h3
   unfold Hid
   rw [h2,Nat.add_mul_div_left _ _ (Nat.pow_pos (by decide)),Nat.div_eq_of_lt h3,Nat.zero_add]
  clear HY
  have HR:=Lib.hid hrow1
  clear hrow1 hg1
  go_loopw [22] (fun v wr=>∃ (i:Nat) (os:List UInt32),v = .int .i64 i∧i≤zs.length∧os.length≤zs.length∧zs.length≤os.length∧Hid (∀ j,j<i→ent os j=val us / 2 ^ s / 4294967296 ^ j % 4294967296) ∧
   Row wr w.heap.size g off cap os∧Below w.heap.size w wr) (fun v _=>zs.length - (intOf v).toNat)
  case atStart =>
   refine ⟨0,zs,rfl,Nat.zero_le _,Nat.le_refl _,Nat.le_refl _,fun j hj=>absurd hj (Nat.not_lt_zero _),HR.out,hb1⟩
  case round =>
   obtain ⟨i,os,rfl,hi,ho1,ho2,HE,hrow,hbel⟩:=hrel
   have hru:=hr2.below hbel
   by_cases hlt:i<zs.length
   ·obtain ⟨a,HX⟩:∃ a,Hid (ent us i=a):=⟨_,rfl⟩
    obtain ⟨b,HX1⟩:∃ b,Hid (ent us (i+1)=b):=⟨_,rfl⟩
    obtain ⟨h,HH⟩:∃ h,Hid (ent os i=h):=⟨_,rfl⟩
    have la:(a:Int)≤4294967295:=by rw [← HX.out];exact ent_le us i
    have lb:(b:Int)≤4294967295:=by rw [← HX1.out];exact ent_le us _
    have b0:decide (i<zs.length)=true:=decide_eq_true hlt
    have hco:=hrow.cell (i:=i) (by omega) HH
    have hf1:=hrow.free (i:=i) (by omega)
    have HW:=Lib.hid (or_word a b la lb s hs)
    have HST:=Lib.hid (hrow.put (i:=i) (by omega) ((a+b * 4294967296) / 2 ^ s))
    have HBS:=Lib.hid (hbel.setCell (p:=⟨g,off+i,none⟩) hrow.hB (uv (UInt32.ofNat ((a+b * 4294967296) / 2 ^ s))))
    clear hrow
    go_wp2_with fail
    refine (elem_any A2 us c2 (i+1) _ hru hc1 (by omega) (by omega)).mono ?_;rintro e w' ⟨rfl,rfl⟩
    rw [HX1.out]
    go_wp2_with fail
    refine (elem_any A2 us c2 i _ hru hc1 (by omega) (by omega)).mono ?_;rintro e w' ⟨rfl,rfl⟩
    rw [HX.out]
    go_wp2_with fail
    rw [HW.out]
    go_roundw
    case rel =>
     rw [uv_ofNat ((a+b * 4294967296) / 2 ^ s) _ rfl]
     refine ⟨i+1,os.set i (UInt32.ofNat ((a+b * 4294967296) / 2 ^ s)),by go_num,by omega,by simpa using ho1,by simpa using ho2,fun j hj=>?_,HST.out,HBS.out⟩
     by_cases hji:j=i
     ·subst hji
      have:ent (os.set j (UInt32.ofNat ((a+b * 4294967296) / 2 ^ s))) j=(a+b * 4294967296) / 2 ^ s % 4294967296:=by
       unfold ent;rw [List.getD,List.getElem?_set_self (by omega)];exact UInt32.toNat_ofNat'
      rw [this,← HX.out,← HX1.out,ent_val,ent_val]
      exact down_word _ _ _ (by omega)
     ·rw [ent_set_ne _ _ _ _ (by omega)]
      exact HE.out j (by omega)
    case measure=>simp [intOf];omega
   ·obtain rfl:i=zs.length:=by omega
    have b0:decide (zs.length<zs.length)=false:=decide_eq_false (by omega)
    have hfin:Hid (val os=val xs / 4294967296 ^ e / 2 ^ s):=by
     unfold Hid
     rw [← HV.out]
     have h1:=val_lt os
     have h2:=val_lt us
     refine digits_ext zs.length _ _ (by rw [show zs.length=os.length from by omega];exact h1) ?_ fun j=>?_
     ·rw [show zs.length=us.length from by omega]
      exact Nat.lt_of_le_of_lt (Nat.div_le_self _ _) h2
     ·rw [← ent_val]
      by_cases hj:j<zs.length
      ·exact HE.out j hj
      ·have e1:ent os j=0:=by unfold ent;rw [List.getD,List.getElem?_eq_none (by omega)];rfl
       rw [e1,Nat.div_eq_of_lt,Nat.zero_mod]
       exact Nat.lt_of_le_of_lt (Nat.div_le_self _ _) (Nat.lt_of_lt_of_le h2 (Nat.pow_le_pow_right (by decide) (by omega)))
    have HLL:Hid (os.length=zs.length):=by unfold Hid;omega
    go_wp2_with fail
    refine (trim_n _ os _ cap _ HLL hrow.rd hrow.hn hrow.hm (by omega)).mono ?_;rintro e w2 ⟨v2,rfl,hn2,rfl⟩
    rw [hfin.out] at hn2
    go_wp2_with fail
    go_ret
    exact ⟨_,rfl,hn2,hbel⟩
end Go.Proofs.YtpbjkgpdkopgmaaGreatDoor
namespace Go.Proofs.YtpbjkgpdkopgmaaGreatDoor
open Go.RowKit
set_option maxRecDepth 100000 in
set_option maxHeartbeats 1600000 in
theorem shl_any (A:Option Addr) (xs:List UInt32) (c:Nat) (n:Int) (w:World) (hr:Rd uv w A xs) (hc:xs.length≤c) (hm:c≤maxLen) (hl:(xs.length:Int)≤100000) (hn1 : -100000≤n) (hn2:n≤100000) :
  Calls Tryz.prog 265 #[.slice A xs.length c,.int .i64 n] w fun e w'=>∃ v',e = .returned v'∧IsNum w' v' (shV (val xs) n)∧Below w.heap.size w w':=by
 by_cases hneg:n<0
 ·obtain ⟨m,rfl⟩:∃ m:Nat,n = -(m:Int):=⟨n.natAbs,by omega⟩
  have hq:(-(m:Int)).tdiv 32 = -((m / 32:Nat):Int):=by
   rw [Int.neg_tdiv];rfl
  have hrm:(-(m:Int)).tmod 32 = -((m % 32:Nat):Int):=by
   rw [Int.neg_tmod];rfl
  have hsh:Hid (val xs / 4294967296 ^ (m / 32) / 2 ^ (m % 32)=shV (val xs) (-(m:Int))):=by
   unfold Hid shV
   rw [if_neg (by omega),Nat.div_div_eq_div_mul,pow_split]
   congr 2;omega
  go_enter Tryz.func265,Tryz.ntmps265
  go_wp2_with fail
  refine (trim_any A xs c _ hr hc hm (by omega)).mono ?_;rintro e w1 ⟨v1,rfl,hk1,rfl⟩
  obtain ⟨A1,c1,us,rfl,hr1,hc1,hm1,hl1,-,HV⟩:=hk1.open_ xs.length (val_lt xs)
  go_wp2_with fail
  refine (shiftDown_any A1 us c1 (m / 32) (m % 32) _ hr1 hc1 (by omega) (by omega) (by omega)).mono ?_;rintro e w2 ⟨v2,rfl,hk2,hb2⟩
  rw [HV.out,hsh.out] at hk2
  go_wp2_with fail
  go_ret
  exact ⟨_,rfl,hk2,hb2⟩
 ·obtain ⟨m,rfl⟩:=Int.eq_ofNat_of_zero_le (a:=n) (by omega)
  have hsh:Hid (4294967296 ^ (m / 32) * (val xs * 2 ^ (m % 32))=shV (val xs) (m:Int)):=by
   unfold Hid shV
   rw [if_pos (by omega),Nat.mul_left_comm,pow_split];rfl
  clear hneg
  go_enter Tryz.func265,Tryz.ntmps265
  go_wp2_with fail
  refine (trim_any A xs c _ hr hc hm (by omega)).mono ?_;rintro e w1 ⟨v1,rfl,hk1,rfl⟩
  obtain ⟨A1,c1,us,rfl,hr1,hc1,hm1,hl1,-,HV⟩:=hk1.open_ xs.length (val_lt xs)
  have hul:(us.length:Int)≤100000:=by omega
  clear hl1
  by_cases h0:us.length=0
  ·have hz:Hid (shV (val xs) (m:Int)=0):=by
    unfold Hid
    rw [← hsh.out,← HV.out,List.eq_nil_of_length_eq_zero h0]
    simp [val]
   have hd:((us.length:Int) == 0)=true:=by rw [h0];rfl
   clear h0
   go_wp2_with fail
   go_ret
   exact ⟨_,rfl,(IsNum.zero _).cast hz.out.symm,Below.refl _ _⟩
  ·have hd:((us.length:Int) == 0)=false:=by rw [beq_eq_false_iff_ne];omega
   have hd2:decide (536870911 - (us.length:Int)≤(m:Int) / 32)=false:=decide_eq_false (by omega)
   clear h0
   go_wp2_with fail
   refine (shiftUp_any A1 us c1 (m / 32) (m % 32) _ hr1 hc1 (by omega) (by omega) (by omega)).mono ?_;rintro e w2 ⟨v2,rfl,hk2,hb2⟩
   rw [HV.out,hsh.out] at hk2
   go_wp2_with fail
   go_ret
   exact ⟨_,rfl,hk2,hb2⟩
end Go.Proofs.YtpbjkgpdkopgmaaGreatDoor
namespace Go.Proofs.YtpbjkgpdkopgmaaGreatDoor
open Go.RowKit
structure Only (g lo hi:Nat) (w w':World):Prop where
 os:w'.os=w.os
 tape:w'.tape=w.tape
 output:w'.output=w.output
 size:w.heap.size≤w'.heap.size
 block:∀ k,k≠g→k<w.heap.size→w'.heap[k]? = w.heap[k]?
 cell:∀ j,j<lo∨hi≤j→w'.cell? ⟨g,j,none⟩=w.cell? ⟨g,j,none⟩
 isSome:∀ j,(w.cell? ⟨g,j,none⟩).isSome=true→(w'.cell? ⟨g,j,none⟩).isSome=true
 frozen:∀ j,w'.frozen? ⟨g,j,none⟩=w.frozen? ⟨g,j,none⟩
theorem Only.refl (g lo hi:Nat) (w:World):Only g lo hi w w:=⟨rfl,rfl,rfl,Nat.le_refl _,fun _ _ _=>rfl,fun _ _=>rfl,fun _ h=>h,fun _=>rfl⟩
theorem Only.trans {g lo hi:Nat} {a b c:World} (h:Only g lo hi a b) (k:Only g lo hi b c):Only g lo hi a c :=
 ⟨k.os.trans h.os,k.tape.trans h.tape,k.output.trans h.output,Nat.le_trans h.size k.size,fun i h1 h2=>(k.block i h1 (Nat.lt_of_lt_of_le h2 h.size)).trans (h.block i h1 h2),fun j hj=>(k.cell j hj).trans (h.cell j hj),fun j hj=>k.isSome j (h.isSome j hj),fun j=>(k.frozen j).trans (h.frozen j)⟩
theorem Only.nx {g lo hi:Nat} {a b c:World} (h:Only g lo hi a b) (hg:g<b.heap.size) (k:Below b.heap.size b c):Only g lo hi a c :=
 h.trans ⟨k.os,k.tape,k.output,k.size,fun i _ h2=>k.block i h2,fun j _=>k.cell (p:=⟨g,j,none⟩) hg,fun j hj=>by rw [k.cell (p:=⟨g,j,none⟩) hg];exact hj,fun j=>k.frozen (p:=⟨g,j,none⟩) hg⟩
theorem Only.setCell {g lo hi i:Nat} {a b:World} (h:Only g lo hi a b) (h1:lo≤i) (h2:i<hi) (v:Value):Only g lo hi a (b.setCell ⟨g,i,none⟩ v):=by
 refine h.trans ⟨rfl,rfl,rfl,by simp [World.setCell],fun k hk _=>Below.heap_setCell _ _ _ _ hk,fun j hj=>?_,fun j hj=>?_,fun j=>World.frozen?_setCell ..⟩
 ·exact World.cell?_setCell_other _ _ _ _ (by simp only [ne_eq,Addr.mk.injEq];omega)
 ·by_cases hji:j=i
  ·subst hji
   obtain ⟨u,hu⟩:=Option.isSome_iff_exists.1 hj
   rw [World.cell?_setCell_same _ _ _ hu];rfl
  ·rw [World.cell?_setCell_other _ _ _ _ (by simp only [ne_eq,Addr.mk.injEq];omega)];exact hj
theorem Only.below {g lo hi B:Nat} {w w':World} (h:Only g lo hi w w') (hB:B≤g) (hs:B≤w.heap.size):Below B w w' :=
 ⟨h.os,h.tape,h.output,h.size,fun k hk=>h.block k (by omega) (by omega)⟩
theorem Only.other {g lo hi:Nat} {w w':World} (h:Only g lo hi w w') {p:Addr} (hp:p.block≠g) (hs:p.block<w.heap.size):w'.cell? p=w.cell? p :=
 World.cell?_of_block (w:=w) (h.block p.block hp hs)
theorem Only.otherF {g lo hi:Nat} {w w':World} (h:Only g lo hi w w') {p:Addr} (hp:p.block≠g) (hs:p.block<w.heap.size):w'.frozen? p=w.frozen? p :=
 World.frozen?_of_block (w:=w) (h.block p.block hp hs)
theorem Row.only {w w':World} {B g off cap g' lo hi:Nat} {xs:List UInt32} (h:Row w B g off cap xs) (ho:Only g' lo hi w w') (hne:g≠g'):Row w' B g off cap xs :=
 ⟨h.hB,Nat.lt_of_lt_of_le h.hg ho.size,h.hn,h.hm,fun j hj=>by rw [ho.other (p:=⟨g,off+j,none⟩) hne h.hg,ho.otherF (p:=⟨g,off+j,none⟩) hne h.hg];exact h.hs j hj,fun j hj=>by rw [ho.other (p:=⟨g,off+j,none⟩) hne h.hg];exact h.hc j hj⟩
def Rdx (g:Nat) (w:World) (A:Option Addr) (xs:List UInt32):Prop :=
 0<xs.length→∃ b off,A=some ⟨b,off,none⟩∧b≠g∧b<w.heap.size∧∀ j (h:j<xs.length),w.cell? ⟨b,off+j,none⟩=some (uv xs[j])
theorem Rdx.rd {g:Nat} {w:World} {A:Option Addr} {xs:List UInt32} (h:Rdx g w A xs):Rd uv w A xs:=fun hn=>by
 obtain ⟨b,off,h1,_,h2,h3⟩:=h hn
 exact ⟨b,off,h1,h2,h3⟩
theorem Rdx.only {g lo hi:Nat} {w w':World} {A:Option Addr} {xs:List UInt32} (h:Rdx g w A xs) (ho:Only g lo hi w w'):Rdx g w' A xs:=fun hn=>by
 obtain ⟨b,off,h1,h0,h2,h3⟩:=h hn
 exact ⟨b,off,h1,h0,Nat.lt_of_lt_of_le h2 ho.size,fun j hj=>by rw [ho.other (p:=⟨b,off+j,none⟩) h0 h2];exact h3 j hj⟩
theorem Rd.rdx {g:Nat} {w w':World} {A:Option Addr} {xs:List UInt32} (h:Rd uv w A xs) (hb:Below w.heap.size w w') (hg:w.heap.size≤g):Rdx g w' A xs:=fun hn=>by
 obtain ⟨b,off,h1,h2,h3⟩:=h hn
 exact ⟨b,off,h1,by omega,Nat.lt_of_lt_of_le h2 hb.size,fun j hj=>by rw [hb.cell (p:=⟨b,off+j,none⟩) h2];exact h3 j hj⟩
theorem take_word (r p:Nat) (hr:(r:Int)≤4294967295) (hp:(p:Int)≤18446744069414584321) :
  IntKind.u64.wrap ((r:Int) - (p:Int) % 4294967296) % 4294967296=(((r+4294967296 - p % 4294967296) % 4294967296:Nat):Int) ∧
  IntKind.u64.wrap ((p:Int) / 4294967296+IntKind.u64.wrap ((r:Int) - (p:Int) % 4294967296) / 9223372036854775808)=((p / 4294967296+(1 - (r+4294967296 - p % 4294967296) / 4294967296):Nat):Int):=by
 have e:∀ x:Int,IntKind.u64.wrap x=x % 18446744073709551616:=fun x=>by simp [IntKind.wrap,IntKind.bits,IntKind.signed]
 obtain ⟨m,hm⟩:∃ m,p % 4294967296=m:=⟨_,rfl⟩
 obtain ⟨q,hq⟩:∃ q,p / 4294967296=q:=⟨_,rfl⟩
 have hmI:(p:Int) % 4294967296=(m:Int):=by omega
 have hqI:(p:Int) / 4294967296=(q:Int):=by omega
 have hm':m<4294967296:=by omega
 have hq':q≤4294967295:=by omega
 rw [e,e,hm,hq,hmI,hqI]
 clear hm hq hmI hqI hp
 refine ⟨by omega,?_⟩
 by_cases h:r<m
 ·have h1:((r:Int) - m) % 18446744073709551616 / 9223372036854775808=1:=by omega
  have h2:(r+4294967296 - m) / 4294967296=0:=by omega
  rw [h1,h2];omega
 ·have h1:((r:Int) - m) % 18446744073709551616 / 9223372036854775808=0:=by omega
  have h2:(r+4294967296 - m) / 4294967296=1:=by omega
  rw [h1,h2];omega
theorem take_last (r bo:Nat) (hr:(r:Int)≤4294967295) (hb:(bo:Int)≤4294967296) :
  IntKind.u64.wrap ((r:Int) - (bo:Int)) % 4294967296=(((r+4294967296 - bo) % 4294967296:Nat):Int) ∧
  ((IntKind.u64.wrap ((r:Int) - (bo:Int)) / 9223372036854775808) == (1:Int))=decide (r<bo):=by
 have e:∀ x:Int,IntKind.u64.wrap x=x % 18446744073709551616:=fun x=>by simp [IntKind.wrap,IntKind.bits,IntKind.signed]
 rw [e]
 refine ⟨by omega,?_⟩
 by_cases h:r<bo
 ·rw [decide_eq_true h]
  have:((r:Int) - bo) % 18446744073709551616 / 9223372036854775808=1:=by omega
  rw [this];rfl
 ·rw [decide_eq_false h]
  have:((r:Int) - bo) % 18446744073709551616 / 9223372036854775808=0:=by omega
  rw [this];rfl
theorem take_end (V V' P U T bo r:Nat) (hr:r≤4294967295) (hb:bo≤4294967296) (hV:V'+P * r=V+P * ((r+4294967296 - bo) % 4294967296)) (h:V+T=U+bo * P) :
  V'+T=U+(if r<bo then P * 4294967296 else 0):=by
 have e6:bo * P=P * bo:=Nat.mul_comm _ _
 by_cases hlt:r<bo
 ·rw [if_pos hlt]
  have e1:P * bo+P * ((r+4294967296 - bo) % 4294967296)=P * r+P * 4294967296:=by rw [← Nat.mul_add,← Nat.mul_add];congr 1;omega
  generalize P * ((r+4294967296 - bo) % 4294967296)=x3 at *
  omega
 ·rw [if_neg hlt]
  have e1:P * bo+P * ((r+4294967296 - bo) % 4294967296)=P * r:=by rw [← Nat.mul_add];congr 1;omega
  generalize P * ((r+4294967296 - bo) % 4294967296)=x3 at *
  omega
theorem take_step (V V' P U D t d bo r p:Nat) (hp:p=t * d+bo) (hd:d=D / P % 4294967296) (hr:r≤4294967295) (hV:V'+P * r=V+P * ((r+4294967296 - p % 4294967296) % 4294967296)) (h:V+t * (D % P)=U+bo * P) :
  V'+t * (D % (P * 4294967296))=U+(p / 4294967296+(1 - (r+4294967296 - p % 4294967296) / 4294967296)) * (P * 4294967296):=by
 rw [Nat.mod_mul,← hd]
 obtain ⟨L,hL⟩:∃ L,r+4294967296 - p % 4294967296=L:=⟨_,rfl⟩
 rw [hL] at hV ⊢
 have e1:p % 4294967296+L % 4294967296=r+4294967296 * (1 - L / 4294967296):=by omega
 have e2:P * (p % 4294967296)+P * (L % 4294967296)=P * r+P * (4294967296 * (1 - L / 4294967296)):=by rw [← Nat.mul_add,e1,Nat.mul_add]
 have e3:t * (D % P+P * d)=t * (D % P)+P * (t * d):=by rw [Nat.mul_add,Nat.mul_left_comm]
 have e4:P * (t * d)+P * bo=P * (4294967296 * (p / 4294967296))+P * (p % 4294967296):=by
  rw [← Nat.mul_add,← Nat.mul_add,← hp];congr 1;omega
 have e5:(p / 4294967296+(1 - L / 4294967296)) * (P * 4294967296)=P * (4294967296 * (p / 4294967296))+P * (4294967296 * (1 - L / 4294967296)):=by
  rw [Nat.add_mul,← Nat.mul_assoc P,← Nat.mul_assoc P,Nat.mul_comm (p / 4294967296),Nat.mul_comm (1 - L / 4294967296)]
 have e6:bo * P=P * bo:=Nat.mul_comm _ _
 rw [e3,e5]
 generalize P * (4294967296 * (p / 4294967296))=x1 at *
 generalize P * (4294967296 * (1 - L / 4294967296))=x2 at *
 generalize P * (L % 4294967296)=x3 at *
 generalize P * (p % 4294967296)=x4 at *
 generalize P * (t * d)=x5 at *
 omega
def Taken (us us':List UInt32) (t D:Nat) (be:Bool):Prop:=val us'+t * D=val us+(if be then 4294967296 ^ us.length else 0)
set_option maxRecDepth 100000 in
set_option maxHeartbeats 1600000 in
theorem takeTimes_any (B g off L cap:Nat) (us:List UInt32) (D:Option Addr) (ds:List UInt32) (dc t:Nat) (w:World) (hrow:Row w B g off cap us) (hL:Hid (us.length=L)) (hL1:L≤ds.length+1) (hL2:ds.length+1≤L)
  (hr:Rdx g w D ds) (hd:ds.length≤dc) (hl:(ds.length:Int)≤100000) (ht:(t:Int)≤4294967295) :
  Calls Tryz.prog 279 #[.slice (some ⟨g,off,none⟩) L cap,.slice D ds.length dc,.int .u64 t] w fun e w'=>∃ us' be,e = .returned (.bool be)∧Hid (us'.length=L)∧Row w' B g off cap us'∧Only g off (off+L) w w'∧Hid (Taken us us' t (val ds) be):=by
 go_enter Tryz.func279,Tryz.ntmps279
 go_wp2_with fail
 have HR:=Lib.hid hrow
 clear hrow
 go_loopw [7,15] (fun v i wr=>∃ (k bo:Nat) (ts:List UInt32),i = .int .i64 k∧v = .int .u64 bo∧(bo:Int)≤4294967296∧k≤ds.length∧Hid (ts.length=L) ∧
  Hid (val ts+t * (val ds % 4294967296 ^ k)=val us+bo * 4294967296 ^ k)∧Row wr B g off cap ts∧Only g off (off+L) w wr) (fun _ i _=>ds.length - (intOf i).toNat)
 case atStart=>exact ⟨0,0,us,rfl,rfl,by omega,by omega,hL,by unfold Hid;simp [Nat.mod_one],HR.out,Only.refl _ _ _ _⟩
 case round =>
  obtain ⟨k,bo,ts,rfl,rfl,hbo,hk,HL,HV,hrow,honly⟩:=hrel
  have hTL:ts.length≤L:=by have:=HL.out;omega
  have hTL2:L≤ts.length:=by have:=HL.out;omega
  by_cases hlt:k<ds.length
  ·obtain ⟨d,HX⟩:∃ d,Hid (ent ds k=d):=⟨_,rfl⟩
   obtain ⟨r,HY⟩:∃ r,Hid (ent ts k=r):=⟨_,rfl⟩
   have ld:(d:Int)≤4294967295:=by rw [← HX.out];exact ent_le ds k
   have lr:(r:Int)≤4294967295:=by rw [← HY.out];exact ent_le ts k
   have b1:decide (k<ds.length)=true:=decide_eq_true hlt
   obtain ⟨bx,offx,rfl,hbx,hcx⟩:=rd_cell (hr.only honly).rd hlt HX
   have hco:=hrow.cell (i:=k) (by omega) HY
   have hf1:=hrow.free (i:=k) (by omega)
   have lab:(t:Int) * (d:Int)≤18446744065119617025:=by
    have:=Int.mul_le_mul ht ld (by omega) (by omega)
    omega
   have lab0:0≤(t:Int) * (d:Int):=Int.mul_nonneg (by omega) (by omega)
   have hkL:k<L:=by omega
   have hc:(t:Int) * d+bo=((t * d+bo:Nat):Int):=by rw [Int.natCast_add,Int.natCast_mul]
   obtain ⟨p,HP⟩:∃ p,Hid (t * d+bo=p):=⟨_,rfl⟩
   rw [HP.out] at hc
   have lp:(p:Int)≤18446744069414584321:=by omega
   have HC:=Lib.hid hc
   have HW:=Lib.hid (take_word r p lr lp)
   have HST:=Lib.hid (hrow.put (i:=k) (by omega) (r+4294967296 - p % 4294967296))
   have HBS:=Lib.hid (honly.setCell (i:=off+k) (by omega) (by omega) (uv (UInt32.ofNat (r+4294967296 - p % 4294967296))))
   clear hrow hc
   go_wp2_with fail
   rw [HC.out,HW.out.1,HW.out.2]
   go_roundw
   case rel =>
    rw [uv_ofNat (r+4294967296 - p % 4294967296) _ rfl]
    refine ⟨k+1,_,ts.set k (UInt32.ofNat (r+4294967296 - p % 4294967296)),by go_num,rfl,by omega,by omega,by unfold Hid;simpa using HL.out,?_,HST.out,HBS.out⟩
    unfold Hid
    have hset:=val_set ts k (by omega) (UInt32.ofNat (r+4294967296 - p % 4294967296))
    have ho:(ts.getD k 0).toNat=r:=HY.out
    rw [ho,UInt32.toNat_ofNat'] at hset
    rw [Nat.pow_succ]
    exact take_step _ _ _ _ _ _ _ _ _ _ HP.out.symm (by rw [← HX.out,ent_val]) (by omega) hset HV.out
   case measure=>simp [intOf];omega
  ·obtain rfl:k=ds.length:=by omega
   have b1:decide (ds.length<ds.length)=false:=decide_eq_false (by omega)
   obtain ⟨r,HY⟩:∃ r,Hid (ent ts ds.length=r):=⟨_,rfl⟩
   have lr:(r:Int)≤4294967295:=by rw [← HY.out];exact ent_le ts _
   have hco:=hrow.cell (i:=ds.length) (by omega) HY
   have hf1:=hrow.free (i:=ds.length) (by omega)
   have hkL:ds.length<L:=by omega
   have HW:=Lib.hid (take_last r bo lr hbo)
   have HST:=Lib.hid (hrow.put (i:=ds.length) (by omega) (r+4294967296 - bo))
   have HBS:=Lib.hid (honly.setCell (i:=off+ds.length) (by omega) (by omega) (uv (UInt32.ofNat (r+4294967296 - bo))))
   have HT:Hid (Taken us (ts.set ds.length (UInt32.ofNat (r+4294967296 - bo))) t (val ds) (decide (r<bo))):=by
    unfold Hid Taken
    have hset:=val_set ts ds.length (by omega) (UInt32.ofNat (r+4294967296 - bo))
    have ho:(ts.getD ds.length 0).toNat=r:=HY.out
    rw [ho,UInt32.toNat_ofNat'] at hset
    have hV:=HV.out
    rw [Nat.mod_eq_of_lt (val_lt ds)] at hV
    have:=take_end _ _ _ _ _ _ _ (by omega) (by omega) hset hV
    rw [this,hL.out,show L=ds.length+1 from by omega,Nat.pow_succ]
    by_cases h:r<bo
    ·rw [if_pos h,if_pos (decide_eq_true h)]
    ·rw [if_neg h,if_neg (by rw [decide_eq_false h];simp)]
   clear hrow
   go_wp2_with fail
   go_ret
   refine ⟨ts.set ds.length (UInt32.ofNat (r+4294967296 - bo)),decide (r<bo),?_,?_,?_,?_,HT⟩
   ·have:=HW.out.2
    rw [← this];rfl
   ·unfold Hid;simpa using HL.out
   ·rw [HW.out.1,uv_ofNat (r+4294967296 - bo) _ rfl];exact HST.out
   ·rw [HW.out.1,uv_ofNat (r+4294967296 - bo) _ rfl];exact HBS.out
def Added (us us':List UInt32) (D:Nat) (be:Bool):Prop:=val us'+(if be then 4294967296 ^ us.length else 0)=val us+D
theorem back_step (V V' P U D cc r d S:Nat) (hS:S=r+d+cc) (hd:d=D / P % 4294967296) (hV:V'+P * r=V+P * (S % 4294967296)) (h:V+cc * P=U+D % P) :
  V'+S / 4294967296 * (P * 4294967296)=U+D % (P * 4294967296):=by
 rw [Nat.mod_mul,← hd]
 have h1:P * S=P * (S % 4294967296)+S / 4294967296 * (P * 4294967296):=by
  have:=Nat.div_add_mod S 4294967296
  have h2:P * S=P * (4294967296 * (S / 4294967296)+S % 4294967296):=by rw [this]
  rw [h2,Nat.mul_add,Nat.add_comm,← Nat.mul_assoc,Nat.mul_comm (P * 4294967296)]
 have h3:P * S=P * r+P * d+P * cc:=by rw [hS,Nat.mul_add,Nat.mul_add]
 have h4:P * cc=cc * P:=Nat.mul_comm _ _
 omega
set_option maxRecDepth 100000 in
set_option maxHeartbeats 1600000 in
theorem addBack_any (B g off L cap:Nat) (us:List UInt32) (D:Option Addr) (ds:List UInt32) (dc:Nat) (w:World) (hrow:Row w B g off cap us) (hL:Hid (us.length=L)) (hL1:L≤ds.length+1) (hL2:ds.length+1≤L)
  (hr:Rdx g w D ds) (hd:ds.length≤dc) (hl:(ds.length:Int)≤100000) :
  Calls Tryz.prog 280 #[.slice (some ⟨g,off,none⟩) L cap,.slice D ds.length dc] w fun e w'=>∃ us' be,e = .returned (.bool be)∧Hid (us'.length=L)∧Row w' B g off cap us'∧Only g off (off+L) w w'∧Hid (Added us us' (val ds) be):=by
 go_enter Tryz.func280,Tryz.ntmps280
 go_wp2_with fail
 have HR:=Lib.hid hrow
 clear hrow
 go_loopw [5,10] (fun v i wr=>∃ (k cc:Nat) (ts:List UInt32),i = .int .i64 k∧v = .int .u64 cc∧cc≤1∧k≤L∧Hid (ts.length=L) ∧
  Hid (val ts+cc * 4294967296 ^ k=val us+val ds % 4294967296 ^ k)∧Row wr B g off cap ts∧Only g off (off+L) w wr) (fun _ i _=>L - (intOf i).toNat)
 case atStart=>exact ⟨0,0,us,rfl,rfl,by omega,by omega,hL,by unfold Hid;simp [Nat.mod_one],HR.out,Only.refl _ _ _ _⟩
 case round =>
  obtain ⟨k,cc,ts,rfl,rfl,hcc,hk,HL,HV,hrow,honly⟩:=hrel
  have hTL:ts.length≤L:=by have:=HL.out;omega
  have hTL2:L≤ts.length:=by have:=HL.out;omega
  by_cases hlt:k<L
  ·obtain ⟨d,HX⟩:∃ d,Hid (ent ds k=d):=⟨_,rfl⟩
   obtain ⟨r,HY⟩:∃ r,Hid (ent ts k=r):=⟨_,rfl⟩
   have ld:(d:Int)≤4294967295:=by rw [← HX.out];exact ent_le ds k
   have lr:(r:Int)≤4294967295:=by rw [← HY.out];exact ent_le ts k
   have b1:decide (k<L)=true:=decide_eq_true hlt
   have hrx:=hr.only honly
   have hco:=hrow.cell (i:=k) (by omega) HY
   have hf1:=hrow.free (i:=k) (by omega)
   have hgl:=hrow.hg
   have f1:∀ x:Gr wr,x.1.cell? ⟨g,off+k,none⟩=some (.int .u32 (r:Int)):=fun x=>(x.2.cell (by exact hgl)).trans hco
   go_upto_region 5 with (fail)
   refine wp_region_hyb [(0,true),(1,true),(2,true),(3,true),(4,true),(5,true),(6,true),(9,true),(7,false),(8,true),(10,true),(11,true)] (by kernel_rfl) (by kernel_rfl) ?_
   iterate 8 (refine hyb_calm rfl (fun K hK=>?_);go_simp;refine hK _ ?_;clear hK K)
   refine hyb_alone rfl (fun w3 hn3 K hK=>?_)
   go_simp
   refine (elem_any D ds dc k _ (hrx.rd.below hn3) hd (by omega) (by omega)).mono ?_;rintro e w' ⟨rfl,rfl⟩
   rw [HX.out]
   refine hK _ _ (Nx.refl _) ?_
   clear hK K
   iterate 3 (refine hyb_calm rfl (fun K hK=>?_);go_simp;refine hK _ ?_;clear hK K)
   refine hyb_nil (fun w4 hn4=>?_)
   have hrow4:=(hrow.below hn3).below hn4
   have honly4:=(honly.nx hgl hn3).nx (Nat.lt_of_lt_of_le hgl hn3.size) hn4
   clear f1 hco hf1 hrow honly hrx
   have hco:=hrow4.cell (i:=k) (by omega) HY
   have hf1:=hrow4.free (i:=k) (by omega)
   have HST:=Lib.hid (hrow4.put (i:=k) (by omega) (r+d+cc))
   have HBS:=Lib.hid (honly4.setCell (i:=off+k) (by omega) (by omega) (uv (UInt32.ofNat (r+d+cc))))
   clear hrow4 honly4
   go_wp2_with fail
   go_roundw
   case rel =>
    have hu:Value.int .u32 (((r:Int)+d+cc) % 4294967296)=uv (UInt32.ofNat (r+d+cc)):=uv_ofNat _ _ (by omega)
    rw [hu]
    refine ⟨k+1,(r+d+cc) / 4294967296,ts.set k (UInt32.ofNat (r+d+cc)),by go_num,by go_num,by omega,by omega,by unfold Hid;simpa using HL.out,?_,HST.out,HBS.out⟩
    unfold Hid
    have hset:=val_set ts k (by omega) (UInt32.ofNat (r+d+cc))
    have ho:(ts.getD k 0).toNat=r:=HY.out
    rw [ho,UInt32.toNat_ofNat'] at hset
    rw [Nat.pow_succ]
    exact back_step _ _ _ _ _ _ _ _ _ rfl (by rw [← HX.out,ent_val]) hset HV.out
   case measure=>simp [intOf];omega
  ·obtain rfl:k=L:=by omega
   have b1:decide (k<k)=false:=decide_eq_false (by omega)
   have hbe:((cc:Int) == (1:Int))=decide (cc=1):=by
    rcases (by omega:cc=0∨cc=1) with rfl | rfl <;> rfl
   have HT:Hid (Added us ts (val ds) (decide (cc=1))):=by
    unfold Hid Added
    have hV:=HV.out
    have h1:=val_lt ds
    rw [Nat.mod_eq_of_lt (Nat.lt_of_lt_of_le h1 (Nat.pow_le_pow_right (by decide) (by omega)))] at hV
    rw [hL.out,← hV]
    rcases (by omega:cc=0∨cc=1) with rfl | rfl <;> simp
   have HBE:=Lib.hid hbe
   clear hbe
   go_wp2_with fail
   go_ret
   refine ⟨ts,decide (cc=1),?_,HL,hrow,honly,HT⟩
   rw [← HBE.out];rfl
end Go.Proofs.YtpbjkgpdkopgmaaGreatDoor
