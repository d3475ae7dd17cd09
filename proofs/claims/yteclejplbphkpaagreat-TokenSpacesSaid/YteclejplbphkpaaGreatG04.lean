/- The contracts of big: products, powers of ten. The contracts of big: powers of ten, shifts. The contracts of big: shifts. The contracts of big: shifts by either sign. The contracts of big: a multiple taken from a row, a number added to a row. The contract of big: one digit of a quotient. -/
import Derived.Test.YteclejplbphkpaaGreatG03
import Derived.Test.YteclejplbphkpaaGreatG02
set_option linter.unusedVariables false
set_option linter.unusedSimpArgs false
set_option linter.unnecessarySimpa false
namespace Go.Proofs.YteclejplbphkpaaGreat
open Go.RowKit
set_option maxRecDepth 100000 in
set_option maxHeartbeats 1600000 in
theorem mul_any (A:Option Addr) (xs:List UInt32) (c:Nat) (B:Option Addr) (ys:List UInt32) (d:Nat) (w:World) (hr:Rd uv w A xs) (hc:xs.length≤c) (hl:(xs.length:Int)≤100000) (hs:Rd uv w B ys) (hd:ys.length≤d) (hl2:(ys.length:Int)≤100000) :
  Calls Tryz.prog 92 #[.slice A xs.length c,.slice B ys.length d] w fun e w'=>∃ v',e = .returned v'∧IsNum w' v' (val xs * val ys)∧Below w.heap.size w w':=by
 go_enter Tryz.func92,Tryz.ntmps92
 go_wp2_with (at_make;go_must (refine wpList_mke _ uT uZ rfl _ _ rfl w.heap.size _ _ ((xs.length:Int)+ys.length) rfl rfl (by omega) (by omega) (by omega) (Nat.le_refl _) ?_;intro g off cap w1 zs hrow1 HZ1 hz1 hz2 hb1 hg1))
 have HR:=Lib.hid hrow1
 clear hrow1 hg1
 go_loopw [20] (fun v wr=>∃ (i:Nat) (os:List UInt32),v = .int .i64 i∧i≤xs.length∧os.length≤zs.length∧zs.length≤os.length∧Hid (val os=val (xs.take i) * val ys)∧Hid (∀ j,i+ys.length≤j→ent os j=0) ∧
  Row wr w.heap.size g off cap os∧Below w.heap.size w wr) (fun v _=>xs.length - (intOf v).toNat)
 case atStart =>
  refine ⟨0,zs,rfl,Nat.zero_le _,Nat.le_refl _,Nat.le_refl _,?_,?_,HR.out,hb1⟩
  ·unfold Hid;rw [HZ1.out,val_zeros];simp [val]
  ·intro j _;rw [HZ1.out];exact ent_zeros _ _
 case round =>
  obtain ⟨i,os,rfl,hi,ho1,ho2,HV,HE,hrow,hbel⟩:=hrel
  by_cases hlt:i<xs.length
  ·obtain ⟨a,HX⟩:∃ a,Hid (ent xs i=a):=⟨_,rfl⟩
   have la:(a:Int)≤4294967295:=by rw [← HX.out];exact ent_le xs i
   have b0:decide (i<xs.length)=true:=decide_eq_true hlt
   obtain ⟨bx,offx,rfl,hbx,hcx⟩:=rd_cell (hr.below hbel) hlt HX
   have HO:=Lib.hid hrow
   clear hrow
   go_wp2_with fail
   obtain ⟨wo,rfl⟩:∃ wo:World,wo=wr:=⟨_,rfl⟩
   go_loopw [8,27] (fun v u wq=>∃ (k cc:Nat) (us:List UInt32),u = .int .i64 k∧v = .int .u64 cc∧(cc:Int)≤4294967295∧k≤ys.length∧us.length≤zs.length∧zs.length≤us.length ∧
    Hid (val us+cc * 4294967296 ^ (i+k)=val (xs.take i) * val ys+a * (val ys % 4294967296 ^ k) * 4294967296 ^ i)∧Hid (∀ j,i+ys.length≤j→ent us j=0) ∧
    Row wq w.heap.size g off cap us∧Below w.heap.size w wq) (fun _ u _=>ys.length - (intOf u).toNat)
   case atStart=>exact ⟨0,0,os,rfl,rfl,by omega,Nat.zero_le _,ho1,ho2,by unfold Hid;rw [HV.out];simp [Nat.mod_one],HE,HO.out,hbel⟩
   case round =>
    obtain ⟨k,cc,us,rfl,rfl,hcc,hk,hu1,hu2,HU,HF,hgw,hbw⟩:=hrel
    by_cases hlk:k<ys.length
    ·obtain ⟨b,HY⟩:∃ b,Hid (ent ys k=b):=⟨_,rfl⟩
     obtain ⟨o,HO2⟩:∃ o,Hid (ent us (i+k)=o):=⟨_,rfl⟩
     have lb:(b:Int)≤4294967295:=by rw [← HY.out];exact ent_le ys k
     have lo:(o:Int)≤4294967295:=by rw [← HO2.out];exact ent_le us (i+k)
     have lab:(a:Int) * (b:Int)≤18446744065119617025:=by
      have:=Int.mul_le_mul la lb (by omega) (by omega)
      omega
     have lab0:0≤(a:Int) * (b:Int):=Int.mul_nonneg (by omega) (by omega)
     obtain ⟨by_,offy,eB,hby,hcy⟩:=rd_cell (hs.below hbw) hlk HY
     subst eB
     have hco:=hgw.cell (i:=i+k) (by omega) HO2
     have hf1:=hgw.free (i:=i+k) (by omega)
     have HST:=Lib.hid (hgw.put (i:=i+k) (by omega) (cc+o+a * b))
     have HBS:=Lib.hid (hbw.setCell (p:=⟨g,off+(i+k),none⟩) hgw.hB (uv (UInt32.ofNat (cc+o+a * b))))
     have hik:i+k<zs.length:=by omega
     have b1:decide (k<ys.length)=true:=decide_eq_true hlk
     clear hgw
     go_wp2_with fail
     go_roundw
     case rel =>
      have hcast:((cc+o+a * b:Nat):Int)=(a:Int) * b+o+cc:=by rw [Int.natCast_add,Int.natCast_add,Int.natCast_mul];omega
      have hu:Value.int .u32 (((a:Int) * b+o+cc) % 4294967296)=uv (UInt32.ofNat (cc+o+a * b)):=uv_ofNat _ _ (by omega)
      have hS:cc+o+a * b≤18446744073709551615:=by omega
      rw [hu]
      refine ⟨k+1,(cc+o+a * b) / 4294967296,us.set (i+k) (UInt32.ofNat (cc+o+a * b)),by go_num,congrArg (Value.int IntKind.u64) (by omega),by omega,by omega,by simpa using hu1,by simpa using hu2,?_,?_,HST.out,HBS.out⟩
      ·unfold Hid
       have hset:=val_set us (i+k) (by omega) (UInt32.ofNat (cc+o+a * b))
       have ho:(us.getD (i+k) 0).toNat=o:=HO2.out
       rw [ho,UInt32.toNat_ofNat'] at hset
       have hyk:b=val ys / 4294967296 ^ k % 4294967296:=by rw [← HY.out,ent_val]
       have:=mul_step (val us) _ cc (4294967296 ^ (i+k)) (4294967296 ^ i) (val (xs.take i) * val ys) a b o (cc+o+a * b) (val ys) (4294967296 ^ k) (Nat.pow_add _ _ _) rfl hyk hset HU.out
       rw [← Nat.add_assoc,Nat.pow_succ,Nat.pow_succ]
       exact this
      ·intro j hj
       rw [ent_set_ne _ _ _ _ (by omega)]
       exact HF.out j hj
     case measure=>simp [intOf];omega
    ·obtain rfl:k=ys.length:=by omega
     have b1:decide (ys.length<ys.length)=false:=decide_eq_false (by omega)
     have hz:Hid (ent us (i+ys.length)=0):=HF.out _ (Nat.le_refl _)
     have hco:=hgw.cell (i:=i+ys.length) (by omega) hz
     have hf1:=hgw.free (i:=i+ys.length) (by omega)
     have HST:=Lib.hid (hgw.put (i:=i+ys.length) (by omega) cc)
     have HBS:=Lib.hid (hbw.setCell (p:=⟨g,off+(i+ys.length),none⟩) hgw.hB (uv (UInt32.ofNat cc)))
     have hik:i+ys.length<zs.length:=by omega
     clear hgw
     go_wp2_with fail
     go_roundw
     case rel =>
      have hu:Value.int .u32 (cc:Int)=uv (UInt32.ofNat cc):=uv_ofNat _ _ (by omega)
      rw [hu]
      refine ⟨i+1,us.set (i+ys.length) (UInt32.ofNat cc),by go_num,by omega,by simpa using hu1,by simpa using hu2,?_,?_,HST.out,HBS.out⟩
      ·unfold Hid
       have hset:=set_zero us (i+ys.length) cc (by omega) hz.out
       rw [Nat.mod_eq_of_lt (a:=cc) (by omega)] at hset
       have hU:=HU.out
       rw [Nat.mod_eq_of_lt (val_lt ys)] at hU
       rw [hset,List.take_succ_eq_append_getElem hlt,val_snoc,List.length_take,Nat.min_eq_left (by omega),Nat.add_mul,Nat.mul_comm (4294967296 ^ (i+ys.length)),hU]
       have hx:xs[i].toNat=a:=by rw [← HX.out,ent,List.getD,List.getElem?_eq_getElem hlt];rfl
       rw [hx,Nat.mul_comm (4294967296 ^ i) a,Nat.mul_assoc a,Nat.mul_assoc a,Nat.mul_comm (val ys)]
      ·intro j hj
       rw [ent_set_ne _ _ _ _ (by omega)]
       exact HF.out j (by omega)
     case measure=>simp [intOf];omega
  ·obtain rfl:i=xs.length:=by omega
   have b0:decide (xs.length<xs.length)=false:=decide_eq_false (by omega)
   have hfin:Hid (val os=val xs * val ys):=by unfold Hid;rw [HV.out,List.take_length]
   have HLL:Hid (os.length=zs.length):=by unfold Hid;omega
   go_wp2_with fail
   refine (trim_n _ os _ cap _ HLL hrow.rd hrow.hn hrow.hm (by omega)).mono ?_;rintro e w2 ⟨v2,rfl,hn2,rfl⟩
   rw [hfin.out] at hn2
   go_wp2_with fail
   go_ret
   exact ⟨_,rfl,hn2,hbel⟩
end Go.Proofs.YteclejplbphkpaaGreat
namespace Go.Proofs.YteclejplbphkpaaGreat
open Go.RowKit
set_option maxRecDepth 100000 in
set_option maxHeartbeats 800000 in
theorem ten_any (n:Nat) (w:World) (hn:n≤1000) :
  Calls Tryz.prog 98 #[.int .i64 n] w fun e w'=>∃ v',e = .returned v'∧IsNum w' v' (10 ^ n)∧Below w.heap.size w w':=by
 go_enter Tryz.func98,Tryz.ntmps98
 go_wp2_with fail
 refine (of_any 1 _ (by decide)).mono ?_;rintro e w1 ⟨v1,rfl,hn1,hb1⟩
 go_wp2_with fail
 refine (of_any 10 _ (by decide)).mono ?_;rintro e w2 ⟨v2,rfl,hn2,hb2⟩
 have hn12:=hn1.below hb2
 have hb:=nx hb1 hb2
 go_wp2_with fail
 go_loopw [0,3,4] (fun i p s wr=>∃ m a b:Nat,i = .int .i64 m∧m≤n∧IsNum wr p a∧IsNum wr s b∧Hid (a * b ^ m=10 ^ n)∧Below w.heap.size w wr) (fun i _ _ _=>(intOf i).toNat)
 case atStart=>exact ⟨n,1,10,rfl,Nat.le_refl _,hn12,hn2,Nat.one_mul _,hb⟩
 case round =>
  obtain ⟨m,a,b,rfl,hm,hp,hs,HE,hbel⟩:=hrel
  by_cases h0:m=0
  ·subst h0
   have hfin:a=10 ^ n:=by have:=HE.out;simpa using this
   have HP:=Lib.hid (hp.cast hfin)
   clear hfin
   go_wp2_with fail
   go_ret
   exact ⟨_,rfl,HP.out,hbel⟩
  ·have hpos:0<a * b ^ m:=by rw [HE.out];exact Nat.pow_pos (by decide)
   have ha0:0<a:=Nat.pos_of_mul_pos_right hpos
   have hbm0:0<b ^ m:=Nat.pos_of_mul_pos_left hpos
   have ha:a≤10 ^ n:=by rw [← HE.out];exact Nat.le_mul_of_pos_right _ hbm0
   have hb1':b≤10 ^ n:=by
    rw [← HE.out]
    refine Nat.le_trans ?_ (Nat.le_mul_of_pos_left _ ha0)
    exact Nat.le_self_pow h0 b
   have hA:a<4294967296 ^ (n+1):=Nat.lt_of_le_of_lt ha (ten_bound n)
   have hB:b<4294967296 ^ (n+1):=Nat.lt_of_le_of_lt hb1' (ten_bound n)
   obtain ⟨A1,c1,us,rfl,hr1,hc1,hm1,hl1,-,HV1⟩:=hp.open_ (n+1) hA
   obtain ⟨A2,c2,vs,rfl,hr2,hc2,hm2,hl2,-,HV2⟩:=hs.open_ (n+1) hB
   have hand:=and_one64i m (by omega)
   have st:=ten_step a b m _ HE.out
   have HS:=Lib.hid st
   have hmp:0<m:=by omega
   clear st hA hB hb1' ha hbm0 ha0 hpos h0
   by_cases hodd:m % 2=1
   ·rw [hodd] at hand
    have HOdd:=Lib.hid hodd
    clear hodd
    go_wp2_with fail
    refine (mul_any A1 us c1 A2 vs c2 _ hr1 hc1 (by omega) hr2 hc2 (by omega)).mono ?_;rintro e w3 ⟨v3,rfl,hn3,hb3⟩
    have hr23:=hr2.below hb3
    go_wp2_with fail
    refine (mul_any A2 vs c2 A2 vs c2 _ hr23 hc2 (by omega) hr23 hc2 (by omega)).mono ?_;rintro e w4 ⟨v4,rfl,hn4,hb4⟩
    have hn34:=hn3.below hb4
    rw [HV1.out,HV2.out] at hn34
    rw [HV2.out] at hn4
    go_wp2_with fail
    go_roundw
    case rel=>exact ⟨m / 2,a * b,b * b,by go_num,by omega,hn34,hn4,HS.out.1 HOdd.out,nx (nx hbel hb3) hb4⟩
    case measure=>simp [intOf];omega
   ·have hev:m % 2=0:=by omega
    rw [hev] at hand
    have HEv:=Lib.hid hev
    clear hev hodd
    go_wp2_with fail
    refine (mul_any A2 vs c2 A2 vs c2 _ hr2 hc2 (by omega) hr2 hc2 (by omega)).mono ?_;rintro e w4 ⟨v4,rfl,hn4,hb4⟩
    have hp4:=hp.below hb4
    rw [HV2.out] at hn4
    go_wp2_with fail
    go_roundw
    case rel=>exact ⟨m / 2,a,b * b,by go_num,by omega,hp4,hn4,HS.out.2 HEv.out,nx hbel hb4⟩
    case measure=>simp [intOf];omega
end Go.Proofs.YteclejplbphkpaaGreat
namespace Go.Proofs.YteclejplbphkpaaGreat
open Go.RowKit
set_option maxRecDepth 100000 in
set_option maxHeartbeats 1600000 in
theorem shiftUp_any (A:Option Addr) (xs:List UInt32) (c:Nat) (e b:Nat) (w:World) (hr:Rd uv w A xs) (hc:xs.length≤c) (hl:(xs.length:Int)≤100000) (he:(e:Int)≤100000) (hb:(b:Int)≤31) :
  Calls Tryz.prog 109 #[.slice A xs.length c,.int .i64 e,.int .i64 b] w fun e' w'=>∃ v',e' = .returned v'∧IsNum w' v' (4294967296 ^ e * (val xs * 2 ^ b))∧Below w.heap.size w w':=by
 go_enter Tryz.func109,Tryz.ntmps109
 go_wp2_with (at_make;go_must (refine wpList_mke _ uT uZ rfl _ _ rfl w.heap.size _ _ ((e:Int)+xs.length+1) rfl rfl (by omega) (by omega) (by omega) (Nat.le_refl _) ?_;intro g off cap w1 zs hrow1 HZ1 hz1 hz2 hb1 hg1))
 have HR:=Lib.hid hrow1
 clear hrow1 hg1
 go_loopw [19] (fun v wr=>∃ (i:Nat) (os:List UInt32),v = .int .i64 i∧i≤xs.length∧os.length≤zs.length∧zs.length≤os.length∧Hid (val os=4294967296 ^ e * (val (xs.take i) * 2 ^ b)) ∧
  Row wr w.heap.size g off cap os∧Below w.heap.size w wr) (fun v _=>xs.length - (intOf v).toNat)
 case atStart =>
  refine ⟨0,zs,rfl,Nat.zero_le _,Nat.le_refl _,Nat.le_refl _,?_,HR.out,hb1⟩
  unfold Hid;rw [HZ1.out,val_zeros];simp [val]
 case round =>
  obtain ⟨i,os,rfl,hi,ho1,ho2,HV,hrow,hbel⟩:=hrel
  by_cases hlt:i<xs.length
  ·obtain ⟨a,HX⟩:∃ a,Hid (ent xs i=a):=⟨_,rfl⟩
   obtain ⟨h,HH⟩:∃ h,Hid (ent os (e+i)=h):=⟨_,rfl⟩
   have la:(a:Int)≤4294967295:=by rw [← HX.out];exact ent_le xs i
   have lh:(h:Int)≤4294967295:=by rw [← HH.out];exact ent_le os _
   have b0:decide (i<xs.length)=true:=decide_eq_true hlt
   obtain ⟨bx,offx,rfl,hbx,hcx⟩:=rd_cell (hr.below hbel) hlt HX
   have hco:=hrow.cell (i:=e+i) (by omega) HH
   have hf1:=hrow.free (i:=e+i) (by omega)
   have hik:e+i<zs.length:=by omega
   have hik2:e+i+1<zs.length:=by omega
   have hvo:=shl_room (val os) e i (val (xs.take i)) b HV.out (by have:=val_lt (xs.take i);rw [List.length_take,Nat.min_eq_left hi] at this;exact this) (by omega)
   have h0:Hid (ent os (e+i+1)=0):=by
    unfold Hid
    rw [ent_val,hvo.2]
   have hh:h<2 ^ b:=by rw [← HH.out,ent_val];exact hvo.1
   have hw:=shl_word a b h la hb hh
   have HW:=Lib.hid hw
   have hco2:=hrow.cell (i:=e+i+1) (by omega) h0
   have hf2:=hrow.free (i:=e+i+1) (by omega)
   have hne:∀ V:Value,(wr.setCell ⟨g,off+(e+i),none⟩ V).cell? ⟨g,off+(e+i+1),none⟩=some (.int .u32 ((0:Nat):Int)):=fun V=>by
    rw [World.cell?_setCell_other _ _ _ _ (by simp only [ne_eq,Addr.mk.injEq];omega)]
    exact hco2
   have hrow1:=hrow.put (i:=e+i) (by omega) (h+a * 2 ^ b % 4294967296)
   have HST:=Lib.hid (hrow1.put (i:=e+i+1) (by simp;omega) (a * 2 ^ b / 4294967296))
   have HBS:=Lib.hid ((hbel.setCell (p:=⟨g,off+(e+i),none⟩) hrow.hB (uv (UInt32.ofNat (h+a * 2 ^ b % 4294967296)))).setCell (p:=⟨g,off+(e+i+1),none⟩) hrow.hB (uv (UInt32.ofNat (a * 2 ^ b / 4294967296))))
   clear hrow hrow1 hvo hh hw hco2
   go_wp2_with fail
   obtain ⟨hw1,hw2,hw3⟩:=HW.out
   rw [hw1,hw3]
   go_roundw
   case rel =>
    rw [uv_ofNat (h+a * 2 ^ b % 4294967296) _ (by rw [Nat.mod_eq_of_lt hw2]),uv_ofNat (a * 2 ^ b / 4294967296) _ rfl]
    refine ⟨i+1,(os.set (e+i) (UInt32.ofNat (h+a * 2 ^ b % 4294967296))).set (e+i+1) (UInt32.ofNat (a * 2 ^ b / 4294967296)),by go_num,by omega,by simpa using ho1,by simpa using ho2,?_,HST.out,HBS.out⟩
    unfold Hid
    rw [set_zero _ _ _ (by simp;omega) (by rw [ent_set_ne _ _ _ _ (by omega)];exact h0.out)]
    have hset:=val_set os (e+i) (by omega) (UInt32.ofNat (h+a * 2 ^ b % 4294967296))
    have ho:(os.getD (e+i) 0).toNat=h:=HH.out
    rw [ho,UInt32.toNat_ofNat',Nat.mod_eq_of_lt hw2,HV.out] at hset
    have hx:xs[i].toNat=a:=by rw [← HX.out,ent,List.getD,List.getElem?_eq_getElem hlt];rfl
    rw [List.take_succ_eq_append_getElem hlt,val_snoc,List.length_take,Nat.min_eq_left (by omega),hx]
    exact shl_step _ _ _ _ _ _ _ la hb hset
   case measure=>simp [intOf];omega
  ·obtain rfl:i=xs.length:=by omega
   have b0:decide (xs.length<xs.length)=false:=decide_eq_false (by omega)
   have hfin:Hid (val os=4294967296 ^ e * (val xs * 2 ^ b)):=by unfold Hid;rw [HV.out,List.take_length]
   have HLL:Hid (os.length=zs.length):=by unfold Hid;omega
   go_wp2_with fail
   refine (trim_n _ os _ cap _ HLL hrow.rd hrow.hn hrow.hm (by omega)).mono ?_;rintro e w2 ⟨v2,rfl,hn2,rfl⟩
   rw [hfin.out] at hn2
   go_wp2_with fail
   go_ret
   exact ⟨_,rfl,hn2,hbel⟩
set_option maxRecDepth 100000 in
set_option maxHeartbeats 1600000 in
theorem shiftDown_any (A:Option Addr) (xs:List UInt32) (c:Nat) (e s:Nat) (w:World) (hr:Rd uv w A xs) (hc:xs.length≤c) (hl:(xs.length:Int)≤100000) (he:(e:Int)≤100000) (hs:(s:Int)≤31) :
  Calls Tryz.prog 108 #[.slice A xs.length c,.int .i64 e,.int .i64 s] w fun e' w'=>∃ v',e' = .returned v'∧IsNum w' v' (val xs / 4294967296 ^ e / 2 ^ s)∧Below w.heap.size w w':=by
 by_cases hge:xs.length≤e
 ·have hz:Hid (val xs / 4294967296 ^ e / 2 ^ s=0):=by
   unfold Hid
   rw [Nat.div_eq_of_lt (Nat.lt_of_lt_of_le (val_lt xs) (Nat.pow_le_pow_right (by decide) hge)),Nat.zero_div]
  have hd:decide (xs.length≤e)=true:=decide_eq_true hge
  go_enter Tryz.func108,Tryz.ntmps108
  go_wp2_with fail
  go_ret
  exact ⟨_,rfl,(IsNum.zero _).cast hz.out.symm,Below.refl _ _⟩
 ·have hd:decide (xs.length≤e)=false:=decide_eq_false hge
  go_enter Tryz.func108,Tryz.ntmps108
  go_wp2_with (first
   | (refine wpList_sl (f:=uv) _ uT rfl _ _ _ rfl _ xs c rfl hr hc (e:Int) (xs.length:Int) (.inr ⟨_,_,rfl,rfl⟩) (.inl ⟨rfl,rfl⟩) (by omega) (by omega) (by omega) ?_;intro A2 us c2 hcut hc1 hc2;obtain ⟨hr2,HY,hlo,hhi⟩:=hcut)
   | (at_make;go_must (refine wpList_mke _ uT uZ rfl _ _ rfl w.heap.size _ _ (us.length:Int) rfl rfl (by omega) (by omega) (by omega) (Nat.le_refl _) ?_;intro g off cap w1 zs hrow1 HZ1 hz1 hz2 hb1 hg1)))
  have HV:Hid (val us=val xs / 4294967296 ^ e):=by
   have h1:xs=xs.take e++us:=by rw [HY.out];simp
   have h2:=congrArg val h1
   rw [val_append,List.length_take,Nat.min_eq_left (by omega)] at h2
   have h3:=val_lt (xs.take e)
   rw [List.length_take,Nat.min_eq_left (by omega)] at h3
   unfold Hid
   rw [h2,Nat.add_mul_div_left _ _ (Nat.pow_pos (by decide)),Nat.div_eq_of_lt h3,Nat.zero_add]
  clear HY
  have HR:=Lib.hid hrow1
  clear hrow1 hg1
  go_loopw [22] (fun v wr=>∃ (i:Nat) (os:List UInt32),v = .int .i64 i∧i≤zs.length∧os.length≤zs.length∧zs.length≤os.length∧Hid (∀ j,j<i→ent os j=val us / 2 ^ s / 4294967296 ^ j % 4294967296) ∧
   Row wr w.heap.size g off cap os∧Below w.heap.size w wr) (fun v _=>zs.length - (intOf v).toNat)
  case atStart =>
   refine ⟨0,zs,rfl,Nat.zero_le _,Nat.le_refl _,Nat.le_refl _,fun j hj=>absurd hj (Nat.not_lt_zero _),HR.out,hb1⟩
  case round =>
   obtain ⟨i,os,rfl,hi,ho1,ho2,HE,hrow,hbel⟩:=hrel
   have hru:=hr2.below hbel
   by_cases hlt:i<zs.length
   ·obtain ⟨a,HX⟩:∃ a,Hid (ent us i=a):=⟨_,rfl⟩
    obtain ⟨b,HX1⟩:∃ b,Hid (ent us (i+1)=b):=⟨_,rfl⟩
    obtain ⟨h,HH⟩:∃ h,Hid (ent os i=h):=⟨_,rfl⟩
    have la:(a:Int)≤4294967295:=by rw [← HX.out];exact ent_le us i
    have lb:(b:Int)≤4294967295:=by rw [← HX1.out];exact ent_le us _
    have b0:decide (i<zs.length)=true:=decide_eq_true hlt
    have hco:=hrow.cell (i:=i) (by omega) HH
    have hf1:=hrow.free (i:=i) (by omega)
    have HW:=Lib.hid (or_word a b la lb s hs)
    have HST:=Lib.hid (hrow.put (i:=i) (by omega) ((a+b * 4294967296) / 2 ^ s))
    have HBS:=Lib.hid (hbel.setCell (p:=⟨g,off+i,none⟩) hrow.hB (uv (UInt32.ofNat ((a+b * 4294967296) / 2 ^ s))))
    clear hrow
    go_wp2_with fail
    refine (elem_any A2 us c2 (i+1) _ hru hc1 (by omega) (by omega)).mono ?_;rintro e w' ⟨rfl,rfl⟩
    rw [HX1.out]
    go_wp2_with fail
    refine (elem_any A2 us c2 i _ hru hc1 (by omega) (by omega)).mono ?_;rintro e w' ⟨rfl,rfl⟩
    rw [HX.out]
    go_wp2_with fail
    rw [HW.out]
    go_roundw
    case rel =>
     rw [uv_ofNat ((a+b * 4294967296) / 2 ^ s) _ rfl]
     refine ⟨i+1,os.set i (UInt32.ofNat ((a+b * 4294967296) / 2 ^ s)),by go_num,by omega,by simpa using ho1,by simpa using ho2,fun j hj=>?_,HST.out,HBS.out⟩
     by_cases hji:j=i
     ·subst hji
      have:ent (os.set j (UInt32.ofNat ((a+b * 4294967296) / 2 ^ s))) j=(a+b * 4294967296) / 2 ^ s % 4294967296:=by
       unfold ent;rw [List.getD,List.getElem?_set_self (by omega)];exact UInt32.toNat_ofNat'
      rw [this,← HX.out,← HX1.out,ent_val,ent_val]
      exact down_word _ _ _ (by omega)
     ·rw [ent_set_ne _ _ _ _ (by omega)]
      exact HE.out j (by omega)
    case measure=>simp [intOf];omega
   ·obtain rfl:i=zs.length:=by omega
    have b0:decide (zs.length<zs.length)=false:=decide_eq_false (by omega)
    have hfin:Hid (val os=val xs / 4294967296 ^ e / 2 ^ s):=by
     unfold Hid
     rw [← HV.out]
     have h1:=val_lt os
     have h2:=val_lt us
     refine digits_ext zs.length _ _ (by rw [show zs.length=os.length from by omega];exact h1) ?_ fun j=>?_
     ·rw [show zs.length=us.length from by omega]
      exact Nat.lt_of_le_of_lt (Nat.div_le_self _ _) h2
     ·rw [← ent_val]
      by_cases hj:j<zs.length
      ·exact HE.out j hj
      ·have e1:ent os j=0:=by unfold ent;rw [List.getD,List.getElem?_eq_none (by omega)];rfl
       rw [e1,Nat.div_eq_of_lt,Nat.zero_mod]
       exact Nat.lt_of_le_of_lt (Nat.div_le_self _ _) (Nat.lt_of_lt_of_le h2 (Nat.pow_le_pow_right (by decide) (by omega)))
    have HLL:Hid (os.length=zs.length):=by unfold Hid;omega
    go_wp2_with fail
    refine (trim_n _ os _ cap _ HLL hrow.rd hrow.hn hrow.hm (by omega)).mono ?_;rintro e w2 ⟨v2,rfl,hn2,rfl⟩
    rw [hfin.out] at hn2
    go_wp2_with fail
    go_ret
    exact ⟨_,rfl,hn2,hbel⟩
end Go.Proofs.YteclejplbphkpaaGreat
namespace Go.Proofs.YteclejplbphkpaaGreat
open Go.RowKit
set_option maxRecDepth 100000 in
set_option maxHeartbeats 1600000 in
theorem shl_any (A:Option Addr) (xs:List UInt32) (c:Nat) (n:Int) (w:World) (hr:Rd uv w A xs) (hc:xs.length≤c) (hm:c≤maxLen) (hl:(xs.length:Int)≤100000) (hn1 : -100000≤n) (hn2:n≤100000) :
  Calls Tryz.prog 104 #[.slice A xs.length c,.int .i64 n] w fun e w'=>∃ v',e = .returned v'∧IsNum w' v' (shV (val xs) n)∧Below w.heap.size w w':=by
 by_cases hneg:n<0
 ·obtain ⟨m,rfl⟩:∃ m:Nat,n = -(m:Int):=⟨n.natAbs,by omega⟩
  have hq:(-(m:Int)).tdiv 32 = -((m / 32:Nat):Int):=by
   rw [Int.neg_tdiv];rfl
  have hrm:(-(m:Int)).tmod 32 = -((m % 32:Nat):Int):=by
   rw [Int.neg_tmod];rfl
  have hsh:Hid (val xs / 4294967296 ^ (m / 32) / 2 ^ (m % 32)=shV (val xs) (-(m:Int))):=by
   unfold Hid shV
   rw [if_neg (by omega),Nat.div_div_eq_div_mul,pow_split]
   congr 2;omega
  go_enter Tryz.func104,Tryz.ntmps104
  go_wp2_with fail
  refine (trim_any A xs c _ hr hc hm (by omega)).mono ?_;rintro e w1 ⟨v1,rfl,hk1,rfl⟩
  obtain ⟨A1,c1,us,rfl,hr1,hc1,hm1,hl1,-,HV⟩:=hk1.open_ xs.length (val_lt xs)
  go_wp2_with fail
  refine (shiftDown_any A1 us c1 (m / 32) (m % 32) _ hr1 hc1 (by omega) (by omega) (by omega)).mono ?_;rintro e w2 ⟨v2,rfl,hk2,hb2⟩
  rw [HV.out,hsh.out] at hk2
  go_wp2_with fail
  go_ret
  exact ⟨_,rfl,hk2,hb2⟩
 ·obtain ⟨m,rfl⟩:=Int.eq_ofNat_of_zero_le (a:=n) (by omega)
  have hsh:Hid (4294967296 ^ (m / 32) * (val xs * 2 ^ (m % 32))=shV (val xs) (m:Int)):=by
   unfold Hid shV
   rw [if_pos (by omega),Nat.mul_left_comm,pow_split];rfl
  clear hneg
  go_enter Tryz.func104,Tryz.ntmps104
  go_wp2_with fail
  refine (trim_any A xs c _ hr hc hm (by omega)).mono ?_;rintro e w1 ⟨v1,rfl,hk1,rfl⟩
  obtain ⟨A1,c1,us,rfl,hr1,hc1,hm1,hl1,-,HV⟩:=hk1.open_ xs.length (val_lt xs)
  have hul:(us.length:Int)≤100000:=by omega
  clear hl1
  by_cases h0:us.length=0
  ·have hz:Hid (shV (val xs) (m:Int)=0):=by
    unfold Hid
    rw [← hsh.out,← HV.out,List.eq_nil_of_length_eq_zero h0]
    simp [val]
   have hd:((us.length:Int) == 0)=true:=by rw [h0];rfl
   clear h0
   go_wp2_with fail
   go_ret
   exact ⟨_,rfl,(IsNum.zero _).cast hz.out.symm,Below.refl _ _⟩
  ·have hd:((us.length:Int) == 0)=false:=by rw [beq_eq_false_iff_ne];omega
   have hd2:decide (536870911 - (us.length:Int)≤(m:Int) / 32)=false:=decide_eq_false (by omega)
   clear h0
   go_wp2_with fail
   refine (shiftUp_any A1 us c1 (m / 32) (m % 32) _ hr1 hc1 (by omega) (by omega) (by omega)).mono ?_;rintro e w2 ⟨v2,rfl,hk2,hb2⟩
   rw [HV.out,hsh.out] at hk2
   go_wp2_with fail
   go_ret
   exact ⟨_,rfl,hk2,hb2⟩
end Go.Proofs.YteclejplbphkpaaGreat
namespace Go.Proofs.YteclejplbphkpaaGreat
open Go.RowKit
set_option maxRecDepth 100000 in
set_option maxHeartbeats 1600000 in
theorem takeTimes_any (B g off L cap:Nat) (us:List UInt32) (D:Option Addr) (ds:List UInt32) (dc t:Nat) (w:World) (hrow:Row w B g off cap us) (hL:Hid (us.length=L)) (hL1:L≤ds.length+1) (hL2:ds.length+1≤L)
  (hr:Rdx g w D ds) (hd:ds.length≤dc) (hl:(ds.length:Int)≤100000) (ht:(t:Int)≤4294967295) :
  Calls Tryz.prog 113 #[.slice (some ⟨g,off,none⟩) L cap,.slice D ds.length dc,.int .u64 t] w fun e w'=>∃ us' be,e = .returned (.bool be)∧Hid (us'.length=L)∧Row w' B g off cap us'∧Only g off (off+L) w w'∧Hid (Taken us us' t (val ds) be):=by
 go_enter Tryz.func113,Tryz.ntmps113
 go_wp2_with fail
 have HR:=Lib.hid hrow
 clear hrow
 go_loopw [7,15] (fun v i wr=>∃ (k bo:Nat) (ts:List UInt32),i = .int .i64 k∧v = .int .u64 bo∧(bo:Int)≤4294967296∧k≤ds.length∧Hid (ts.length=L) ∧
  Hid (val ts+t * (val ds % 4294967296 ^ k)=val us+bo * 4294967296 ^ k)∧Row wr B g off cap ts∧Only g off (off+L) w wr) (fun _ i _=>ds.length - (intOf i).toNat)
 case atStart=>exact ⟨0,0,us,rfl,rfl,by omega,by omega,hL,by unfold Hid;simp [Nat.mod_one],HR.out,Only.refl _ _ _ _⟩
 case round =>
  obtain ⟨k,bo,ts,rfl,rfl,hbo,hk,HL,HV,hrow,honly⟩:=hrel
  have hTL:ts.length≤L:=by have:=HL.out;omega
  have hTL2:L≤ts.length:=by have:=HL.out;omega
  by_cases hlt:k<ds.length
  ·obtain ⟨d,HX⟩:∃ d,Hid (ent ds k=d):=⟨_,rfl⟩
   obtain ⟨r,HY⟩:∃ r,Hid (ent ts k=r):=⟨_,rfl⟩
   have ld:(d:Int)≤4294967295:=by rw [← HX.out];exact ent_le ds k
   have lr:(r:Int)≤4294967295:=by rw [← HY.out];exact ent_le ts k
   have b1:decide (k<ds.length)=true:=decide_eq_true hlt
   obtain ⟨bx,offx,rfl,hbx,hcx⟩:=rd_cell (hr.only honly).rd hlt HX
   have hco:=hrow.cell (i:=k) (by omega) HY
   have hf1:=hrow.free (i:=k) (by omega)
   have lab:(t:Int) * (d:Int)≤18446744065119617025:=by
    have:=Int.mul_le_mul ht ld (by omega) (by omega)
    omega
   have lab0:0≤(t:Int) * (d:Int):=Int.mul_nonneg (by omega) (by omega)
   have hkL:k<L:=by omega
   have hc:(t:Int) * d+bo=((t * d+bo:Nat):Int):=by rw [Int.natCast_add,Int.natCast_mul]
   obtain ⟨p,HP⟩:∃ p,Hid (t * d+bo=p):=⟨_,rfl⟩
   rw [HP.out] at hc
   have lp:(p:Int)≤18446744069414584321:=by omega
   have HC:=Lib.hid hc
   have HW:=Lib.hid (take_word r p lr lp)
   have HST:=Lib.hid (hrow.put (i:=k) (by omega) (r+4294967296 - p % 4294967296))
   have HBS:=Lib.hid (honly.setCell (i:=off+k) (by omega) (by omega) (uv (UInt32.ofNat (r+4294967296 - p % 4294967296))))
   clear hrow hc
   go_wp2_with fail
   rw [HC.out,HW.out.1,HW.out.2]
   go_roundw
   case rel =>
    rw [uv_ofNat (r+4294967296 - p % 4294967296) _ rfl]
    refine ⟨k+1,_,ts.set k (UInt32.ofNat (r+4294967296 - p % 4294967296)),by go_num,rfl,by omega,by omega,by unfold Hid;simpa using HL.out,?_,HST.out,HBS.out⟩
    unfold Hid
    have hset:=val_set ts k (by omega) (UInt32.ofNat (r+4294967296 - p % 4294967296))
    have ho:(ts.getD k 0).toNat=r:=HY.out
    rw [ho,UInt32.toNat_ofNat'] at hset
    rw [Nat.pow_succ]
    exact take_step _ _ _ _ _ _ _ _ _ _ HP.out.symm (by rw [← HX.out,ent_val]) (by omega) hset HV.out
   case measure=>simp [intOf];omega
  ·obtain rfl:k=ds.length:=by omega
   have b1:decide (ds.length<ds.length)=false:=decide_eq_false (by omega)
   obtain ⟨r,HY⟩:∃ r,Hid (ent ts ds.length=r):=⟨_,rfl⟩
   have lr:(r:Int)≤4294967295:=by rw [← HY.out];exact ent_le ts _
   have hco:=hrow.cell (i:=ds.length) (by omega) HY
   have hf1:=hrow.free (i:=ds.length) (by omega)
   have hkL:ds.length<L:=by omega
   have HW:=Lib.hid (take_last r bo lr hbo)
   have HST:=Lib.hid (hrow.put (i:=ds.length) (by omega) (r+4294967296 - bo))
   have HBS:=Lib.hid (honly.setCell (i:=off+ds.length) (by omega) (by omega) (uv (UInt32.ofNat (r+4294967296 - bo))))
   have HT:Hid (Taken us (ts.set ds.length (UInt32.ofNat (r+4294967296 - bo))) t (val ds) (decide (r<bo))):=by
    unfold Hid Taken
    have hset:=val_set ts ds.length (by omega) (UInt32.ofNat (r+4294967296 - bo))
    have ho:(ts.getD ds.length 0).toNat=r:=HY.out
    rw [ho,UInt32.toNat_ofNat'] at hset
    have hV:=HV.out
    rw [Nat.mod_eq_of_lt (val_lt ds)] at hV
    have:=take_end _ _ _ _ _ _ _ (by omega) (by omega) hset hV
    rw [this,hL.out,show L=ds.length+1 from by omega,Nat.pow_succ]
    by_cases h:r<bo
    ·rw [if_pos h,if_pos (decide_eq_true h)]
    ·rw [if_neg h,if_neg (by rw [decide_eq_false h];simp)]
   clear hrow
   go_wp2_with fail
   go_ret
   refine ⟨ts.set ds.length (UInt32.ofNat (r+4294967296 - bo)),decide (r<bo),?_,?_,?_,?_,HT⟩
   ·have:=HW.out.2
    rw [← this];rfl
   ·unfold Hid;simpa using HL.out
   ·rw [HW.out.1,uv_ofNat (r+4294967296 - bo) _ rfl];exact HST.out
   ·rw [HW.out.1,uv_ofNat (r+4294967296 - bo) _ rfl];exact HBS.out
set_option maxRecDepth 100000 in
set_option maxHeartbeats 1600000 in
theorem addBack_any (B g off L cap:Nat) (us:List UInt32) (D:Option Addr) (ds:List UInt32) (dc:Nat) (w:World) (hrow:Row w B g off cap us) (hL:Hid (us.length=L)) (hL1:L≤ds.length+1) (hL2:ds.length+1≤L)
  (hr:Rdx g w D ds) (hd:ds.length≤dc) (hl:(ds.length:Int)≤100000) :
  Calls Tryz.prog 114 #[.slice (some ⟨g,off,none⟩) L cap,.slice D ds.length dc] w fun e w'=>∃ us' be,e = .returned (.bool be)∧Hid (us'.length=L)∧Row w' B g off cap us'∧Only g off (off+L) w w'∧Hid (Added us us' (val ds) be):=by
 go_enter Tryz.func114,Tryz.ntmps114
 go_wp2_with fail
 have HR:=Lib.hid hrow
 clear hrow
 go_loopw [5,10] (fun v i wr=>∃ (k cc:Nat) (ts:List UInt32),i = .int .i64 k∧v = .int .u64 cc∧cc≤1∧k≤L∧Hid (ts.length=L) ∧
  Hid (val ts+cc * 4294967296 ^ k=val us+val ds % 4294967296 ^ k)∧Row wr B g off cap ts∧Only g off (off+L) w wr) (fun _ i _=>L - (intOf i).toNat)
 case atStart=>exact ⟨0,0,us,rfl,rfl,by omega,by omega,hL,by unfold Hid;simp [Nat.mod_one],HR.out,Only.refl _ _ _ _⟩
 case round =>
  obtain ⟨k,cc,ts,rfl,rfl,hcc,hk,HL,HV,hrow,honly⟩:=hrel
  have hTL:ts.length≤L:=by have:=HL.out;omega
  have hTL2:L≤ts.length:=by have:=HL.out;omega
  by_cases hlt:k<L
  ·obtain ⟨d,HX⟩:∃ d,Hid (ent ds k=d):=⟨_,rfl⟩
   obtain ⟨r,HY⟩:∃ r,Hid (ent ts k=r):=⟨_,rfl⟩
   have ld:(d:Int)≤4294967295:=by rw [← HX.out];exact ent_le ds k
   have lr:(r:Int)≤4294967295:=by rw [← HY.out];exact ent_le ts k
   have b1:decide (k<L)=true:=decide_eq_true hlt
   have hrx:=hr.only honly
   have hco:=hrow.cell (i:=k) (by omega) HY
   have hf1:=hrow.free (i:=k) (by omega)
   have hgl:=hrow.hg
   have f1:∀ x:Gr wr,x.1.cell? ⟨g,off+k,none⟩=some (.int .u32 (r:Int)):=fun x=>(x.2.cell (by exact hgl)).trans hco
   go_upto_region 5 with (fail)
   refine wp_region_hyb [(0,true),(1,true),(2,true),(3,true),(4,true),(5,true),(6,true),(9,true),(7,false),(8,true),(10,true),(11,true)] (by kernel_rfl) (by kernel_rfl) ?_
   iterate 8 (refine hyb_calm rfl (fun K hK=>?_);go_simp;refine hK _ ?_;clear hK K)
   refine hyb_alone rfl (fun w3 hn3 K hK=>?_)
   go_simp
   refine (elem_any D ds dc k _ (hrx.rd.below hn3) hd (by omega) (by omega)).mono ?_;rintro e w' ⟨rfl,rfl⟩
   rw [HX.out]
   refine hK _ _ (Nx.refl _) ?_
   clear hK K
   iterate 3 (refine hyb_calm rfl (fun K hK=>?_);go_simp;refine hK _ ?_;clear hK K)
   refine hyb_nil (fun w4 hn4=>?_)
   have hrow4:=(hrow.below hn3).below hn4
   have honly4:=(honly.nx hgl hn3).nx (Nat.lt_of_lt_of_le hgl hn3.size) hn4
   clear f1 hco hf1 hrow honly hrx
   have hco:=hrow4.cell (i:=k) (by omega) HY
   have hf1:=hrow4.free (i:=k) (by omega)
   have HST:=Lib.hid (hrow4.put (i:=k) (by omega) (r+d+cc))
   have HBS:=Lib.hid (honly4.setCell (i:=off+k) (by omega) (by omega) (uv (UInt32.ofNat (r+d+cc))))
   clear hrow4 honly4
   go_wp2_with fail
   go_roundw
   case rel =>
    have hu:Value.int .u32 (((r:Int)+d+cc) % 4294967296)=uv (UInt32.ofNat (r+d+cc)):=uv_ofNat _ _ (by omega)
    rw [hu]
    refine ⟨k+1,(r+d+cc) / 4294967296,ts.set k (UInt32.ofNat (r+d+cc)),by go_num,by go_num,by omega,by omega,by unfold Hid;simpa using HL.out,?_,HST.out,HBS.out⟩
    unfold Hid
    have hset:=val_set ts k (by omega) (UInt32.ofNat (r+d+cc))
    have ho:(ts.getD k 0).toNat=r:=HY.out
    rw [ho,UInt32.toNat_ofNat'] at hset
    rw [Nat.pow_succ]
    exact back_step _ _ _ _ _ _ _ _ _ rfl (by rw [← HX.out,ent_val]) hset HV.out
   case measure=>simp [intOf];omega
  ·obtain rfl:k=L:=by omega
   have b1:decide (k<k)=false:=decide_eq_false (by omega)
   have hbe:((cc:Int) == (1:Int))=decide (cc=1):=by
    rcases (by omega:cc=0∨cc=1) with rfl | rfl <;> rfl
   have HT:Hid (Added us ts (val ds) (decide (cc=1))):=by
    unfold Hid Added
    have hV:=HV.out
    have h1:=val_lt ds
    rw [Nat.mod_eq_of_lt (Nat.lt_of_lt_of_le h1 (Nat.pow_le_pow_right (by decide) (by omega)))] at hV
    rw [hL.out,← hV]
    rcases (by omega:cc=0∨cc=1) with rfl | rfl <;> simp
   have HBE:=Lib.hid hbe
   clear hbe
   go_wp2_with fail
   go_ret
   refine ⟨ts,decide (cc=1),?_,HL,hrow,honly,HT⟩
   rw [← HBE.out];rfl
end Go.Proofs.YteclejplbphkpaaGreat
namespace Go.Proofs.YteclejplbphkpaaGreat
open Go.RowKit
set_option maxRecDepth 100000 in
set_option maxHeartbeats 1600000 in
theorem digit_any (B g off L cap m:Nat) (us:List UInt32) (D:Option Addr) (ds:List UInt32) (dc:Nat) (w:World) (hrow:Row w B g off cap us) (hL:Hid (us.length=L)) (hL1:L≤ds.length+1) (hL2:ds.length+1≤L)
  (hr:Rdx g w D ds) (hd:ds.length≤dc) (hl:(ds.length:Int)≤90000) (hm1:ds.length≤m+1) (hm2:m+1≤ds.length) (htop:Hid (ent ds m≠0)) (hlt:Hid (val us<4294967296 * val ds)) :
  Calls Tryz.prog 110 #[.slice (some ⟨g,off,none⟩) L cap,.slice D ds.length dc] w fun e w'=>∃ us',e = .returned (.int .u32 (val us / val ds:Nat))∧Hid (us'.length=L)∧Row w' B g off cap us'∧Only g off (off+L) w w'∧Hid (val us'=val us % val ds):=by
 obtain ⟨u1,HU1⟩:∃ u,Hid (ent us ds.length=u):=⟨_,rfl⟩
 obtain ⟨u0,HU0⟩:∃ u,Hid (ent us m=u):=⟨_,rfl⟩
 obtain ⟨dt,HD⟩:∃ u,Hid (ent ds m=u):=⟨_,rfl⟩
 have lu1:(u1:Int)≤4294967295:=by rw [← HU1.out];exact ent_le us _
 have lu0:(u0:Int)≤4294967295:=by rw [← HU0.out];exact ent_le us _
 have ld:(dt:Int)≤4294967295:=by rw [← HD.out];exact ent_le ds _
 have ld0:0<dt:=by have:=htop.out;rw [HD.out] at this;omega
 have hUL:us.length=ds.length+1:=by have:=hL.out;omega
 have hc1:=hrow.cell (i:=ds.length) (by omega) HU1
 have hc0:=hrow.cell (i:=m) (by omega) HU0
 obtain ⟨bx,offx,rfl,hbx,hcx⟩:=rd_cell hr.rd (i:=m) (by omega) HD
 clear hUL
 have hgl:=hrow.hg
 have i1:IntKind.i64.wrap ((ds.length:Int) - 1)=(m:Int):=by rw [IntKind.wrap_i64];omega
 have i2:m<L:=by omega
 have i3:ds.length<L:=by omega
 have i4:m<ds.length:=by omega
 obtain ⟨hi,HH⟩:∃ hi,Hid (u0+u1 * 4294967296=hi):=⟨_,rfl⟩
 have hor:bits .or .u64 (IntKind.u64.wrap (IntKind.u64.wrap (u1:Int) * 4294967296)) (IntKind.u64.wrap (u0:Int))=(hi:Int):=by
  have e:∀ x:Int,IntKind.u64.wrap x=x % 18446744073709551616:=fun x=>by simp [IntKind.wrap,IntKind.bits,IntKind.signed]
  have e1:(u1:Int) % 18446744073709551616=u1:=by omega
  have e0:(u0:Int) % 18446744073709551616=u0:=by omega
  have e2:(u1:Int) * 4294967296 % 18446744073709551616=u1 * 4294967296:=by omega
  rw [e,e,e,e1,e2,e0,or_lo u0 u1 lu0 lu1,HH.out]
 have lhi:(hi:Int)≤18446744073709551615:=by have:=HH.out;omega
 go_enter Tryz.func110,Tryz.ntmps110
 go_upto_region 2 with (fail)
 have f1:∀ x:Gr w,x.1.cell? ⟨g,off+ds.length,none⟩=some (.int .u32 (u1:Int)):=fun x=>(x.2.cell (by exact hgl)).trans hc1
 have f0:∀ x:Gr w,x.1.cell? ⟨g,off+m,none⟩=some (.int .u32 (u0:Int)):=fun x=>(x.2.cell (by exact hgl)).trans hc0
 refine wp_region_hyb [(0,true),(1,true),(2,true),(3,true),(4,true),(5,true),(6,true),(7,true),(8,true),(9,true),(10,true),(11,true),(12,true),(13,true)] (by kernel_rfl) (by kernel_rfl) ?_
 iterate 14 (refine hyb_calm rfl (fun K hK=>?_);go_simp;refine hK _ ?_;clear hK K)
 clear f1 f0
 refine hyb_nil (fun w1 hn1=>?_)
 have hrow1:=hrow.below hn1
 have honly1:=(Only.refl g off (off+L) w).nx hgl hn1
 have hrx1:=hr.only honly1
 have hcx1:w1.cell? ⟨bx,offx+m,none⟩=some (.int .u32 (dt:Int)):=(hn1.cell (by exact hbx)).trans hcx
 clear hrow hcx hc1 hc0 i1 hor
 have i1:((ds.length:Int) - 1)=(m:Int):=by omega
 obtain ⟨qh,HQ⟩:∃ qh,Hid (hi / dt=qh):=⟨_,rfl⟩
 have hqh:qh≤hi:=by rw [← HQ.out];exact Nat.div_le_self _ _
 have hdv:IntKind.u64.wrap ((hi:Int) / (dt:Int))=(qh:Int):=by
  have e:∀ x:Int,IntKind.u64.wrap x=x % 18446744073709551616:=fun x=>by simp [IntKind.wrap,IntKind.bits,IntKind.signed]
  have e2:(hi:Int) / (dt:Int)=(qh:Int):=by rw [← HQ.out];rfl
  rw [e,e2];omega
 obtain ⟨G,hG,hG1,hG2,hG3,hGm,hGn⟩:∃ G:Nat,(if (4294967295:Int)<(qh:Int) then (4294967295:Int) else (qh:Int))=(G:Int)∧G≤4294967295∧G≤qh∧(qh≤G∨4294967295≤G)∧min (4294967295:Int) (qh:Int)=(G:Int)∧min (qh:Int) (4294967295:Int)=(G:Int):=by
  by_cases h:(4294967295:Int)<(qh:Int)
  ·exact ⟨4294967295,by rw [if_pos h];rfl,by omega,by omega,by omega,by omega,by omega⟩
  ·exact ⟨qh,by rw [if_neg h],by omega,by omega,by omega,by omega,by omega⟩
 have hguess:Hid (val us / val ds≤G):=digit_guess us ds m hi dt qh G (by have:=hL.out;omega) (by omega) (by have:=HH.out;rw [HU0.out,show m+1=ds.length from by omega,HU1.out];exact this) HD.out ld0 HQ.out hlt.out (by omega)
 go_wp2_with fail
 clear hG hG2 hG3 hGm hGn hqh hdv
 refine (takeTimes_any B g off L cap us _ ds dc G _ hrow1 hL hL1 hL2 hrx1 hd (by omega) (by omega)).mono ?_;rintro e w2 ⟨us2,be2,rfl,hL2',hrow2,honly2,HT2⟩
 have honly12:=honly1.trans honly2
 have HR2:=Lib.hid hrow2
 clear hrow1 hrow2 honly1 honly2 hrx1 hcx1 i1
 have hD0:Hid (0<val ds):=by
  unfold Hid
  rcases Nat.eq_zero_or_pos (val ds) with h | h
  ·have:=hlt.out;rw [h] at this;omega
  ·exact h
 go_wp2_with fail
 go_loopw [7,8] (fun gv bv wr=>∃ (gq:Nat) (be:Bool) (ts:List UInt32),gv = .int .u64 gq∧bv = .bool be∧gq≤4294967295∧Hid (val us / val ds≤gq)∧Hid (ts.length=L) ∧
  Hid (val ts+gq * val ds=val us+(if be then 4294967296 ^ L else 0))∧Row wr B g off cap ts∧Only g off (off+L) w wr) (fun gv _ _=>(intOf gv).toNat)
 case atStart =>
  refine ⟨G,be2,us2,rfl,rfl,hG1,hguess,hL2',?_,HR2.out,honly12⟩
  have:=HT2.out;unfold Taken at this;rw [hL.out] at this;exact this
 case round =>
  obtain ⟨gq,be,ts,rfl,rfl,hgq,HQ1,HL,HV,hrow,honly⟩:=hrel
  cases be
  ·have hfin:Hid (val us / val ds=gq∧val ts=val us % val ds):=by
    have h:=HV.out
    simp only [Bool.false_eq_true,if_false,Nat.add_zero] at h
    have h1:gq≤val us / val ds:=(Nat.le_div_iff_mul_le hD0.out).2 (by omega)
    have h2:=HQ1.out
    have h3:gq=val us / val ds:=by omega
    have h4:=Nat.div_add_mod (val us) (val ds)
    rw [← h3,Nat.mul_comm] at h4
    exact ⟨h3.symm,by omega⟩
   go_wp2_with fail
   go_ret
   refine ⟨ts,?_,HL,hrow,honly,hfin.out.2⟩
   rw [hfin.out.1]
   rfl
  ·have hgt:val us<gq * val ds:=by
    have h:=HV.out
    have h1:=val_lt ts
    rw [HL.out] at h1
    simp only [if_true] at h
    omega
   have hg1:1≤gq:=by
    rcases Nat.eq_zero_or_pos gq with h | h
    ·rw [h,Nat.zero_mul] at hgt;omega
    ·exact h
   have HGT:=Lib.hid hgt
   clear hgt
   have hrx:=hr.only honly
   go_wp2_with fail
   refine (addBack_any B g off L cap ts _ ds dc _ hrow HL hL1 hL2 hrx hd (by omega)).mono ?_;rintro e w3 ⟨us3,be3,rfl,hL3,hrow3,honly3,HA3⟩
   clear hrow hrx
   go_wp2_with fail
   go_roundw
   case rel =>
    refine ⟨gq - 1,!be3,us3,by go_num,rfl,by omega,?_,hL3,?_,hrow3,honly.trans honly3⟩
    ·have:val us / val ds<gq:=(Nat.div_lt_iff_lt_mul hD0.out).2 HGT.out
     unfold Hid;omega
    ·have h:=HV.out
     have h3:=HA3.out
     unfold Added at h3
     rw [HL.out] at h3
     have h4:gq * val ds=(gq - 1) * val ds+val ds:=by
      rw [← Nat.succ_mul];congr 1;omega
     unfold Hid
     cases be3 <;> simp at h h3 ⊢ <;> omega
   case measure=>simp [intOf];omega
end Go.Proofs.YteclejplbphkpaaGreat
