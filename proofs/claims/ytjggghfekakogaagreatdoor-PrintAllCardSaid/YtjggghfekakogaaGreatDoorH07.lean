/- The contracts of the document's answers for big: sums, differences. The contracts of the document's answers for big: products. The contracts of the document's answers for big: bits, powers of ten, whether two lists are one. The contracts of the document's answers for big: shifts. -/
import Derived.Test.YtjggghfekakogaaGreatDoorH06
import Derived.Deep.QuietTactic
import Derived.BigQuiet
import Derived.RegionTactic
set_option linter.unusedVariables false
set_option linter.unusedSimpArgs false
set_option linter.unnecessarySimpa false
namespace Go.Proofs.YtjggghfekakogaaGreatDoor
open Go.RowKit
set_option maxRecDepth 100000 in
set_option maxHeartbeats 800000 in
theorem refAdd_any (A:Option Addr) (xs:List UInt32) (c:Nat) (B:Option Addr) (ys:List UInt32) (d:Nat) (w:World) (hr:Rd uv w A xs) (hc:xs.length≤c) (hl:(xs.length:Int)≤100000) (hs:Rd uv w B ys) (hd:ys.length≤d) (hl2:(ys.length:Int)≤100000) :
  Calls Tryz.prog 201 #[.slice A xs.length c,.slice B ys.length d] w fun e w'=>∃ v',e = .returned v'∧Own uv 202 w' w.heap.size v' (limbs (val xs+val ys))∧Below w.heap.size w w':=by
 go_enter Tryz.func201,Tryz.ntmps201
 go_wp2_with fail
 go_loopw [5,6,7] (fun o v i wr=>∃ (k cc:Nat) (os:List UInt32),i = .int .i64 k∧v = .int .u64 cc∧cc≤1∧k+cc≤xs.length+ys.length+1∧os.length≤k∧k≤os.length ∧
  Hid (val os+cc * 4294967296 ^ k=val xs % 4294967296 ^ k+val ys % 4294967296 ^ k)∧Own uv 202 wr w.heap.size o os∧Below w.heap.size w wr) (fun _ _ i _=>xs.length+ys.length+1 - (intOf i).toNat)
 case atStart=>exact ⟨0,0,[],rfl,rfl,by omega,by omega,by simp,by simp,by unfold Hid;simp [val,Nat.mod_one],Own.nil_,Below.refl _ _⟩
 case round =>
  obtain ⟨k,cc,os,rfl,rfl,hcc,hk,ho1,ho2,HV,hown,hbel⟩:=hrel
  have hsz:=hbel.size
  have hrw:=hr.below hbel
  have hsw:=hs.below hbel
  by_cases hgo:k<xs.length∨k<ys.length∨0<cc
  ·obtain ⟨a,HX⟩:∃ a,Hid (ent xs k=a):=⟨_,rfl⟩
   obtain ⟨b,HY⟩:∃ b,Hid (ent ys k=b):=⟨_,rfl⟩
   have la:(a:Int)≤4294967295:=by rw [← HX.out];exact ent_le xs k
   have lb:(b:Int)≤4294967295:=by rw [← HY.out];exact ent_le ys k
   have hz:xs.length≤k→ys.length≤k→a=0∧b=0:=fun h1 h2=>by
    rw [← HX.out,← HY.out]
    unfold ent
    rw [List.getD,List.getD,List.getElem?_eq_none h1,List.getElem?_eq_none h2]
    exact ⟨rfl,rfl⟩
   have HZ:=Lib.hid hz
   clear hz
   by_cases g1:k<xs.length
   ·have b1:decide (k<xs.length)=true:=decide_eq_true g1
    go_wp2_with fail
    refine (refAt_any A xs c k _ hrw hc (by omega) (by omega)).mono ?_;rintro e w' ⟨rfl,rfl⟩
    rw [HX.out]
    go_wp2_with fail
    refine (refAt_any B ys d k _ hsw hd (by omega) (by omega)).mono ?_;rintro e w' ⟨rfl,rfl⟩
    rw [HY.out]
    go_wp2_with (at_builtin;go_must (refine wpList_app (f:=uv) _ uT rfl _ _ rfl uv_one w.heap.size _ os [UInt32.ofNat (cc+a+b)] rfl (hown.alloc _) _ _ rfl (Rd.one (uv_ofNat _ _ (by omega)) rfl) (by simp [maxLen];omega) (by simp;omega) (by simp;omega) ?_;intro v2 w2 hown2 hbel2))
    go_roundw
    case rel =>
     refine ⟨k+1,(cc+a+b) / 4294967296,_,by go_num,by go_num,by omega,?_,by simp;omega,by simp;omega,?_,hown2,(hbel.alloc hsz _).trans hbel2⟩
     ·omega
     ·unfold Hid
      have hlen:os.length=k:=by omega
      have:=add_step (val os) cc (4294967296 ^ k) (val xs) (val ys) (cc+a+b) (by rw [← HX.out,← HY.out,ent_val,ent_val]) HV.out
      rw [val_snoc,hlen,UInt32.toNat_ofNat',Nat.pow_succ]
      exact this
    case measure=>simp [intOf];omega
   ·have b1:decide (k<xs.length)=false:=decide_eq_false g1
    by_cases g2:k<ys.length
    ·have b2:decide (k<ys.length)=true:=decide_eq_true g2
     go_wp2_with fail
     refine (refAt_any A xs c k _ hrw hc (by omega) (by omega)).mono ?_;rintro e w' ⟨rfl,rfl⟩
     rw [HX.out]
     go_wp2_with fail
     refine (refAt_any B ys d k _ hsw hd (by omega) (by omega)).mono ?_;rintro e w' ⟨rfl,rfl⟩
     rw [HY.out]
     go_wp2_with (at_builtin;go_must (refine wpList_app (f:=uv) _ uT rfl _ _ rfl uv_one w.heap.size _ os [UInt32.ofNat (cc+a+b)] rfl (hown.alloc _) _ _ rfl (Rd.one (uv_ofNat _ _ (by omega)) rfl) (by simp [maxLen];omega) (by simp;omega) (by simp;omega) ?_;intro v2 w2 hown2 hbel2))
     go_roundw
     case rel =>
      refine ⟨k+1,(cc+a+b) / 4294967296,_,by go_num,by go_num,by omega,?_,by simp;omega,by simp;omega,?_,hown2,(hbel.alloc hsz _).trans hbel2⟩
      ·omega
      ·unfold Hid
       have hlen:os.length=k:=by omega
       have:=add_step (val os) cc (4294967296 ^ k) (val xs) (val ys) (cc+a+b) (by rw [← HX.out,← HY.out,ent_val,ent_val]) HV.out
       rw [val_snoc,hlen,UInt32.toNat_ofNat',Nat.pow_succ]
       exact this
     case measure=>simp [intOf];omega
    ·have b2:decide (k<ys.length)=false:=decide_eq_false g2
     have b3:decide (0<cc)=true:=decide_eq_true (by omega)
     obtain ⟨z1,z2⟩:=HZ.out (by omega) (by omega)
     have Z1:=Lib.hid z1
     have Z2:=Lib.hid z2
     clear z1 z2
     go_wp2_with fail
     refine (refAt_any A xs c k _ hrw hc (by omega) (by omega)).mono ?_;rintro e w' ⟨rfl,rfl⟩
     rw [HX.out]
     go_wp2_with fail
     refine (refAt_any B ys d k _ hsw hd (by omega) (by omega)).mono ?_;rintro e w' ⟨rfl,rfl⟩
     rw [HY.out]
     go_wp2_with (at_builtin;go_must (refine wpList_app (f:=uv) _ uT rfl _ _ rfl uv_one w.heap.size _ os [UInt32.ofNat (cc+a+b)] rfl (hown.alloc _) _ _ rfl (Rd.one (uv_ofNat _ _ (by omega)) rfl) (by simp [maxLen];omega) (by simp;omega) (by simp;omega) ?_;intro v2 w2 hown2 hbel2))
     go_roundw
     case rel =>
      refine ⟨k+1,(cc+a+b) / 4294967296,_,by go_num,by go_num,by omega,?_,by simp;omega,by simp;omega,?_,hown2,(hbel.alloc hsz _).trans hbel2⟩
      ·have:=Z1.out;have:=Z2.out;omega
      ·unfold Hid
       have hlen:os.length=k:=by omega
       have:=add_step (val os) cc (4294967296 ^ k) (val xs) (val ys) (cc+a+b) (by rw [← HX.out,← HY.out,ent_val,ent_val]) HV.out
       rw [val_snoc,hlen,UInt32.toNat_ofNat',Nat.pow_succ]
       exact this
     case measure=>simp [intOf];omega
  ·have b1:decide (k<xs.length)=false:=decide_eq_false (by omega)
   have b2:decide (k<ys.length)=false:=decide_eq_false (by omega)
   have b3:decide (0<cc)=false:=decide_eq_false (by omega)
   have hfin:Hid (val os=val xs+val ys):=by
    unfold Hid
    have h:=HV.out
    have h1:=val_lt xs
    have h2:=val_lt ys
    have h3:4294967296 ^ xs.length≤4294967296 ^ k:=Nat.pow_le_pow_right (by decide) (by omega)
    have h4:4294967296 ^ ys.length≤4294967296 ^ k:=Nat.pow_le_pow_right (by decide) (by omega)
    rw [Nat.mod_eq_of_lt (Nat.lt_of_lt_of_le h1 h3),Nat.mod_eq_of_lt (Nat.lt_of_lt_of_le h2 h4),show cc=0 from by omega] at h
    omega
   obtain ⟨A2,c2,rfl,hc2,hm2,hr2⟩:=hown.sl
   go_wp2_with fail
   refine (refNorm_any A2 os c2 _ hr2 hc2 hm2 (by omega)).mono ?_;rintro e w2 ⟨v2,rfl,hown2,hb2⟩
   rw [hfin.out] at hown2
   go_wp2_with fail
   go_ret
   exact ⟨_,rfl,hown2.less hsz,nx hbel hb2⟩
set_option maxRecDepth 100000 in
set_option maxHeartbeats 800000 in
theorem refSub_any (A:Option Addr) (xs:List UInt32) (c:Nat) (B:Option Addr) (ys:List UInt32) (d:Nat) (w:World) (hr:Rd uv w A xs) (hc:xs.length≤c) (hl:(xs.length:Int)≤100000) (hs:Rd uv w B ys) (hd:ys.length≤d) (hl2:(ys.length:Int)≤100000) :
  Calls Tryz.prog 242 #[.slice A xs.length c,.slice B ys.length d] w fun e w'=>∃ v' is,e = .returned (.tuple #[v',.bool is])∧SubIs w w' (val xs) (val ys) v' is∧Below w.heap.size w w':=by
 obtain ⟨C,HC⟩:∃ C,Hid (cmpI (val xs) (val ys)=C):=⟨_,rfl⟩
 by_cases hlt:val xs<val ys
 ·have hC:C = -1:=by rw [← HC.out,cmpI,if_pos hlt]
  have HL:=Lib.hid hlt
  clear hlt
  subst hC
  go_enter Tryz.func242,Tryz.ntmps242
  go_wp2_with fail
  refine (refCmp_any A xs c B ys d _ hr hc (by omega) hs hd (by omega)).mono ?_;rintro e w' ⟨rfl,rfl⟩
  rw [HC.out]
  go_wp2_with fail
  go_ret2
  refine ⟨_,_,rfl,?_,Below.refl _ _⟩
  unfold SubIs
  rw [if_pos HL.out]
  exact ⟨rfl,rfl⟩
 ·have hC:0≤C:=by rw [← HC.out,cmpI,if_neg hlt];split <;> omega
  have HL:=Lib.hid hlt
  clear hlt
  go_enter Tryz.func242,Tryz.ntmps242
  go_wp2_with fail
  refine (refCmp_any A xs c B ys d _ hr hc (by omega) hs hd (by omega)).mono ?_;rintro e w' ⟨rfl,rfl⟩
  rw [HC.out]
  have hC2:decide (C<0)=false:=decide_eq_false (by omega)
  go_wp2_with fail
  go_loopw [6,7,8] (fun o v i wr=>∃ (k bo:Nat) (os:List UInt32),i = .int .i64 k∧v = .int .u64 bo∧bo≤1∧k≤xs.length∧os.length≤k∧k≤os.length ∧
   Hid (val os+val ys % 4294967296 ^ k=val xs % 4294967296 ^ k+bo * 4294967296 ^ k)∧Own uv 202 wr w.heap.size o os∧Below w.heap.size w wr) (fun _ _ i _=>xs.length - (intOf i).toNat)
  case atStart=>exact ⟨0,0,[],rfl,rfl,by omega,by omega,by simp,by simp,by unfold Hid;simp [val,Nat.mod_one],Own.nil_,Below.refl _ _⟩
  case round =>
   obtain ⟨k,bo,os,rfl,rfl,hbo,hk,ho1,ho2,HV,hown,hbel⟩:=hrel
   have hsz:=hbel.size
   have hrw:=hr.below hbel
   have hsw:=hs.below hbel
   by_cases g1:k<xs.length
   ·obtain ⟨a,HX⟩:∃ a,Hid (ent xs k=a):=⟨_,rfl⟩
    obtain ⟨b,HY⟩:∃ b,Hid (ent ys k=b):=⟨_,rfl⟩
    have la:(a:Int)≤4294967295:=by rw [← HX.out];exact ent_le xs k
    have lb:(b:Int)≤4294967295:=by rw [← HY.out];exact ent_le ys k
    have b1:decide (k<xs.length)=true:=decide_eq_true g1
    go_wp2_with fail
    refine (refAt_any A xs c k _ hrw hc (by omega) (by omega)).mono ?_;rintro e w' ⟨rfl,rfl⟩
    rw [HX.out]
    go_wp2_with fail
    refine (refAt_any B ys d k _ hsw hd (by omega) (by omega)).mono ?_;rintro e w' ⟨rfl,rfl⟩
    rw [HY.out]
    go_wp2_with (at_builtin;go_must (refine wpList_app (f:=uv) _ uT rfl _ _ rfl uv_one w.heap.size _ os [UInt32.ofNat (a+4294967296 - b - bo)] rfl (hown.alloc _) _ _ rfl (Rd.one (uv_ofNat _ _ (by omega)) rfl) (by simp [maxLen];omega) (by simp;omega) (by simp;omega) ?_;intro v2 w2 hown2 hbel2))
    go_roundw
    case rel =>
     refine ⟨k+1,1 - (a+4294967296 - b - bo) / 4294967296,_,by go_num,by go_num,by omega,by omega,by simp;omega,by simp;omega,?_,hown2,(hbel.alloc hsz _).trans hbel2⟩
     unfold Hid
     have hlen:os.length=k:=by omega
     have hX:=ent_val xs k
     have hY:=ent_val ys k
     rw [HX.out] at hX
     rw [HY.out] at hY
     have:=sub_step (val os) bo (4294967296 ^ k) (val xs) (val ys) (a+4294967296 - b - bo) (1 - (a+4294967296 - b - bo) / 4294967296) (by rw [← hX,← hY];omega) (by omega) HV.out
     rw [val_snoc,hlen,UInt32.toNat_ofNat',Nat.pow_succ]
     exact this
    case measure=>simp [intOf];omega
   ·obtain rfl:k=xs.length:=by omega
    have b1:decide (xs.length<xs.length)=false:=decide_eq_false (by omega)
    have hfin:Hid (val os=val xs - val ys):=by
     unfold Hid
     have h:=HV.out
     have h1:=val_lt xs
     have h2:=HL.out
     have h3:=val_lt os
     rw [show os.length=xs.length from by omega] at h3
     rw [Nat.mod_eq_of_lt h1,Nat.mod_eq_of_lt (by omega)] at h
     rcases (by omega:bo=0∨bo=1) with rfl | rfl <;> omega
    obtain ⟨A2,c2,rfl,hc2,hm2,hr2⟩:=hown.sl
    go_wp2_with fail
    refine (refNorm_any A2 os c2 _ hr2 hc2 hm2 (by omega)).mono ?_;rintro e w2 ⟨v2,rfl,hown2,hb2⟩
    rw [hfin.out] at hown2
    go_wp2_with fail
    go_ret2
    refine ⟨_,_,rfl,?_,nx hbel hb2⟩
    unfold SubIs
    rw [if_neg HL.out]
    exact ⟨hown2.less hsz,rfl⟩
end Go.Proofs.YtjggghfekakogaaGreatDoor
namespace Go.Proofs.YtjggghfekakogaaGreatDoor
open Go.RowKit
set_option maxRecDepth 100000 in
set_option maxHeartbeats 1600000 in
theorem refMul_any (A:Option Addr) (xs:List UInt32) (c:Nat) (B:Option Addr) (ys:List UInt32) (d:Nat) (w:World) (hr:Rd uv w A xs) (hc:xs.length≤c) (hl:(xs.length:Int)≤100000) (hs:Rd uv w B ys) (hd:ys.length≤d) (hl2:(ys.length:Int)≤100000) :
  Calls Tryz.prog 197 #[.slice A xs.length c,.slice B ys.length d] w fun e w'=>∃ v',e = .returned v'∧Own uv 202 w' w.heap.size v' (limbs (val xs * val ys))∧Below w.heap.size w w':=by
 go_enter Tryz.func197,Tryz.ntmps197
 go_wp2_with (at_make;go_must (refine wpList_mkz (f:=uv) _ uT 0 uZ rfl rfl _ _ rfl w.heap.size _ _ ((xs.length:Int)+ys.length+1) rfl rfl (by omega) (by omega) (by omega) (Nat.le_refl _) ?_;intro v1 w1 zs hg1 HZ1 hz1 hz2 hb1))
 rcases id hg1 with ⟨h0,h0'⟩ | ⟨g,off,cap,rfl,hBg,hgl,hn3,hm3,-,-⟩
 ·exfalso;have:zs.length=0:=by rw [h0'];rfl
  omega
 have hn:zs.length=xs.length+ys.length+1:=by omega
 have HN:=Lib.hid hn
 have hnA:xs.length+ys.length+1≤zs.length:=by omega
 have hnB:zs.length≤xs.length+ys.length+1:=by omega
 clear hn hz1 hz2
 have HG1:=Lib.hid hg1
 clear hg1 hn3 hm3
 go_loopw [6] (fun v wr=>∃ (i:Nat) (os:List UInt32),v = .int .i64 i∧i≤xs.length∧os.length≤zs.length∧zs.length≤os.length∧Hid (val os=val (xs.take i) * val ys)∧Hid (∀ j,i+ys.length≤j→os.getD j 0=0) ∧
  OwnG uv wr w.heap.size (.slice (some ⟨g,off,none⟩) os.length cap) os∧Below w.heap.size w wr) (fun v _=>xs.length - (intOf v).toNat)
 case atStart =>
  refine ⟨0,zs,rfl,Nat.zero_le _,Nat.le_refl _,Nat.le_refl _,?_,?_,HG1.out,hb1⟩
  ·unfold Hid;rw [HZ1.out,val_zeros];simp [val]
  ·intro j _;rw [HZ1.out];simp [List.getD,List.getElem?_replicate];split <;> rfl
 case round =>
  obtain ⟨i,os,rfl,hi,ho1,ho2,HV,HE,hown,hbel⟩:=hrel
  by_cases hlt:i<xs.length
  ·obtain ⟨a,HX⟩:∃ a,Hid (ent xs i=a):=⟨_,rfl⟩
   have la:(a:Int)≤4294967295:=by rw [← HX.out];exact ent_le xs i
   have b0:decide (i<xs.length)=true:=decide_eq_true hlt
   have HO:=Lib.hid hown
   clear hown
   go_wp2_with fail
   obtain ⟨wo,rfl⟩:∃ wo:World,wo=wr:=⟨_,rfl⟩
   go_loopw [7,8] (fun v u wq=>∃ (k cc:Nat) (us:List UInt32),u = .int .i64 k∧v = .int .u64 cc∧(cc:Int)≤4294967295∧k≤ys.length∧us.length≤zs.length∧zs.length≤us.length ∧
    Hid (val us+cc * 4294967296 ^ (i+k)=val (xs.take i) * val ys+a * (val ys % 4294967296 ^ k) * 4294967296 ^ i)∧Hid (∀ j,i+ys.length≤j→us.getD j 0=0) ∧
    OwnG uv wq w.heap.size (.slice (some ⟨g,off,none⟩) us.length cap) us∧Below w.heap.size w wq) (fun _ u _=>ys.length - (intOf u).toNat)
   case atStart=>exact ⟨0,0,os,rfl,rfl,by omega,Nat.zero_le _,ho1,ho2,by unfold Hid;rw [HV.out];simp [Nat.mod_one],HE,HO.out,hbel⟩
   case round =>
    obtain ⟨k,cc,us,rfl,rfl,hcc,hk,hu1,hu2,HU,HF,hgw,hbw⟩:=hrel
    by_cases hlk:k<ys.length
    ·obtain ⟨b,HY⟩:∃ b,Hid (ent ys k=b):=⟨_,rfl⟩
     obtain ⟨o,HO2⟩:∃ o,Hid (ent us (i+k)=o):=⟨_,rfl⟩
     have lb:(b:Int)≤4294967295:=by rw [← HY.out];exact ent_le ys k
     have lo:(o:Int)≤4294967295:=by rw [← HO2.out];exact ent_le us (i+k)
     have lab:(a:Int) * (b:Int)≤18446744065119617025:=by
      have:=Int.mul_le_mul la lb (by omega) (by omega)
      omega
     have lab0:0≤(a:Int) * (b:Int):=Int.mul_nonneg (by omega) (by omega)
     obtain ⟨bx,offx,eA,hbx,hcx⟩:=(hr.below hbw).at_ (k:=i) hlt
     obtain ⟨by_,offy,eB,hby,hcy⟩:=(hs.below hbw).at_ (k:=k) hlk
     subst eA
     subst eB
     rcases id hgw with ⟨h0,_⟩ | ⟨g0,off0,cap0,h0,_,hg0,hn0,hm0,hsp0,hcs0⟩
     ·cases h0
     cases h0
     obtain ⟨-,hf1⟩:=hsp0 (i+k) (by omega)
     have hco:=hcs0 (i+k) (by omega)
     clear hsp0 hcs0 hn0
     have vx:uv xs[i] = .int .u32 (a:Int):=by rw [← HX.out,uv,ent,List.getD,List.getElem?_eq_getElem hlt];rfl
     have vy:uv ys[k] = .int .u32 (b:Int):=by rw [← HY.out,uv,ent,List.getD,List.getElem?_eq_getElem hlk];rfl
     have vo:uv (us[i+k]'(by omega)) = .int .u32 (o:Int):=by rw [← HO2.out,uv,ent,List.getD,List.getElem?_eq_getElem (by omega)];rfl
     rw [vx] at hcx
     rw [vy] at hcy
     rw [vo] at hco
     have hst:=hgw.set_ (i:=i+k) (y:=UInt32.ofNat (cc+o+a * b)) (by omega)
     have hbs:=hbw.setCell (p:=⟨g,off+(i+k),none⟩) hBg (uv (UInt32.ofNat (cc+o+a * b)))
     have HST:=Lib.hid hst
     have HBS:=Lib.hid hbs
     clear hst hbs vx vy vo hgw
     have b1:decide (k<ys.length)=true:=decide_eq_true hlk
     go_upto_region 9 with (fail)
     go_region
     all_goals go_wp2_with fail
     go_roundw
     case rel =>
      have hcast:((cc+o+a * b:Nat):Int)=(cc:Int)+o+(a:Int) * b:=by rw [Int.natCast_add,Int.natCast_add,Int.natCast_mul]
      have hu:Value.int .u32 (((cc:Int)+o+(a:Int) * b) % 4294967296)=uv (UInt32.ofNat (cc+o+a * b)):=uv_ofNat _ _ (by omega)
      have hS:cc+o+a * b≤18446744073709551615:=by omega
      rw [hu]
      refine ⟨k+1,(cc+o+a * b) / 4294967296,us.set (i+k) (UInt32.ofNat (cc+o+a * b)),by go_num,congrArg (Value.int IntKind.u64) (by omega),by omega,by omega,by simpa using hu1,by simpa using hu2,?_,?_,OwnG.drew HST.out,HBS.out.drew⟩
      ·unfold Hid
       have hset:=val_set us (i+k) (by omega) (UInt32.ofNat (cc+o+a * b))
       have ho:(us.getD (i+k) 0).toNat=o:=HO2.out
       rw [ho,UInt32.toNat_ofNat'] at hset
       have hyk:b=val ys / 4294967296 ^ k % 4294967296:=by rw [← HY.out,ent_val]
       have:=mul_step (val us) _ cc (4294967296 ^ (i+k)) (4294967296 ^ i) (val (xs.take i) * val ys) a b o (cc+o+a * b) (val ys) (4294967296 ^ k) (Nat.pow_add _ _ _) rfl hyk hset HU.out
       rw [← Nat.add_assoc,Nat.pow_succ,Nat.pow_succ]
       exact this
      ·intro j hj
       have:=HF.out j hj
       rw [List.getD,List.getElem?_set_ne (by omega)]
       exact this
     case measure=>simp [intOf];omega
    ·obtain rfl:k=ys.length:=by omega
     have b1:decide (ys.length<ys.length)=false:=decide_eq_false (by omega)
     rcases id hgw with ⟨h0,_⟩ | ⟨g0,off0,cap0,h0,_,hg0,hn0,hm0,hsp0,hcs0⟩
     ·cases h0
     cases h0
     obtain ⟨-,hf1⟩:=hsp0 (i+ys.length) (by omega)
     have hco:=hcs0 (i+ys.length) (by omega)
     clear hsp0 hcs0 hn0
     unfold uv at hco
     have hst:=hgw.set_ (i:=i+ys.length) (y:=UInt32.ofNat cc) (by omega)
     have hbs:=hbw.setCell (p:=⟨g,off+(i+ys.length),none⟩) hBg (uv (UInt32.ofNat cc))
     have HST:=Lib.hid hst
     have HBS:=Lib.hid hbs
     clear hst hbs hgw
     go_wp2_with fail
     go_roundw
     case rel =>
      have hu:Value.int .u32 (cc:Int)=uv (UInt32.ofNat cc):=uv_ofNat _ _ (by omega)
      rw [hu]
      refine ⟨i+1,us.set (i+ys.length) (UInt32.ofNat cc),by go_num,by omega,by simpa using hu1,by simpa using hu2,?_,?_,HST.out,HBS.out⟩
      ·unfold Hid
       have hset:=val_set us (i+ys.length) (by omega) (UInt32.ofNat cc)
       have hz:(us.getD (i+ys.length) 0).toNat=0:=by rw [HF.out _ (Nat.le_refl _)];rfl
       have hcc':(UInt32.ofNat cc).toNat=cc:=by rw [UInt32.toNat_ofNat'];exact Nat.mod_eq_of_lt (by omega)
       rw [hz,hcc',Nat.mul_zero,Nat.add_zero] at hset
       have hU:=HU.out
       rw [Nat.mod_eq_of_lt (val_lt ys)] at hU
       rw [hset,List.take_succ_eq_append_getElem hlt,val_snoc,List.length_take,Nat.min_eq_left (by omega),Nat.add_mul,Nat.mul_comm (4294967296 ^ (i+ys.length)),hU]
       have hx:xs[i].toNat=a:=by rw [← HX.out,ent,List.getD,List.getElem?_eq_getElem hlt];rfl
       rw [hx,Nat.mul_comm (4294967296 ^ i) a,Nat.mul_assoc a,Nat.mul_assoc a,Nat.mul_comm (val ys)]
      ·intro j hj
       have:=HF.out j (by omega)
       rw [List.getD,List.getElem?_set_ne (by omega)]
       exact this
     case measure=>simp [intOf];omega
  ·obtain rfl:i=xs.length:=by omega
   have b0:decide (xs.length<xs.length)=false:=decide_eq_false (by omega)
   have hfin:Hid (val os=val xs * val ys):=by unfold Hid;rw [HV.out,List.take_length]
   have hl3:os.length=zs.length:=by omega
   obtain ⟨A2,c2,e2,hc2,hm2,hr2⟩:=hown.sl
   cases e2
   have h1000:(os.length:Int)≤1000000:=by omega
   have hsz:=hbel.size
   have HL3:=Lib.hid hl3
   clear hl3
   go_wp2_with fail
   rw [← HL3.out]
   refine (refNorm_any (some ⟨g,off,none⟩) os cap _ hr2 hc2 hm2 h1000).mono ?_;rintro e w2 ⟨v2,rfl,hown2,hb2⟩
   rw [hfin.out] at hown2
   go_wp2_with fail
   go_ret
   exact ⟨_,rfl,hown2.less hsz,nx hbel hb2⟩
end Go.Proofs.YtjggghfekakogaaGreatDoor
namespace Go.Proofs.YtjggghfekakogaaGreatDoor
open Go.RowKit
set_option maxRecDepth 100000 in
set_option maxHeartbeats 800000 in
theorem refBit_any (A:Option Addr) (xs:List UInt32) (c:Nat) (i:Nat) (w:World) (hr:Rd uv w A xs) (hc:xs.length≤c) (hl:(xs.length:Int)≤1000000) (hi:(i:Int)≤1000000000) :
  Calls Tryz.prog 241 #[.slice A xs.length c,.int .i64 i] w fun e w'=>e = .returned (.int .u64 (val xs / 2 ^ i % 2:Nat))∧w=w':=by
 obtain ⟨a,HX⟩:∃ a,Hid (ent xs (i / 32)=a):=⟨_,rfl⟩
 have la:(a:Int)≤4294967295:=by rw [← HX.out];exact ent_le xs _
 have HB:Hid (a / 2 ^ (i % 32) % 2=val xs / 2 ^ i % 2):=by unfold Hid;rw [← HX.out];exact bit_val xs i
 have hand:=Lib.hid (and_one64 a (i % 32) la)
 go_enter Tryz.func241,Tryz.ntmps241
 go_wp2_with fail
 refine (refAt_any A xs c (i / 32) _ hr hc hl (by omega)).mono ?_;rintro e w' ⟨rfl,rfl⟩
 rw [HX.out]
 go_wp2_with fail
 go_ret
 refine ⟨?_,rfl⟩
 rw [← HB.out,← hand.out]
 rfl
set_option maxRecDepth 100000 in
set_option maxHeartbeats 800000 in
theorem refBits_any (A:Option Addr) (xs:List UInt32) (c:Nat) (w:World) (hr:Rd uv w A xs) (hc:xs.length≤c) (hm:c≤maxLen) (hl:(xs.length:Int)≤200000) :
  Calls Tryz.prog 195 #[.slice A xs.length c] w fun e w'=>e = .returned (.int .i64 (blen (val xs):Nat))∧Below w.heap.size w w':=by
 go_enter Tryz.func195,Tryz.ntmps195
 go_wp2_with fail
 refine (refNorm_any A xs c _ hr hc hm (by omega)).mono ?_;rintro e w1 ⟨v1,rfl,hown1,hb1⟩
 have hlen:(limbs (val xs)).length≤xs.length:=limbs_len _ _ (val_lt xs)
 obtain ⟨A1,c1,ys,rfl,HY,hy1,hy2,hc1,hm1,hr1,-⟩:=hown1.name (limbs (val xs)).length rfl
 have HV:Hid (val ys=val xs):=by unfold Hid;rw [HY.out,val_limbs]
 have hyl:(ys.length:Int)≤200000:=by omega
 clear hlen hy1 hy2 HY hown1
 go_wp2_with fail
 go_loop [4] (fun v=>∃ n:Nat,v = .int .i64 n∧n≤32 * ys.length∧Hid (val xs<2 ^ n)) (fun v=>(intOf v).toNat)
 case atStart =>
  refine ⟨32 * ys.length,by go_num,Nat.le_refl _,?_⟩
  unfold Hid
  rw [← HV.out,Nat.pow_mul]
  exact val_lt ys
 case round =>
  obtain ⟨n,rfl,hn,HN⟩:=hrel
  rcases n with _ | n
  ·have hfin:Hid (blen (val xs)=0):=by
    unfold Hid blen
    have:=HN.out
    rw [if_pos (by simpa using this)]
   go_wp2_with fail
   go_ret
   refine ⟨?_,hb1⟩
   rw [hfin.out]
   rfl
  ·obtain ⟨b,HB⟩:∃ b,Hid (val ys / 2 ^ n % 2=b):=⟨_,rfl⟩
   have hb2:b≤1:=by rw [← HB.out];omega
   have ht:=top_bit (val xs) n HN.out
   rw [← HV.out,HB.out] at ht
   have HT:=Lib.hid ht
   clear ht
   by_cases h0:b=0
   ·subst h0
    go_wp2_with fail
    refine (refBit_any A1 ys c1 n _ hr1 hc1 (by omega) (by omega)).mono ?_;rintro e w' ⟨rfl,rfl⟩
    rw [HB.out]
    go_wp2_with fail
    go_round
    case rel=>exact ⟨n,by go_num,by omega,by unfold Hid;rw [← HV.out];exact HT.out.1 (by trivial)⟩
    case measure=>simp [intOf]
   ·obtain rfl:b=1:=by omega
    have hfin:Hid (blen (val xs)=n+1):=(bits_unique _ _ HN.out (.inr (by rw [← HV.out];exact HT.out.2 (by decide)))).symm
    go_wp2_with fail
    refine (refBit_any A1 ys c1 n _ hr1 hc1 (by omega) (by omega)).mono ?_;rintro e w' ⟨rfl,rfl⟩
    rw [HB.out]
    go_wp2_with fail
    go_ret
    refine ⟨?_,hb1⟩
    rw [hfin.out]
    rfl
end Go.Proofs.YtjggghfekakogaaGreatDoor
namespace Go.Proofs.YtjggghfekakogaaGreatDoor
open Go.RowKit
set_option maxRecDepth 100000 in
set_option maxHeartbeats 1600000 in
theorem refShl_any (A:Option Addr) (xs:List UInt32) (c:Nat) (n:Int) (w:World) (hr:Rd uv w A xs) (hc:xs.length≤c) (hm:c≤maxLen) (hl:(xs.length:Int)≤100000) (hn1 : -100000≤n) (hn2:n≤100000) :
  Calls Tryz.prog 194 #[.slice A xs.length c,.int .i64 n] w fun e w'=>∃ v',e = .returned v'∧Own uv 202 w' w.heap.size v' (limbs (shF (val xs) n (32 * xs.length)))∧Below w.heap.size w w':=by
 obtain ⟨m,hm1,hm2,hm3⟩:∃ m:Int,0≤m∧n≤m∧m=max n 0:=⟨max n 0,by omega,by omega,rfl⟩
 go_enter Tryz.func194,Tryz.ntmps194
 go_upto_region 1 with (fail)
 go_cut [5] (fun v wx=>∃ zs:List UInt32,OwnG uv wx w.heap.size v zs∧Hid (zs=List.replicate zs.length 0)∧Below w.heap.size w wx∧1≤zs.length∧zs.length≤200000∧∀ i p:Nat,i<32 * xs.length→(i:Int)+n=p→p / 32<zs.length)
 case first =>
  by_cases hneg:n<0
  ·go_wp2_with (at_make;go_must (refine wpList_mkz (f:=uv) _ uT 0 uZ rfl rfl _ _ rfl w.heap.size _ _ _ rfl rfl (by omega) (by omega) (by omega) (Nat.le_refl _) ?_;intro v1 w1 zs hg1 HZ1 hz1 hz2 hb1))
   go_meet
   refine ⟨zs,hg1,?_,hb1,by omega,by omega,fun i p hi hp=>by omega⟩
   unfold Hid
   rw [HZ1.out,List.length_replicate]
  ·go_wp2_with (at_make;go_must (refine wpList_mkz (f:=uv) _ uT 0 uZ rfl rfl _ _ rfl w.heap.size _ _ _ rfl rfl (by omega) (by omega) (by omega) (Nat.le_refl _) ?_;intro v1 w1 zs hg1 HZ1 hz1 hz2 hb1))
   go_meet
   refine ⟨zs,hg1,?_,hb1,by omega,by omega,fun i p hi hp=>by omega⟩
   unfold Hid
   rw [HZ1.out,List.length_replicate]
 case rest =>
  obtain ⟨zs,hg1,HZ1,hb1,hz1',hzl,hin⟩:=hcut
  have HIN:=Lib.hid hin
  clear hin
  rcases id hg1 with ⟨h0,h0'⟩ | ⟨g,off,cap,rfl,hBg,hgl,hn3,hm3',-,-⟩
  ·exfalso
   have:zs.length=0:=by rw [h0'];rfl
   omega
  have HG1:=Lib.hid hg1
  clear hg1 hn3 hm3'
  go_wp2_with fail
  go_loopw [6] (fun v wr=>∃ (i:Nat) (os:List UInt32),v = .int .i64 i∧i≤32 * xs.length∧os.length≤zs.length∧zs.length≤os.length∧Hid (val os=shF (val xs) n i) ∧
   OwnG uv wr w.heap.size (.slice (some ⟨g,off,none⟩) os.length cap) os∧Below w.heap.size w wr) (fun v _=>32 * xs.length - (intOf v).toNat)
  case atStart =>
   refine ⟨0,zs,rfl,Nat.zero_le _,Nat.le_refl _,Nat.le_refl _,?_,HG1.out,hb1⟩
   unfold Hid shF
   rw [HZ1.out,val_zeros]
   simp [Nat.mod_one]
  case round =>
   obtain ⟨i,os,rfl,hi,ho1,ho2,HV,hown,hbel⟩:=hrel
   by_cases hlt:i<32 * xs.length
   ·obtain ⟨b,HB⟩:∃ b,Hid (val xs / 2 ^ i % 2=b):=⟨_,rfl⟩
    have hb2:b≤1:=by rw [← HB.out];omega
    have hrw:=hr.below hbel
    by_cases h0:b=0
    ·subst h0
     have HS:Hid (shF (val xs) n (i+1)=shF (val xs) n i):=shF_skip _ _ _ (.inl HB.out)
     go_wp2_with fail
     refine (refBit_any A xs c i _ hrw hc (by omega) (by omega)).mono ?_;rintro e w' ⟨rfl,rfl⟩
     rw [HB.out]
     go_wp2_with fail
     go_roundw
     case rel=>exact ⟨i+1,os,by go_num,by omega,ho1,ho2,by unfold Hid;rw [HS.out];exact HV,hown,hbel⟩
     case measure=>simp [intOf];omega
    ·obtain rfl:b=1:=by omega
     by_cases hneg:(i:Int)+n<0
     ·have HS:Hid (shF (val xs) n (i+1)=shF (val xs) n i):=shF_skip _ _ _ (.inr hneg)
      have hd:decide (0≤(i:Int)+n)=false:=decide_eq_false (by omega)
      go_wp2_with fail
      refine (refBit_any A xs c i _ hrw hc (by omega) (by omega)).mono ?_;rintro e w' ⟨rfl,rfl⟩
      rw [HB.out]
      go_wp2_with fail
      go_roundw
      case rel=>exact ⟨i+1,os,by go_num,by omega,ho1,ho2,by unfold Hid;rw [HS.out];exact HV,hown,hbel⟩
      case measure=>simp [intOf];omega
     ·obtain ⟨p,hp⟩:=Int.eq_ofNat_of_zero_le (a:=(i:Int)+n) (by omega)
      have HP:=Lib.hid hp
      have hp2:p≤10000000:=by omega
      have hidx:p / 32<zs.length:=HIN.out i p hlt hp
      have hset:=shF_set (val xs) n i p HB.out hp
      have HS:=Lib.hid hset
      clear hset
      rcases id hown with ⟨h0,_⟩ | ⟨g0,off0,cap0,h0,_,hg0,hn0,hm0,hsp0,hcs0⟩
      ·cases h0
      cases h0
      obtain ⟨-,hf1⟩:=hsp0 (p / 32) (by omega)
      have hco:=hcs0 (p / 32) (by omega)
      obtain ⟨ev,HE⟩:∃ ev,Hid (ent os (p / 32)=ev):=⟨_,rfl⟩
      have vo:uv (os[p / 32]'(by omega)) = .int .u32 (ev:Int):=by rw [← HE.out,uv,ent,List.getD,List.getElem?_eq_getElem (by omega)];rfl
      rw [vo] at hco
      have hlow:ev<2 ^ (p % 32):=by rw [← HE.out];exact shF_low os p (by rw [HV.out];exact HS.out.2)
      have hob:=or_bit ev (p % 32) (by omega) hlow
      have HOB:=Lib.hid hob
      have hst:=hown.set_ (i:=p / 32) (y:=UInt32.ofNat (ev+2 ^ (p % 32))) (by omega)
      have hbs:=hbel.setCell (p:=⟨g,off+p / 32,none⟩) hBg (uv (UInt32.ofNat (ev+2 ^ (p % 32))))
      have HST:=Lib.hid hst
      have HBS:=Lib.hid hbs
      have HL:=Lib.hid hlow
      clear hst hbs hsp0 hcs0 hn0 vo hown hob hlow
      go_wp2_with fail
      refine (refBit_any A xs c i _ hrw hc (by omega) (by omega)).mono ?_;rintro e w' ⟨rfl,rfl⟩
      rw [HB.out]
      go_upto_region 6 with (fail)
      have x1:(0:Int)≤(p:Int) / 32:=by omega
      have x2:(p:Int) / 32<(zs.length:Int):=by omega
      have x3:((p:Int) / 32).toNat=p / 32:=by omega
      have x4:(0:Int)≤(p:Int) % 32:=by omega
      have x5:(p:Int) % 32≤32:=by omega
      have x6:((p:Int) % 32).toNat=p % 32:=by omega
      go_region
      all_goals clear x1 x2 x3 x4 x5 x6
      all_goals go_wp2_with fail
      go_roundw
      case rel =>
       have hob:=HOB.out
       have hcast:((ev+2 ^ (p % 32):Nat):Int)=(((ev+2 ^ (p % 32)) % 4294967296:Nat):Int):=by rw [Nat.mod_eq_of_lt hob.2]
       rw [hob.1,uv_ofNat _ _ hcast]
       refine ⟨i+1,os.set (p / 32) (UInt32.ofNat (ev+2 ^ (p % 32))),by go_num,by omega,by simpa using ho1,by simpa using ho2,?_,OwnG.drew HST.out,HBS.out.drew⟩
       unfold Hid
       have hset:=val_set os (p / 32) (by omega) (UInt32.ofNat (ev+2 ^ (p % 32)))
       have he:(os.getD (p / 32) 0).toNat=ev:=HE.out
       rw [he,UInt32.toNat_ofNat',Nat.mod_eq_of_lt hob.2,Nat.mul_add,pow_split] at hset
       rw [HS.out.1,← HV.out]
       omega
      case measure=>simp [intOf];omega
   ·obtain rfl:i=32 * xs.length:=by omega
    obtain ⟨A2,c2,e2,hc2,hm2,hr2⟩:=hown.sl
    cases e2
    have h1000:(os.length:Int)≤1000000:=by omega
    have hsz:=hbel.size
    have HL3:Hid (os.length=zs.length):=by unfold Hid;omega
    have hlt':¬ (((32 * xs.length:Nat):Int)<32 * (xs.length:Int)):=by omega
    go_wp2_with fail
    rw [← HL3.out]
    refine (refNorm_any (some ⟨g,off,none⟩) os cap _ hr2 hc2 hm2 h1000).mono ?_;rintro e w2 ⟨v2,rfl,hown2,hb2⟩
    rw [HV.out] at hown2
    go_wp2_with fail
    go_ret
    exact ⟨_,rfl,hown2.less hsz,nx hbel hb2⟩
end Go.Proofs.YtjggghfekakogaaGreatDoor
