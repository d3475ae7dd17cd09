/- The contract of the document's answer for dec: the nearest binary64 to a fraction. The contract of the document's answer for dec: the binary64 nearest to an integer. The contracts of the document's answers for big: powers of ten. The type of slices of bytes, and of bytes. The contracts of the document's own texts of numbers. -/
import Derived.Test.YtjggghfekakogaaGreatG10
import Derived.Test.YtjggghfekakogaaGreatProg
import Derived.Test.YtjggghfekakogaaGreatG00
import Derived.Test.YtjggghfekakogaaGreatG09
import Derived.WalkSpells
set_option linter.unusedVariables false
set_option linter.unusedSimpArgs false
set_option linter.unnecessarySimpa false
namespace Go.Proofs.YtjggghfekakogaaGreat
open Go.RowKit
theorem pow32 (k j:Nat) (h:j<32 * k):2 ^ j<4294967296 ^ k:=by
 rw [show (4294967296:Nat)=2 ^ 32 from rfl,← Nat.pow_mul];exact Nat.pow_lt_pow_right (by decide) h
theorem refBit_n (v:Value) (a i K:Nat) (w:World) (h:Num w v a K) (hK:(K:Int)≤5000) (hi:(i:Int)≤1000000000) :
  Calls Tryz.prog 69 #[v,.int .i64 i] w fun e w'=>e = .returned (.int .u64 (a / 2 ^ i % 2:Nat))∧w=w':=by
 obtain ⟨A,c,xs,rfl,h2,h3,h4,h5,rfl⟩:=h
 exact refBit_any A xs c i w h2 h3 (by omega) hi
theorem log_lt (n k:Nat) (h0:n≠0) (h:n<4294967296 ^ k):Nat.log2 n<32 * k:=by
 rw [Nat.log2_lt h0,Nat.pow_mul];exact h
theorem lev_le (x y:Nat) (hy:0<y) (hx:x≠0) (k:Nat) (hk:x<4294967296 ^ k):lev (x * 2 ^ tz) y≤32 * k+1074:=by
 rcases lev_ge (x * 2 ^ tz) y hy with h | h
 ·omega
 ·rcases Nat.lt_or_ge (32 * k+1074) (lev (x * 2 ^ tz) y) with h1 | h1
  ·exfalso
   have h2:x * 2 ^ tz<2 ^ (32 * k) * 2 ^ tz:=Nat.mul_lt_mul_of_pos_right (by rw [Nat.pow_mul];exact hk) (Nat.pow_pos (by decide))
   rw [← Nat.pow_add] at h2
   have h3:2 ^ (32 * k+tz)≤2 ^ (lev (x * 2 ^ tz) y+52):=Nat.pow_le_pow_right (by decide) (by have:=tz_eq;omega)
   have h4:2 ^ (lev (x * 2 ^ tz) y+52)≤y * 2 ^ (lev (x * 2 ^ tz) y+52):=Nat.le_mul_of_pos_left _ hy
   omega
  ·exact h1
structure Seen (x y:Nat) (e:Int) (E a b:Nat):Prop where
 lo:E<lev (x * 2 ^ tz) y→53<blen (a / b)
 hi:E=lev (x * 2 ^ tz) y→blen (a / b)≤53∧E * 4503599627370496+rnd a b=near (x * 2 ^ tz) y∧rnd a b≤9007199254740992∧(E=0∨4503599627370496≤rnd a b)
theorem seen (x y:Nat) (hy:0<y) (e:Int) (E:Nat) (hE:(E:Int)=e+1074):Seen x y e E (x * 2 ^ (max (-e) 0).toNat) (y * 2 ^ (max e 0).toNat):=by
 obtain ⟨c,hc,h1,h2⟩:=at_level x y e E hE
 have hp:0<y * 2 ^ (max e 0).toNat:=Nat.mul_pos hy (Nat.pow_pos (by decide))
 generalize ha:x * 2 ^ (max (-e) 0).toNat=a at *
 generalize hb:y * 2 ^ (max e 0).toNat=b at *
 have hq:a / b=x * 2 ^ tz / (y * 2 ^ E):=by rw [h1,h2,Nat.mul_div_mul_right _ _ hc]
 have hr:rnd a b=rnd (x * 2 ^ tz) (y * 2 ^ E):=by rw [h1,h2,rnd_mul _ _ _ hc]
 have hyE:0<y * 2 ^ E:=Nat.mul_pos hy (Nat.pow_pos (by decide))
 constructor
 ·intro hlt
  rcases lev_ge (x * 2 ^ tz) y hy with h | h
  ·omega
  ·have h3:9007199254740992≤a / b:=by
    rw [hq,Nat.le_div_iff_mul_le hyE]
    have h4:y * 2 ^ (E+53)≤y * 2 ^ (lev (x * 2 ^ tz) y+52):=Nat.mul_le_mul_left _ (Nat.pow_le_pow_right (by decide) (by omega))
    rw [p53] at h4
    omega
   unfold blen
   rw [if_neg (by omega)]
   have:53≤Nat.log2 (a / b):=by rw [Nat.le_log2 (by omega)];exact h3
   omega
 ·intro he
  have h3:=lev_lt (x * 2 ^ tz) y hy
  have h5:=near_rnd (x * 2 ^ tz) y hy
  rw [← he] at h3 h5
  rw [p53] at h3
  have h4:a / b<9007199254740992:=by rw [hq,Nat.div_lt_iff_lt_mul hyE];exact h3
  refine ⟨?_,?_,?_,?_⟩
  ·unfold blen
   split
   ·omega
   ·rename_i h0
    have:Nat.log2 (a / b)<53:=(Nat.log2_lt h0).2 h4
    omega
  ·rw [hr];unfold near;rw [← he]
  ·rw [hr];exact h5.1
  ·rw [hr];exact h5.2
set_option maxRecDepth 100000 in
set_option maxHeartbeats 3200000 in
theorem refRound_any (v u:Value) (x y:Nat) (w:World) (hx:IsNum w v x) (hxK:x<4294967296 ^ 100) (hy:Num w u y 100) (hy0:0<y) :
  Calls Tryz.prog 87 #[v,u] w fun r w'=>r = .returned (.tuple #[.int .u64 (packV (near (x * 2 ^ tz) y):Nat),.bool (decide (near (x * 2 ^ tz) y<LIM))])∧Below w.heap.size w w':=by
 have hxn:=hx.num hxK
 obtain ⟨A,c,xs,rfl,-,-,-,HXS⟩:=hx
 by_cases hx0:x=0
 ·have hl:xs.length=0:=by rw [HXS.out,hx0];rfl
  have HF:Hid (near (x * 2 ^ tz) y=0):=by unfold Hid;rw [hx0,Nat.zero_mul,near_zero y hy0]
  have HP:Hid (packV 0=0∧decide (0<LIM)=true):=⟨rfl,rfl⟩
  have b0:((xs.length:Int) == 0)=true:=by rw [hl];rfl
  clear hx0 hl
  go_enter Tryz.func87,Tryz.ntmps87
  go_wp2_with fail
  go_ret2
  refine ⟨?_,Below.refl _ _⟩
  rw [HF.out,HP.out.1,HP.out.2];rfl
 ·have b0:((xs.length:Int) == 0)=false:=by
   rw [beq_eq_false_iff_ne]
   intro h
   apply hx0
   have h1:xs.length=0:=by omega
   rw [HXS.out] at h1
   have:=val_limbs x
   rw [List.eq_nil_of_length_eq_zero h1] at this
   exact this.symm
  have hyK:=hy.lt
  have hls:=lev_start x y hx0 (by omega)
  have hll:=lev_le x y hy0 hx0 100 hxK
  have hbx:blen x=Nat.log2 x+1:=by unfold blen;rw [if_neg hx0]
  have hby:blen y=Nat.log2 y+1:=by unfold blen;rw [if_neg (by omega)]
  have hlx:=log_lt x 100 hx0 hxK
  have hly:=log_lt y 100 (by omega) hyK
  obtain ⟨lv,HLV⟩:∃ lv,Hid (lev (x * 2 ^ tz) y=lv):=⟨_,rfl⟩
  rw [HLV.out] at hls hll
  obtain ⟨bx,HBX⟩:∃ b,Hid (blen x=b):=⟨_,rfl⟩
  obtain ⟨by0,HBY⟩:∃ b,Hid (blen y=b):=⟨_,rfl⟩
  rw [HBX.out] at hbx
  rw [HBY.out] at hby
  rw [tz_eq] at hls
  obtain ⟨e0,he0,he1,he2,hem⟩:∃ e0:Int,(if (bx:Int) - by0 - 53 < -1074 then (-1074:Int) else (bx:Int) - by0 - 53)=e0∧-1074≤e0∧e0+1074≤lv∧max ((bx:Int) - by0 - 53) (-1074)=e0:=by
   by_cases h:(bx:Int) - by0 - 53 < -1074
   ·exact ⟨-1074,by rw [if_pos h],by omega,by omega,by omega⟩
   ·exact ⟨_,by rw [if_neg h],by omega,by omega,by omega⟩
  have hbx3:bx≤3201:=by omega
  have hby3:by0≤3201:=by omega
  have HX0:=Lib.hid hx0
  clear hls hbx hby hlx hly hx0 hyK
  go_enter Tryz.func87,Tryz.ntmps87
  go_wp2_with fail
  refine (refBits_n _ x 100 _ hxn (by decide)).mono ?_;rintro e w1 ⟨rfl,hb1⟩
  rw [HBX.out]
  have hxn1:=hxn.below hb1
  have hy1:=hy.below hb1
  go_wp2_with fail
  refine (refBits_n _ y 100 _ hy1 (by decide)).mono ?_;rintro e w2 ⟨rfl,hb2⟩
  rw [HBY.out]
  have hxn2:=hxn1.below hb2
  have hy2:=hy1.below hb2
  have hb12:=nx hb1 hb2
  go_wp2_with fail
  clear he0 hem
  go_loopw [6] (fun s wr=>∃ (e:Int) (E:Nat),s = .int .i64 e∧(E:Int)=e+1074∧E≤lv∧Below w.heap.size w wr) (fun s _=>(lv:Int).toNat+1 - (intOf s+1074).toNat)
  case atStart=>exact ⟨e0,(e0+1074).toNat,rfl,by omega,by omega,hb12⟩
  case round =>
   obtain ⟨e,E,rfl,hE,hEl,hb⟩:=hrel
   have hxw:=hxn.below hb
   have hyw:=hy.below hb
   have hseen:=seen x y hy0 e E hE
   obtain ⟨n1,hn1,hn1'⟩:∃ n:Nat,(if 0<e then (0:Int) else -e)=(n:Int)∧n=(max (-e) 0).toNat:=by
    by_cases h:0<e
    ·exact ⟨0,by rw [if_pos h];rfl,by omega⟩
    ·exact ⟨(-e).toNat,by rw [if_neg h];omega,by omega⟩
   obtain ⟨n2,hn2,hn2'⟩:∃ n:Nat,(if e<0 then (0:Int) else e)=(n:Int)∧n=(max e 0).toNat:=by
    by_cases h:e<0
    ·exact ⟨0,by rw [if_pos h];rfl,by omega⟩
    ·exact ⟨e.toNat,by rw [if_neg h];omega,by omega⟩
   have hn1m:max (-e) 0=(n1:Int):=by omega
   have hn2m:max e 0=(n2:Int):=by omega
   rw [← hn1',← hn2'] at hseen
   have hn1b:n1≤1074:=by omega
   have hn2b:n2≤3200:=by omega
   have la:x * 2 ^ n1<4294967296 ^ 134:=bmul 100 34 hxK (pow32 34 n1 (by omega))
   have lb:y * 2 ^ n2<4294967296 ^ 201:=bmul 100 101 hy.lt (pow32 101 n2 (by omega))
   have hb0:0<y * 2 ^ n2:=Nat.mul_pos hy0 (Nat.pow_pos (by decide))
   obtain ⟨a,HA⟩:∃ a,Hid (x * 2 ^ n1=a):=⟨_,rfl⟩
   obtain ⟨b,HB⟩:∃ b,Hid (y * 2 ^ n2=b):=⟨_,rfl⟩
   rw [HA.out] at la hseen
   rw [HB.out] at lb hb0 hseen
   have sA:shV x (n1:Int)=a:=by unfold shV;rw [if_pos (by omega),← HA.out];rfl
   have sB:shV y (n2:Int)=b:=by unfold shV;rw [if_pos (by omega),← HB.out];rfl
   have lq:a / b<4294967296 ^ 134:=Nat.lt_of_le_of_lt (Nat.div_le_self _ _) la
   have lr:a % b<4294967296 ^ 201:=Nat.lt_trans (Nat.mod_lt _ hb0) lb
   obtain ⟨q,HQ⟩:∃ q,Hid (a / b=q):=⟨_,rfl⟩
   obtain ⟨r,HR⟩:∃ r,Hid (a % b=r):=⟨_,rfl⟩
   have LA:=Lib.hid la
   have LB:=Lib.hid lb
   have LQ:=Lib.hid lq
   have LR:=Lib.hid lr
   have SA:=Lib.hid sA
   have SB:=Lib.hid sB
   have HB0:=Lib.hid hb0
   have HS:=Lib.hid hseen
   have HN1:=Lib.hid hn1'
   have HN2:=Lib.hid hn2'
   clear la lb lq lr sA sB hb0 hseen hn1' hn2' HA HB HN1 HN2
   go_wp2_with fail
   refine (refShl_n _ x 100 (n1:Int) _ hxw (by decide) (by omega) (by omega)).mono ?_;rintro e' w3 ⟨v3,rfl,hv3,hb3⟩
   rw [SA.out] at hv3
   have hb:=nx hb hb3
   have hyw:=hyw.below hb3
   go_wp2_with fail
   refine (refShl_n _ y 100 (n2:Int) _ hyw (by decide) (by omega) (by omega)).mono ?_;rintro e' w4 ⟨v4,rfl,hv4,hb4⟩
   rw [SB.out] at hv4
   have hb:=nx hb hb4
   have hv3n:=(hv3.below hb4).num (b8 (K:=250) 134 LA.out (by decide))
   have hv4n:=hv4.num (b8 (K:=250) 201 LB.out (by decide))
   clear hn1 hn2
   go_wp2_with fail
   refine (refDiv_n v3 v4 a b 250 _ hv3n hv4n (by decide)).mono ?_;rintro e' w5 ⟨vq,vr,ok,rfl,hdiv,hb5⟩
   unfold DivN at hdiv
   rw [if_neg (Nat.pos_iff_ne_zero.1 HB0.out),HQ.out,HR.out] at hdiv
   obtain ⟨hq,hr,rfl⟩:=hdiv
   have lq:=LQ.out
   have lr:=LR.out
   rw [HQ.out] at lq
   rw [HR.out] at lr
   have hb:=nx hb hb5
   have hv4n:=hv4n.below hb5
   have hqn:=hq.num (b8 (K:=250) 134 lq (by decide))
   have hrn:=hr.num (b8 (K:=250) 201 lr (by decide))
   clear lq lr
   obtain ⟨bq,HBQ⟩:∃ n,Hid (blen q=n):=⟨_,rfl⟩
   by_cases hlt:E<lv
   ·have hbq:53<bq:=by
     have:=HS.out.lo (by rw [HLV.out];exact hlt)
     rw [HQ.out,HBQ.out] at this;exact this
    have hbqu:(bq:Int)≤100000:=by
     have h1:blen q≤32 * 134+1:=by
      have h2:=LQ.out
      rw [HQ.out] at h2
      unfold blen
      split
      ·omega
      ·rename_i h0;have:=log_lt q 134 h0 h2;omega
     rw [HBQ.out] at h1;omega
    have b1:decide (53<(bq:Int))=true:=decide_eq_true (by omega)
    go_wp2_with fail
    refine (refBits_n vq q 250 _ hqn (by decide)).mono ?_;rintro e' w6 ⟨rfl,hb6⟩
    rw [HBQ.out]
    go_wp2_with fail
    go_roundw
    case rel=>exact ⟨e+1,E+1,rfl,by omega,by omega,nx hb hb6⟩
    case measure=>simp [intOf];omega
   ·obtain rfl:E=lv:=by omega
    have hs:=HS.out.hi HLV.out.symm
    rw [HQ.out,HBQ.out] at hs
    have b1:decide (53<(bq:Int))=false:=decide_eq_false (by omega)
    have HS2:=Lib.hid hs
    clear hs
    go_wp2_with fail
    refine (refBits_n vq q 250 _ hqn (by decide)).mono ?_;rintro e' w6 ⟨rfl,hb6⟩
    rw [HBQ.out]
    have hb:=nx hb hb6
    have hv4n:=hv4n.below hb6
    have hqn:=hqn.below hb6
    have hrn:=hrn.below hb6
    have hq:=hq.below hb6
    go_wp2_with fail
    refine (refAdd_n vr vr r r 250 _ hrn hrn (by decide)).mono ?_;rintro e' w7 ⟨v7,rfl,hv7,hb7⟩
    have hb:=nx hb hb7
    have hv4n:=hv4n.below hb7
    have hqn:=hqn.below hb7
    have lr:=LR.out
    rw [HR.out] at lr
    have lr2:r+r<4294967296 ^ (201+1):=badd 201 lr lr
    have hv7n:=hv7.num (b8 (K:=250) (201+1) lr2 (by decide))
    clear lr lr2
    go_wp2_with fail
    refine (refCmp_n v7 v4 (r+r) b 250 _ hv7n hv4n (by decide)).mono ?_;rintro e' w' ⟨rfl,rfl⟩
    obtain ⟨cv,HCV⟩:∃ cv,Hid (cmpI (r+r) b=cv):=⟨_,rfl⟩
    rw [HCV.out]
    have hupq:rnd a b=if cv=1∨cv=0∧q % 2=1 then q+1 else q:=by
     have h1:=HCV.out
     unfold rnd
     rw [HQ.out,HR.out]
     unfold cmpI at h1
     by_cases c1:r+r<b
     ·rw [if_pos c1] at h1
      rw [if_neg (by omega),if_neg (by omega)]
     ·rw [if_neg c1] at h1
      by_cases c2:b<r+r
      ·rw [if_pos c2] at h1
       rw [if_pos (.inl (by omega)),if_pos (.inl h1.symm)]
      ·rw [if_neg c2] at h1
       by_cases c3:q % 2=1
       ·rw [if_pos (.inr ⟨by omega,c3⟩),if_pos (.inr ⟨h1.symm,c3⟩)]
       ·rw [if_neg (by omega),if_neg (by omega)]
    obtain ⟨N,HN⟩:∃ N,Hid (near (x * 2 ^ tz) y=N):=⟨_,rfl⟩
    have hs2:=HS2.out.2
    rw [HN.out] at hs2
    have HS3:=Lib.hid hs2
    have HUP:=Lib.hid hupq
    have hcv:cv=1∨cv=0∨cv = -1:=by
     rw [← HCV.out];unfold cmpI;split
     ·exact .inr (.inr rfl)
     ·split
      ·exact .inl rfl
      ·exact .inr (.inl rfl)
    clear hs2 hupq
    have hfin:∀ q':Nat,rnd a b=q'→Hid (E * 4503599627370496+q'=N∧q'≤9007199254740992∧(E=0∨4503599627370496≤q')):=fun q' h=>by rw [← h];exact HS3.out
    have HFIN:=Lib.hid hfin
    clear hfin
    rcases hcv with rfl | rfl | rfl
    ·have hr1:rnd a b=q+1:=by rw [HUP.out,if_pos (.inl rfl)]
     have hf:=HFIN.out (q+1) hr1
     have hq1:q+1<18446744073709551616:=by have:=hf.out.2.1;omega
     have HQM:=Lib.hid (Nat.mod_eq_of_lt hq1)
     have hn2:q<4294967296 ^ 2:=by omega
     have hn3:q+1<4294967296 ^ 2:=by omega
     have hqs:Num w7 vq q 2:=(hq.below hb7).num hn2
     clear hr1 hn2 hq1
     go_wp2_with fail
     refine (refOf_n 1 _ (by decide)).mono ?_;rintro e' w8 ⟨v8,rfl,hv8,hb8⟩
     have hb:=nx hb hb8
     go_wp2_with fail
     refine (refAdd_n vq v8 q 1 2 _ (hqs.below hb8) (ln1 hv8 (by decide)) (by decide)).mono ?_;rintro e' w9 ⟨v9,rfl,hv9,hb9⟩
     have hb:=nx hb hb9
     have hv9n:=hv9.num hn3
     clear hn3
     go_wp2_with fail
     refine (refLow_n v9 (q+1) 2 _ hv9n (by decide)).mono ?_;rintro e' w' ⟨rfl,rfl⟩
     rw [HQM.out]
     go_wp2_with fail
     refine (refPacked_any (q+1) E e _ hE (by omega) hf.out.2.1 hf.out.2.2).mono ?_;rintro e' w' ⟨rfl,rfl⟩
     rw [hf.out.1]
     go_wp2_with fail
     go_ret2
     refine ⟨?_,hb⟩
     rw [HN.out];rfl
    ·by_cases hodd:q % 2=1
     ·have hr1:rnd a b=q+1:=by rw [HUP.out,if_pos (.inr ⟨rfl,hodd⟩)]
      have HBIT:Hid (q / 2 ^ 0 % 2=1):=by unfold Hid;simpa using hodd
      clear hodd
      have hf:=HFIN.out (q+1) hr1
      have hq1:q+1<18446744073709551616:=by have:=hf.out.2.1;omega
      have HQM:=Lib.hid (Nat.mod_eq_of_lt hq1)
      have hn2:q<4294967296 ^ 2:=by omega
      have hn3:q+1<4294967296 ^ 2:=by omega
      have hqs:Num w7 vq q 2:=(hq.below hb7).num hn2
      clear hr1 hn2 hq1
      go_wp2_with fail
      refine (refBit_n vq q 0 2 _ hqs (by decide) (by decide)).mono ?_;rintro e' w' ⟨rfl,rfl⟩
      rw [HBIT.out]
      go_wp2_with fail
      refine (refOf_n 1 _ (by decide)).mono ?_;rintro e' w8 ⟨v8,rfl,hv8,hb8⟩
      have hb:=nx hb hb8
      go_wp2_with fail
      refine (refAdd_n vq v8 q 1 2 _ (hqs.below hb8) (ln1 hv8 (by decide)) (by decide)).mono ?_;rintro e' w9 ⟨v9,rfl,hv9,hb9⟩
      have hb:=nx hb hb9
      have hv9n:=hv9.num hn3
      clear hn3
      go_wp2_with fail
      refine (refLow_n v9 (q+1) 2 _ hv9n (by decide)).mono ?_;rintro e' w' ⟨rfl,rfl⟩
      rw [HQM.out]
      go_wp2_with fail
      refine (refPacked_any (q+1) E e _ hE (by omega) hf.out.2.1 hf.out.2.2).mono ?_;rintro e' w' ⟨rfl,rfl⟩
      rw [hf.out.1]
      go_wp2_with fail
      go_ret2
      refine ⟨?_,hb⟩
      rw [HN.out];rfl
     ·have hr1:rnd a b=q:=by rw [HUP.out,if_neg (by omega)]
      have HBIT:Hid (q / 2 ^ 0 % 2=0):=by unfold Hid;simp;omega
      clear hodd
      have hf:=HFIN.out q hr1
      have hq1:q<18446744073709551616:=by have:=hf.out.2.1;omega
      have HQM:=Lib.hid (Nat.mod_eq_of_lt hq1)
      have hn2:q<4294967296 ^ 2:=by omega
      have hqs:Num w7 vq q 2:=(hq.below hb7).num hn2
      clear hr1 hn2 hq1
      go_wp2_with fail
      refine (refBit_n vq q 0 2 _ hqs (by decide) (by decide)).mono ?_;rintro e' w' ⟨rfl,rfl⟩
      rw [HBIT.out]
      go_wp2_with fail
      refine (refLow_n vq q 2 _ hqs (by decide)).mono ?_;rintro e' w' ⟨rfl,rfl⟩
      rw [HQM.out]
      go_wp2_with fail
      refine (refPacked_any q E e _ hE (by omega) hf.out.2.1 hf.out.2.2).mono ?_;rintro e' w' ⟨rfl,rfl⟩
      rw [hf.out.1]
      go_wp2_with fail
      go_ret2
      refine ⟨?_,hb⟩
      rw [HN.out];rfl
    ·have hr1:rnd a b=q:=by rw [HUP.out,if_neg (by omega)]
     have hf:=HFIN.out q hr1
     have hq1:q<18446744073709551616:=by have:=hf.out.2.1;omega
     have HQM:=Lib.hid (Nat.mod_eq_of_lt hq1)
     have hn2:q<4294967296 ^ 2:=by omega
     have hqs:Num w7 vq q 2:=(hq.below hb7).num hn2
     clear hr1 hn2 hq1
     go_wp2_with fail
     refine (refLow_n vq q 2 _ hqs (by decide)).mono ?_;rintro e' w' ⟨rfl,rfl⟩
     rw [HQM.out]
     go_wp2_with fail
     refine (refPacked_any q E e _ hE (by omega) hf.out.2.1 hf.out.2.2).mono ?_;rintro e' w' ⟨rfl,rfl⟩
     rw [hf.out.1]
     go_wp2_with fail
     go_ret2
     refine ⟨?_,hb⟩
     rw [HN.out];rfl
end Go.Proofs.YtjggghfekakogaaGreat
namespace Go.Proofs.YtjggghfekakogaaGreat
open Go.RowKit
theorem or63 (a:Nat) (ha:a<9223372036854775808):bits .or .u64 (9223372036854775808:Int) (a:Int)=((9223372036854775808+a:Nat):Int):=by
 have h1:(9223372036854775808:Int)=((9223372036854775808:Nat):Int):=rfl
 rw [h1,bits_or_u64_nat _ a (by omega) (by omega)]
 have:=Nat.two_pow_add_eq_or_of_lt (i:=63) (b:=a) ha 1
 rw [Nat.mul_one] at this
 rw [show (9223372036854775808:Nat)=2 ^ 63 from rfl,← this]
theorem or0 (a:Nat) (ha:a<9223372036854775808):bits .or .u64 (0:Int) (a:Int)=(a:Int):=by
 have h1:(0:Int)=((0:Nat):Int):=rfl
 rw [h1,bits_or_u64_nat _ a (by omega) (by omega),Nat.zero_or]
theorem one_num (w:World) (e:TypeId):Num (w.alloc (.cells #[.int .u32 1] e)) (.slice (some ⟨w.heap.size,0,none⟩) 1 1) 1 100:=by
 have h:=Rd.litsU (w:=w) (e:=e) [1] rfl
 exact ⟨_,1,[1],rfl,h,Nat.le_refl _,by decide,by decide,rfl⟩
end Go.Proofs.YtjggghfekakogaaGreat
namespace Go.Proofs.YtjggghfekakogaaGreat
open Go.RowKit
set_option maxRecDepth 100000 in
set_option maxHeartbeats 800000 in
theorem refTen_any (n:Nat) (w:World) (hn:n≤20000) :
  Calls Tryz.prog 44 #[.int .i64 n] w fun e w'=>∃ v',e = .returned v'∧Own uv 95 w' w.heap.size v' (limbs (10 ^ n))∧Below w.heap.size w w':=by
 have h10:Hid (limbs 10=[10]):=rfl
 have h1:Hid (limbs 1=[1]):=rfl
 go_enter Tryz.func44,Tryz.ntmps44
 go_wp2_with fail
 go_loopw [3,4] (fun x i wr=>∃ k:Nat,i = .int .i64 k∧k≤n∧Own uv 95 wr w.heap.size x (limbs (10 ^ k))∧Below w.heap.size w wr) (fun _ i _=>n - (intOf i).toNat)
 case atStart =>
  refine ⟨0,rfl,Nat.zero_le _,?_,nx0 w _⟩
  rw [Nat.pow_zero,h1.out]
  exact Own.litU [1] rfl (by decide)
 case round =>
  obtain ⟨k,rfl,hk,hown,hbel⟩:=hrel
  by_cases hlt:k<n
  ·have hlen:(limbs (10 ^ k)).length≤k+1:=limbs_len _ _ (Nat.lt_of_le_of_lt (Nat.pow_le_pow_left (show 10≤4294967296 by decide) k) (Nat.pow_lt_pow_right (by decide) (Nat.lt_succ_self k)))
   obtain ⟨A1,c1,xs,rfl,HX,hx1,hx2,hc1,hm1,hr1,-⟩:=hown.name (limbs (10 ^ k)).length rfl
   have hxl:xs.length≤20001:=by omega
   clear hlen hx1 hx2 hown
   have hsz:=hbel.size
   go_wp2_with fail
   refine (refMul_any A1 xs c1 (some ⟨wr.heap.size,0,none⟩) [10] 1 _ (hr1.alloc _) hc1 (by omega) (Rd.litsU [10] rfl) (by decide) (by decide)).mono ?_;rintro e w2 ⟨v2,rfl,hown2,hb2⟩
   go_wp2_with fail
   go_roundw
   case rel =>
    refine ⟨k+1,by go_num,by omega,(hown2.less (by simp;omega)).cast ?_,nx (nxa hbel _) hb2⟩
    rw [HX.out,val_limbs,Nat.pow_succ];rfl
   case measure=>simp [intOf];omega
  ·obtain rfl:k=n:=by omega
   have hlt':¬ (k:Int)<k:=by omega
   go_wp2_with fail
   go_ret
   exact ⟨_,rfl,hown,hbel⟩
end Go.Proofs.YtjggghfekakogaaGreat
namespace Go.Proofs.YtjggghfekakogaaGreat
open Go.RowKit
theorem info_u8:(Tryz.prog.info? 5).map (fun i=>(i.zero,i.size,i.bytes))=some (some (.int .u8 0),1,1):=by kernel_rfl
theorem bT:ElT Tryz.prog 22 5 1:=by
 obtain ⟨i,h1,h2,h3,h4⟩:=info_parts info_u8
 exact ⟨Tryz.underlying22,i,_,h1,h2,h3,h4,rfl⟩
end Go.Proofs.YtjggghfekakogaaGreat
namespace Go.Proofs.YtjggghfekakogaaGreat
open Go.RowKit
set_option maxRecDepth 100000 in
set_option maxHeartbeats 1600000 in
theorem plain_any (n:Nat) (w:World) (hn:(n:Int)≤18446744073709551615) :
  Calls Tryz.prog 38 #[.int .u64 n] w fun e w'=>e = .returned (.string ⟨(decS n).toArray⟩)∧Below w.heap.size w w':=by
 go_enter Tryz.func38,Tryz.ntmps38
 go_wp2_with fail
 have hlen:(decS n).length≤20:=decS_len 19 n (by omega)
 have HLEN:=Lib.hid hlen
 clear hlen
 go_loopw [0,3] (fun v s wr=>∃ (m:Nat) (t:ByteArray) (ys:List UInt8),v = .int .u64 m∧s = .string t∧(m:Int)≤18446744073709551615∧Hid (t=⟨ys.toArray⟩)∧Hid (decS n=decS m++ys)∧Below w.heap.size w wr) (fun v _ _=>(intOf v).toNat)
 case atStart=>exact ⟨n,_,[],rfl,rfl,hn,rfl,by unfold Hid;simp,Below.refl _ _⟩
 case round =>
  obtain ⟨m,t,ys,rfl,rfl,hm,HT,HD,hb⟩:=hrel
  have hts:t.size≤20:=by
   have h1:=HLEN.out
   rw [HD.out,List.length_append] at h1
   rw [HT.out]
   show ys.toArray.size≤20
   simp;omega
  have hb1:=nxa hb (.cells #[bv (UInt8.ofNat (48+m % 10))] 5)
  have HBV:Hid (Value.int .u8 (48+(m:Int) % 10)=bv (UInt8.ofNat (48+m % 10))):=bv_ofNat _ _ (by omega)
  by_cases h10:m<10
  ·have b1:((m:Int) / 10 == 0)=true:=by rw [beq_iff_eq];omega
   have hfin:Hid (decS n=UInt8.ofNat (48+m % 10) :: ys):=by unfold Hid;rw [HD.out,decS_small m h10];rfl
   clear h10
   go_wp2_with (refine wpList_str (o:=⟨some 9,_,_,_,_,_⟩) _ rfl _ rfl Tryz.underlying22 Tryz.underlying5 Tryz.underlying9 _ [UInt8.ofNat (48+m % 10)] _ rfl (Rd.one (bv_ofNat _ _ (by omega)) rfl) ?_;intro s1 HS1 hs1 hs2;have hsum:s1.size+t.size≤9223372036854775807:=by (simp at hs1;omega))
   go_ret
   rw [HBV.out]
   refine ⟨?_,hb1⟩
   rw [hfin.out,HS1.out,HT.out]
   rfl
  ·have b1:((m:Int) / 10 == 0)=false:=by rw [beq_eq_false_iff_ne];omega
   have hnext:Hid (decS n=decS (m / 10)++(UInt8.ofNat (48+m % 10) :: ys)):=by unfold Hid;rw [HD.out,decS_step m (by omega),List.append_assoc];rfl
   go_wp2_with (refine wpList_str (o:=⟨some 9,_,_,_,_,_⟩) _ rfl _ rfl Tryz.underlying22 Tryz.underlying5 Tryz.underlying9 _ [UInt8.ofNat (48+m % 10)] _ rfl (Rd.one (bv_ofNat _ _ (by omega)) rfl) ?_;intro s1 HS1 hs1 hs2;have hsum:s1.size+t.size≤9223372036854775807:=by (simp at hs1;omega))
   go_roundw
   case rel =>
    rw [HBV.out]
    refine ⟨m / 10,s1++t,UInt8.ofNat (48+m % 10) :: ys,by go_num,rfl,by omega,?_,hnext,hb1⟩
    unfold Hid
    rw [HS1.out,HT.out]
    rfl
   case measure=>simp [intOf];omega
set_option maxHeartbeats 800000 in
theorem tenText_any (v:Int) (w:World) (h1 : -9223372036854775808≤v) (h2:v≤9223372036854775807) :
  Calls Tryz.prog 20 #[.int .i64 v] w fun e w'=>e = .returned (.string ⟨(tenS v).toArray⟩)∧Below w.heap.size w w':=by
 by_cases hneg:v<0
 ·obtain ⟨n,hn,hn2⟩:∃ n:Nat,-(v+1)+1=(n:Int)∧(n:Int)≤9223372036854775808:=⟨(-v).toNat,by omega,by omega⟩
  have HF:Hid (tenS v=45 :: decS n):=by
   unfold Hid tenS;rw [if_pos hneg];congr 2;omega
  have hlen:(decS n).length≤20:=decS_len 19 n (by omega)
  obtain ⟨T,HT⟩:∃ T:ByteArray,Hid (T=⟨(decS n).toArray⟩):=⟨_,rfl⟩
  have hts:T.size≤20:=by
   rw [HT.out];show (decS n).toArray.size≤20;simpa using hlen
  go_enter Tryz.func20,Tryz.ntmps20
  go_wp2_with fail
  refine (plain_any n _ (by omega)).mono ?_;rintro e w1 ⟨rfl,hb1⟩
  rw [← HT.out]
  go_wp2_with fail
  go_ret
  refine ⟨?_,hb1⟩
  rw [HF.out,HT.out]
  rfl
 ·obtain ⟨n,rfl⟩:=Int.eq_ofNat_of_zero_le (a:=v) (by omega)
  have HF:Hid (tenS (n:Int)=decS n):=by unfold Hid tenS;rw [if_neg hneg];rfl
  clear hneg
  go_enter Tryz.func20,Tryz.ntmps20
  go_wp2_with fail
  refine (plain_any n _ (by omega)).mono ?_;rintro e w1 ⟨rfl,hb1⟩
  go_wp2_with fail
  go_ret
  refine ⟨?_,hb1⟩
  rw [HF.out]
  rfl
end Go.Proofs.YtjggghfekakogaaGreat
