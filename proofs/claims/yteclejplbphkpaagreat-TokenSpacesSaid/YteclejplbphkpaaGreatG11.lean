/- The contracts of the document's answers for big: bits, powers of ten, whether two lists are one. The contracts of the document's answers for big: shifts. The contracts of the document's answers for big: quotients. The contracts of the document's answers for big over numbers that are read. The contracts of the document's answers for big: powers of ten. The type of slices of bytes, and of bytes. The contracts of the document's own texts of numbers. -/
import Derived.Test.YteclejplbphkpaaGreatG10
import Derived.Test.YteclejplbphkpaaGreatG02
import Derived.Test.YteclejplbphkpaaGreatProg
import Derived.Test.YteclejplbphkpaaGreatG00
import Derived.WalkSpells
set_option linter.unusedVariables false
set_option linter.unusedSimpArgs false
set_option linter.unnecessarySimpa false
namespace Go.Proofs.YteclejplbphkpaaGreat
open Go.RowKit
set_option maxRecDepth 100000 in
set_option maxHeartbeats 800000 in
theorem refBit_any (A:Option Addr) (xs:List UInt32) (c:Nat) (i:Nat) (w:World) (hr:Rd uv w A xs) (hc:xs.length≤c) (hl:(xs.length:Int)≤1000000) (hi:(i:Int)≤1000000000) :
  Calls Tryz.prog 51 #[.slice A xs.length c,.int .i64 i] w fun e w'=>e = .returned (.int .u64 (val xs / 2 ^ i % 2:Nat))∧w=w':=by
 obtain ⟨a,HX⟩:∃ a,Hid (ent xs (i / 32)=a):=⟨_,rfl⟩
 have la:(a:Int)≤4294967295:=by rw [← HX.out];exact ent_le xs _
 have HB:Hid (a / 2 ^ (i % 32) % 2=val xs / 2 ^ i % 2):=by unfold Hid;rw [← HX.out];exact bit_val xs i
 have hand:=Lib.hid (and_one64 a (i % 32) la)
 go_enter Tryz.func51,Tryz.ntmps51
 go_wp2_with fail
 refine (refAt_any A xs c (i / 32) _ hr hc hl (by omega)).mono ?_;rintro e w' ⟨rfl,rfl⟩
 rw [HX.out]
 go_wp2_with fail
 go_ret
 refine ⟨?_,rfl⟩
 rw [← HB.out,← hand.out]
 rfl
set_option maxRecDepth 100000 in
set_option maxHeartbeats 800000 in
theorem refBits_any (A:Option Addr) (xs:List UInt32) (c:Nat) (w:World) (hr:Rd uv w A xs) (hc:xs.length≤c) (hm:c≤maxLen) (hl:(xs.length:Int)≤200000) :
  Calls Tryz.prog 30 #[.slice A xs.length c] w fun e w'=>e = .returned (.int .i64 (blen (val xs):Nat))∧Below w.heap.size w w':=by
 go_enter Tryz.func30,Tryz.ntmps30
 go_wp2_with fail
 refine (refNorm_any A xs c _ hr hc hm (by omega)).mono ?_;rintro e w1 ⟨v1,rfl,hown1,hb1⟩
 have hlen:(limbs (val xs)).length≤xs.length:=limbs_len _ _ (val_lt xs)
 obtain ⟨A1,c1,ys,rfl,HY,hy1,hy2,hc1,hm1,hr1,-⟩:=hown1.name (limbs (val xs)).length rfl
 have HV:Hid (val ys=val xs):=by unfold Hid;rw [HY.out,val_limbs]
 have hyl:(ys.length:Int)≤200000:=by omega
 clear hlen hy1 hy2 HY hown1
 go_wp2_with fail
 go_loop [4] (fun v=>∃ n:Nat,v = .int .i64 n∧n≤32 * ys.length∧Hid (val xs<2 ^ n)) (fun v=>(intOf v).toNat)
 case atStart =>
  refine ⟨32 * ys.length,by go_num,Nat.le_refl _,?_⟩
  unfold Hid
  rw [← HV.out,Nat.pow_mul]
  exact val_lt ys
 case round =>
  obtain ⟨n,rfl,hn,HN⟩:=hrel
  rcases n with _ | n
  ·have hfin:Hid (blen (val xs)=0):=by
    unfold Hid blen
    have:=HN.out
    rw [if_pos (by simpa using this)]
   go_wp2_with fail
   go_ret
   refine ⟨?_,hb1⟩
   rw [hfin.out]
   rfl
  ·obtain ⟨b,HB⟩:∃ b,Hid (val ys / 2 ^ n % 2=b):=⟨_,rfl⟩
   have hb2:b≤1:=by rw [← HB.out];omega
   have ht:=top_bit (val xs) n HN.out
   rw [← HV.out,HB.out] at ht
   have HT:=Lib.hid ht
   clear ht
   by_cases h0:b=0
   ·subst h0
    go_wp2_with fail
    refine (refBit_any A1 ys c1 n _ hr1 hc1 (by omega) (by omega)).mono ?_;rintro e w' ⟨rfl,rfl⟩
    rw [HB.out]
    go_wp2_with fail
    go_round
    case rel=>exact ⟨n,by go_num,by omega,by unfold Hid;rw [← HV.out];exact HT.out.1 (by trivial)⟩
    case measure=>simp [intOf]
   ·obtain rfl:b=1:=by omega
    have hfin:Hid (blen (val xs)=n+1):=(bits_unique _ _ HN.out (.inr (by rw [← HV.out];exact HT.out.2 (by decide)))).symm
    go_wp2_with fail
    refine (refBit_any A1 ys c1 n _ hr1 hc1 (by omega) (by omega)).mono ?_;rintro e w' ⟨rfl,rfl⟩
    rw [HB.out]
    go_wp2_with fail
    go_ret
    refine ⟨?_,hb1⟩
    rw [hfin.out]
    rfl
end Go.Proofs.YteclejplbphkpaaGreat
namespace Go.Proofs.YteclejplbphkpaaGreat
open Go.RowKit
set_option maxRecDepth 100000 in
set_option maxHeartbeats 1600000 in
theorem refShl_any (A:Option Addr) (xs:List UInt32) (c:Nat) (n:Int) (w:World) (hr:Rd uv w A xs) (hc:xs.length≤c) (hm:c≤maxLen) (hl:(xs.length:Int)≤100000) (hn1 : -100000≤n) (hn2:n≤100000) :
  Calls Tryz.prog 29 #[.slice A xs.length c,.int .i64 n] w fun e w'=>∃ v',e = .returned v'∧Own uv 85 w' w.heap.size v' (limbs (shF (val xs) n (32 * xs.length)))∧Below w.heap.size w w':=by
 obtain ⟨m,hm1,hm2,hm3⟩:∃ m:Int,0≤m∧n≤m∧m=max n 0:=⟨max n 0,by omega,by omega,rfl⟩
 go_enter Tryz.func29,Tryz.ntmps29
 go_upto_region 1 with (fail)
 go_cut [5] (fun v wx=>∃ zs:List UInt32,OwnG uv wx w.heap.size v zs∧Hid (zs=List.replicate zs.length 0)∧Below w.heap.size w wx∧1≤zs.length∧zs.length≤200000∧∀ i p:Nat,i<32 * xs.length→(i:Int)+n=p→p / 32<zs.length)
 case first =>
  by_cases hneg:n<0
  ·go_wp2_with (at_make;go_must (refine wpList_mkz (f:=uv) _ uT 0 uZ rfl rfl _ _ rfl w.heap.size _ _ _ rfl rfl (by omega) (by omega) (by omega) (Nat.le_refl _) ?_;intro v1 w1 zs hg1 HZ1 hz1 hz2 hb1))
   go_meet
   refine ⟨zs,hg1,?_,hb1,by omega,by omega,fun i p hi hp=>by omega⟩
   unfold Hid
   rw [HZ1.out,List.length_replicate]
  ·go_wp2_with (at_make;go_must (refine wpList_mkz (f:=uv) _ uT 0 uZ rfl rfl _ _ rfl w.heap.size _ _ _ rfl rfl (by omega) (by omega) (by omega) (Nat.le_refl _) ?_;intro v1 w1 zs hg1 HZ1 hz1 hz2 hb1))
   go_meet
   refine ⟨zs,hg1,?_,hb1,by omega,by omega,fun i p hi hp=>by omega⟩
   unfold Hid
   rw [HZ1.out,List.length_replicate]
 case rest =>
  obtain ⟨zs,hg1,HZ1,hb1,hz1',hzl,hin⟩:=hcut
  have HIN:=Lib.hid hin
  clear hin
  rcases id hg1 with ⟨h0,h0'⟩ | ⟨g,off,cap,rfl,hBg,hgl,hn3,hm3',-,-⟩
  ·exfalso
   have:zs.length=0:=by rw [h0'];rfl
   omega
  have HG1:=Lib.hid hg1
  clear hg1 hn3 hm3'
  go_wp2_with fail
  go_loopw [6] (fun v wr=>∃ (i:Nat) (os:List UInt32),v = .int .i64 i∧i≤32 * xs.length∧os.length≤zs.length∧zs.length≤os.length∧Hid (val os=shF (val xs) n i) ∧
   OwnG uv wr w.heap.size (.slice (some ⟨g,off,none⟩) os.length cap) os∧Below w.heap.size w wr) (fun v _=>32 * xs.length - (intOf v).toNat)
  case atStart =>
   refine ⟨0,zs,rfl,Nat.zero_le _,Nat.le_refl _,Nat.le_refl _,?_,HG1.out,hb1⟩
   unfold Hid shF
   rw [HZ1.out,val_zeros]
   simp [Nat.mod_one]
  case round =>
   obtain ⟨i,os,rfl,hi,ho1,ho2,HV,hown,hbel⟩:=hrel
   by_cases hlt:i<32 * xs.length
   ·obtain ⟨b,HB⟩:∃ b,Hid (val xs / 2 ^ i % 2=b):=⟨_,rfl⟩
    have hb2:b≤1:=by rw [← HB.out];omega
    have hrw:=hr.below hbel
    by_cases h0:b=0
    ·subst h0
     have HS:Hid (shF (val xs) n (i+1)=shF (val xs) n i):=shF_skip _ _ _ (.inl HB.out)
     go_wp2_with fail
     refine (refBit_any A xs c i _ hrw hc (by omega) (by omega)).mono ?_;rintro e w' ⟨rfl,rfl⟩
     rw [HB.out]
     go_wp2_with fail
     go_roundw
     case rel=>exact ⟨i+1,os,by go_num,by omega,ho1,ho2,by unfold Hid;rw [HS.out];exact HV,hown,hbel⟩
     case measure=>simp [intOf];omega
    ·obtain rfl:b=1:=by omega
     by_cases hneg:(i:Int)+n<0
     ·have HS:Hid (shF (val xs) n (i+1)=shF (val xs) n i):=shF_skip _ _ _ (.inr hneg)
      have hd:decide (0≤(i:Int)+n)=false:=decide_eq_false (by omega)
      go_wp2_with fail
      refine (refBit_any A xs c i _ hrw hc (by omega) (by omega)).mono ?_;rintro e w' ⟨rfl,rfl⟩
      rw [HB.out]
      go_wp2_with fail
      go_roundw
      case rel=>exact ⟨i+1,os,by go_num,by omega,ho1,ho2,by unfold Hid;rw [HS.out];exact HV,hown,hbel⟩
      case measure=>simp [intOf];omega
     ·obtain ⟨p,hp⟩:=Int.eq_ofNat_of_zero_le (a:=(i:Int)+n) (by omega)
      have HP:=Lib.hid hp
      have hp2:p≤10000000:=by omega
      have hidx:p / 32<zs.length:=HIN.out i p hlt hp
      have hset:=shF_set (val xs) n i p HB.out hp
      have HS:=Lib.hid hset
      clear hset
      rcases id hown with ⟨h0,_⟩ | ⟨g0,off0,cap0,h0,_,hg0,hn0,hm0,hsp0,hcs0⟩
      ·cases h0
      cases h0
      obtain ⟨-,hf1⟩:=hsp0 (p / 32) (by omega)
      have hco:=hcs0 (p / 32) (by omega)
      obtain ⟨ev,HE⟩:∃ ev,Hid (ent os (p / 32)=ev):=⟨_,rfl⟩
      have vo:uv (os[p / 32]'(by omega)) = .int .u32 (ev:Int):=by rw [← HE.out,uv,ent,List.getD,List.getElem?_eq_getElem (by omega)];rfl
      rw [vo] at hco
      have hlow:ev<2 ^ (p % 32):=by rw [← HE.out];exact shF_low os p (by rw [HV.out];exact HS.out.2)
      have hob:=or_bit ev (p % 32) (by omega) hlow
      have HOB:=Lib.hid hob
      have hst:=hown.set_ (i:=p / 32) (y:=UInt32.ofNat (ev+2 ^ (p % 32))) (by omega)
      have hbs:=hbel.setCell (p:=⟨g,off+p / 32,none⟩) hBg (uv (UInt32.ofNat (ev+2 ^ (p % 32))))
      have HST:=Lib.hid hst
      have HBS:=Lib.hid hbs
      have HL:=Lib.hid hlow
      clear hst hbs hsp0 hcs0 hn0 vo hown hob hlow
      go_wp2_with fail
      refine (refBit_any A xs c i _ hrw hc (by omega) (by omega)).mono ?_;rintro e w' ⟨rfl,rfl⟩
      rw [HB.out]
      go_upto_region 6 with (fail)
      have x1:(0:Int)≤(p:Int) / 32:=by omega
      have x2:(p:Int) / 32<(zs.length:Int):=by omega
      have x3:((p:Int) / 32).toNat=p / 32:=by omega
      have x4:(0:Int)≤(p:Int) % 32:=by omega
      have x5:(p:Int) % 32≤32:=by omega
      have x6:((p:Int) % 32).toNat=p % 32:=by omega
      go_region
      all_goals clear x1 x2 x3 x4 x5 x6
      all_goals go_wp2_with fail
      go_roundw
      case rel =>
       have hob:=HOB.out
       have hcast:((ev+2 ^ (p % 32):Nat):Int)=(((ev+2 ^ (p % 32)) % 4294967296:Nat):Int):=by rw [Nat.mod_eq_of_lt hob.2]
       rw [hob.1,uv_ofNat _ _ hcast]
       refine ⟨i+1,os.set (p / 32) (UInt32.ofNat (ev+2 ^ (p % 32))),by go_num,by omega,by simpa using ho1,by simpa using ho2,?_,OwnG.drew HST.out,HBS.out.drew⟩
       unfold Hid
       have hset:=val_set os (p / 32) (by omega) (UInt32.ofNat (ev+2 ^ (p % 32)))
       have he:(os.getD (p / 32) 0).toNat=ev:=HE.out
       rw [he,UInt32.toNat_ofNat',Nat.mod_eq_of_lt hob.2,Nat.mul_add,pow_split] at hset
       rw [HS.out.1,← HV.out]
       omega
      case measure=>simp [intOf];omega
   ·obtain rfl:i=32 * xs.length:=by omega
    obtain ⟨A2,c2,e2,hc2,hm2,hr2⟩:=hown.sl
    cases e2
    have h1000:(os.length:Int)≤1000000:=by omega
    have hsz:=hbel.size
    have HL3:Hid (os.length=zs.length):=by unfold Hid;omega
    have hlt':¬ (((32 * xs.length:Nat):Int)<32 * (xs.length:Int)):=by omega
    go_wp2_with fail
    rw [← HL3.out]
    refine (refNorm_any (some ⟨g,off,none⟩) os cap _ hr2 hc2 hm2 h1000).mono ?_;rintro e w2 ⟨v2,rfl,hown2,hb2⟩
    rw [HV.out] at hown2
    go_wp2_with fail
    go_ret
    exact ⟨_,rfl,hown2.less hsz,nx hbel hb2⟩
end Go.Proofs.YteclejplbphkpaaGreat
namespace Go.Proofs.YteclejplbphkpaaGreat
open Go.RowKit
theorem div_step (T Y b:Nat) (hY:0<Y) (hb:b≤1) :
  (Y≤2 * (T % Y)+b→(2 * T+b) / Y=2 * (T / Y)+1∧(2 * T+b) % Y=2 * (T % Y)+b - Y) ∧
  (2 * (T % Y)+b<Y→(2 * T+b) / Y=2 * (T / Y)∧(2 * T+b) % Y=2 * (T % Y)+b):=by
 have h:=Nat.div_add_mod T Y
 have hm:=Nat.mod_lt T hY
 generalize T / Y=q at *
 generalize T % Y=r at *
 have e1:2 * (Y * q)=Y * (2 * q):=by rw [Nat.mul_left_comm]
 constructor
 ·intro hle
  have e:2 * T+b=Y * (2 * q+1)+(2 * r+b - Y):=by rw [Nat.mul_add,Nat.mul_one];omega
  rw [e,Nat.mul_add_div hY,Nat.mul_add_mod,Nat.div_eq_of_lt (by omega),Nat.mod_eq_of_lt (by omega)]
  exact ⟨by omega,rfl⟩
 ·intro hlt
  have e:2 * T+b=Y * (2 * q)+(2 * r+b):=by omega
  rw [e,Nat.mul_add_div hY,Nat.mul_add_mod,Nat.div_eq_of_lt (by omega),Nat.mod_eq_of_lt (by omega)]
  exact ⟨by omega,rfl⟩
theorem div_pow_succ (V k:Nat):V / 2 ^ k=2 * (V / 2 ^ (k+1))+V / 2 ^ k % 2:=by
 rw [Nat.pow_succ,← Nat.div_div_eq_div_mul];omega
theorem or_bit2 (l:List UInt32) (k q:Nat) (h:val l=2 ^ (k+1) * q) :
  bits .or .u32 (ent l (k / 32):Int) (2 ^ (k % 32) % 4294967296)=((ent l (k / 32)+2 ^ (k % 32):Nat):Int)∧ent l (k / 32)+2 ^ (k % 32)<4294967296:=by
 have hr:k % 32<32:=Nat.mod_lt _ (by decide)
 have hsp:2 ^ (k+1)=4294967296 ^ (k / 32) * 2 ^ (k % 32+1):=by
  rw [Nat.pow_succ 2 (k % 32),← Nat.mul_assoc,pow_split,Nat.pow_succ]
 have he:ent l (k / 32)=2 ^ (k % 32+1) * (q % 2 ^ (31 - k % 32)):=by
  rw [ent_val,h,hsp,Nat.mul_assoc,Nat.mul_div_cancel_left _ (Nat.pow_pos (by decide))]
  rw [show (4294967296:Nat)=2 ^ (k % 32+1) * 2 ^ (31 - k % 32) from by rw [← Nat.pow_add,show k % 32+1+(31 - k % 32)=32 from by omega],Nat.mul_mod_mul_left]
 generalize k % 32=r at *
 generalize q % 2 ^ (31 - r)=t at *
 have hlt:ent l (k / 32)<4294967296:=by have:=ent_le l (k / 32);omega
 have h2r:2 ^ r<2 ^ (r+1):=Nat.pow_lt_pow_right (by decide) (by omega)
 have hor:=Nat.two_pow_add_eq_or_of_lt (i:=r+1) (b:=2 ^ r) h2r t
 rw [← he] at hor
 have hp:2 ^ r<4294967296:=Nat.lt_of_lt_of_le (Nat.pow_lt_pow_right (by decide) hr) (by decide)
 have hsum:ent l (k / 32)+2 ^ r<4294967296:=by
  rw [hor];exact Nat.or_lt_two_pow (n:=32) hlt hp
 have hc:((2:Int) ^ r % 4294967296)=((2 ^ r:Nat):Int):=by
  have:((2:Int) ^ r)=((2 ^ r:Nat):Int):=by rw [Int.natCast_pow];rfl
  rw [this]
  exact Int.emod_eq_of_lt (by omega) (by omega)
 refine ⟨?_,hsum⟩
 rw [hc,u32_or_nat _ _ hlt hp,hor]
def DivIs (w w':World) (x y:Nat) (q r:Value) (ok:Bool):Prop :=
 if y=0 then q = .slice none 0 0∧r = .slice none 0 0∧ok=false
 else Own uv 85 w' w.heap.size q (limbs (x / y))∧Own uv 85 w' w.heap.size r (limbs (x % y))∧ok=true
set_option maxRecDepth 100000 in
set_option maxHeartbeats 1600000 in
theorem refDiv_any (A:Option Addr) (xs:List UInt32) (c:Nat) (B:Option Addr) (ys:List UInt32) (d:Nat) (w:World) (hr:Rd uv w A xs) (hc:xs.length≤c) (hm:c≤maxLen) (hl:(xs.length:Int)≤10000) (hs:Rd uv w B ys) (hd:ys.length≤d) (hm2:d≤maxLen) (hl2:(ys.length:Int)≤10000) :
  Calls Tryz.prog 34 #[.slice A xs.length c,.slice B ys.length d] w fun e w'=>∃ q r ok,e = .returned (.tuple #[q,r,.bool ok])∧DivIs w w' (val xs) (val ys) q r ok∧Below w.heap.size w w':=by
 by_cases hy0:val ys=0
 ·have hz:Hid ((limbs (val ys)).length=0):=by unfold Hid;rw [hy0];rfl
  have HY:=Lib.hid hy0
  clear hy0
  go_enter Tryz.func34,Tryz.ntmps34
  go_wp2_with fail
  refine (refNorm_any B ys d _ hs hd hm2 (by omega)).mono ?_;rintro e w1 ⟨v1,rfl,hown1,hb1⟩
  obtain ⟨A1,c1,rfl,-,-,-⟩:=hown1.sl
  rw [hz.out]
  go_wp2_with fail
  go_ret3
  refine ⟨_,_,_,rfl,?_,hb1⟩
  unfold DivIs
  rw [if_pos HY.out]
  exact ⟨rfl,rfl,rfl⟩
 ·have hz:1≤(limbs (val ys)).length:=by
   rcases Nat.eq_zero_or_pos (limbs (val ys)).length with h | h
   ·exfalso
    apply hy0
    have:=val_limbs (val ys)
    rw [List.eq_nil_of_length_eq_zero h] at this
    exact this.symm
   ·exact h
  have HY:=Lib.hid hy0
  clear hy0
  go_enter Tryz.func34,Tryz.ntmps34
  go_wp2_with fail
  refine (refNorm_any B ys d _ hs hd hm2 (by omega)).mono ?_;rintro e w1 ⟨v1,rfl,hown1,hb1⟩
  obtain ⟨A1,c1,ns,rfl,-,hn1,hn2,-⟩:=hown1.name (limbs (val ys)).length rfl
  have g0:((ns.length:Int) == 0)=false:=by rw [beq_eq_false_iff_ne];omega
  clear hz hn1 hn2 hown1
  go_wp2_with (at_make;go_must (refine wpList_mkz (f:=uv) _ uT 0 uZ rfl rfl _ _ rfl w.heap.size _ _ _ rfl rfl (by omega) (by omega) (by omega) hb1.size ?_;intro v2 w2 zs hg2 HZ2 hz1 hz2 hb2))
  have hb02:Below w.heap.size w w2:=hb1.trans hb2
  rcases id hg2 with ⟨h0,h0'⟩ | ⟨g,off,cap,rfl,hBg,hgl,hn3,hm3',-,-⟩
  ·exfalso
   have:zs.length=0:=by rw [h0'];rfl
   omega
  have HG2:=Lib.hid hg2
  clear hg2 hn3 hm3'
  go_wp2_with fail
  have hYpos:Hid (0<val ys):=Nat.pos_of_ne_zero HY.out
  go_loopw [8,9] (fun rv v wr=>∃ (m:Nat) (qs:List UInt32),v = .int .i64 ((m:Int) - 1)∧m≤32 * xs.length∧qs.length≤zs.length∧zs.length≤qs.length∧Hid (val qs=2 ^ m * (val xs / 2 ^ m / val ys)) ∧
   Own uv 85 wr w.heap.size rv (limbs (val xs / 2 ^ m % val ys))∧OwnG uv wr w.heap.size (.slice (some ⟨g,off,none⟩) qs.length cap) qs∧Below w.heap.size w wr) (fun _ v _=>(intOf v+1).toNat)
  case atStart =>
   have h0:val xs / 2 ^ (32 * xs.length)=0:=Nat.div_eq_of_lt (by rw [Nat.pow_mul];exact val_lt xs)
   refine ⟨32 * xs.length,zs,by go_num,Nat.le_refl _,Nat.le_refl _,Nat.le_refl _,?_,?_,HG2.out,hb02⟩
   ·unfold Hid;rw [h0,HZ2.out,val_zeros];simp
   ·rw [h0,Nat.zero_mod];exact Own.nil_
  case round =>
   obtain ⟨m,qs,rfl,hmm,hq1,hq2,HQ,hownr,hownq,hbel⟩:=hrel
   rcases m with _ | k
   ·have hfq:Hid (val qs=val xs / val ys):=by unfold Hid;rw [HQ.out];simp
    have hfr:Hid (limbs (val xs / 2 ^ 0 % val ys)=limbs (val xs % val ys)):=by unfold Hid;simp
    obtain ⟨A3,c3,e3,hc3,hm3,hr3⟩:=hownq.sl
    cases e3
    have HL:Hid (qs.length=zs.length):=by unfold Hid;omega
    have h1000:(qs.length:Int)≤1000000:=by omega
    have hsz:=hbel.size
    go_wp2_with fail
    rw [← HL.out]
    refine (refNorm_any (some ⟨g,off,none⟩) qs cap _ hr3 hc3 hm3 h1000).mono ?_;rintro e w3 ⟨v3,rfl,hown3,hb3⟩
    rw [hfq.out] at hown3
    rw [hfr.out] at hownr
    have hownr3:=hownr.below hb3
    go_wp2_with fail
    go_ret3
    refine ⟨_,_,_,rfl,?_,nx hbel hb3⟩
    unfold DivIs
    rw [if_neg HY.out]
    exact ⟨hown3.less hsz,hownr3,rfl⟩
   ·obtain ⟨b,HB⟩:∃ b,Hid (val xs / 2 ^ k % 2=b):=⟨_,rfl⟩
    have hb2':b≤1:=by rw [← HB.out];omega
    obtain ⟨T,HT⟩:∃ T,Hid (val xs / 2 ^ (k+1)=T):=⟨_,rfl⟩
    have HT2:Hid (val xs / 2 ^ k=2 * T+b):=by unfold Hid;rw [div_pow_succ,HT.out,HB.out]
    rw [HT.out] at hownr
    have hsz:=hbel.size
    have hlr:(limbs (T % val ys)).length≤ys.length:=limbs_len _ _ (Nat.lt_trans (Nat.mod_lt _ hYpos.out) (val_lt ys))
    obtain ⟨Ar,cr,rs,rfl,HR,hr1',hr2',hcr,hmr,hrr,hownr⟩:=hownr.name (limbs (T % val ys)).length rfl
    have hrl:rs.length≤ys.length:=by omega
    have HV:Hid (val rs=T % val ys):=by unfold Hid;rw [HR.out,val_limbs]
    clear hlr hr1' hr2' HR hownr
    have hrw:=hr.below hbel
    have hsw:=hs.below hbel
    go_wp2_with fail
    refine (refAdd_any Ar rs cr Ar rs cr _ hrr hcr (by omega) hrr hcr (by omega)).mono ?_;rintro e w3 ⟨v3,rfl,hown3,hb3⟩
    have hl3:(limbs (val rs+val rs)).length≤ys.length+1:=limbs_len _ _ (by
     have:=val_lt rs
     have h2:4294967296 ^ rs.length≤4294967296 ^ ys.length:=Nat.pow_le_pow_right (by decide) hrl
     rw [Nat.pow_succ];omega)
    obtain ⟨A3,c3,r3,rfl,HR3,h3a,h3b,hc3,hm3,hr3,-⟩:=hown3.name (limbs (val rs+val rs)).length rfl
    have h3l:r3.length≤ys.length+1:=by omega
    have HV3:Hid (val r3=2 * (T % val ys)):=by unfold Hid;rw [HR3.out,val_limbs,HV.out];omega
    clear hl3 h3a h3b HR3 hown3
    go_wp2_with fail
    refine (refBit_any A xs c k _ (hrw.below hb3) hc (by omega) (by omega)).mono ?_;rintro e w' ⟨rfl,rfl⟩
    rw [HB.out]
    go_wp2_with fail
    refine (refOf_any b _ (by omega)).mono ?_;rintro e w4 ⟨v4,rfl,hown4,hb4⟩
    have hl4:(limbs b).length≤1:=limbs_len _ _ (by omega)
    obtain ⟨A4,c4,r4,rfl,HR4,h4a,h4b,hc4,hm4,hr4,-⟩:=hown4.name (limbs b).length rfl
    have h4l:r4.length≤1:=by omega
    have HV4:Hid (val r4=b):=by unfold Hid;rw [HR4.out,val_limbs]
    clear hl4 h4a h4b HR4 hown4
    go_wp2_with fail
    refine (refAdd_any A3 r3 c3 A4 r4 c4 _ (hr3.below hb4) hc3 (by omega) hr4 hc4 (by omega)).mono ?_;rintro e w5 ⟨v5,rfl,hown5,hb5⟩
    have hl5:(limbs (val r3+val r4)).length≤ys.length+2:=limbs_len _ _ (by
     have h1:=val_lt r3
     have h2:=val_lt r4
     have h3:4294967296 ^ r3.length≤4294967296 ^ (ys.length+1):=Nat.pow_le_pow_right (by decide) h3l
     have h4:4294967296 ^ r4.length≤4294967296 ^ (ys.length+1):=Nat.pow_le_pow_right (by decide) (by omega)
     rw [show ys.length+2=(ys.length+1)+1 from rfl,Nat.pow_succ];omega)
    obtain ⟨A5,c5,r5,rfl,HR5,h5a,h5b,hc5,hm5,hr5,hown5⟩:=hown5.name (limbs (val r3+val r4)).length rfl
    have h5l:r5.length≤ys.length+2:=by omega
    have HV5:Hid (val r5=2 * (T % val ys)+b):=by unfold Hid;rw [HR5.out,val_limbs,HV3.out,HV4.out]
    have HL5:Hid (r5=limbs (2 * (T % val ys)+b)):=by unfold Hid;rw [HR5.out,HV3.out,HV4.out]
    clear hl5 h5a h5b HR5
    have hb35:Below wr.heap.size wr w5:=nx (nx hb3 hb4) hb5
    have hd1:=div_step T (val ys) b hYpos.out hb2'
    rw [← HT2.out] at hd1
    have HD:=Lib.hid hd1
    clear hd1
    have hgw:g<wr.heap.size:=by
     rcases id hownq with ⟨h0,_⟩ | ⟨g0,off0,cap0,h0,_,hg0,_⟩
     ·cases h0
     ·cases h0;exact hg0
    have hownq5:=hownq.below hb35
    go_wp2_with fail
    refine (refSub_any A5 r5 c5 B ys d _ hr5 hc5 (by omega) (hsw.below hb35) hd (by omega)).mono ?_;rintro e w6 ⟨v6,is,rfl,hsub,hb6⟩
    rw [HV5.out] at hsub
    unfold SubIs at hsub
    have hb36:=nx hb35 hb6
    have hownq6:=hownq5.below hb6
    by_cases hlt:2 * (T % val ys)+b<val ys
    ·rw [if_pos hlt] at hsub
     obtain ⟨rfl,rfl⟩:=hsub
     have HLT:=Lib.hid hlt
     clear hlt
     go_wp2_with fail
     go_roundw
     case rel =>
      obtain ⟨hd1,hd2⟩:=HD.out.2 HLT.out
      refine ⟨k,qs,by go_num,by omega,hq1,hq2,?_,?_,hownq6,nx hbel hb36⟩
      ·unfold Hid
       rw [HQ.out,HT.out,hd1,Nat.pow_succ,Nat.mul_assoc]
      ·rw [hd2]
       have h1:=(hown5.below hb6).cast HL5.out
       exact h1.less (nx hbel (nx hb3 hb4)).size
     case measure=>simp [intOf]
    ·rw [if_neg hlt] at hsub
     obtain ⟨hown6,rfl⟩:=hsub
     have HLT:=Lib.hid hlt
     clear hlt
     rcases id hownq6 with ⟨h0,_⟩ | ⟨g0,off0,cap0,h0,_,hg0,hn0,hm0,hsp0,hcs0⟩
     ·cases h0
     cases h0
     have hidx:k / 32<qs.length:=by omega
     obtain ⟨-,hf1⟩:=hsp0 (k / 32) (by omega)
     have hco:=hcs0 (k / 32) hidx
     obtain ⟨ev,HE⟩:∃ ev,Hid (ent qs (k / 32)=ev):=⟨_,rfl⟩
     have vo:uv qs[k / 32] = .int .u32 (ev:Int):=by rw [← HE.out,uv,ent,List.getD,List.getElem?_eq_getElem hidx];rfl
     rw [vo] at hco
     have hob:=or_bit2 qs k _ HQ.out
     rw [HE.out] at hob
     have HOB:=Lib.hid hob
     have hst:=hownq6.set_ (i:=k / 32) (y:=UInt32.ofNat (ev+2 ^ (k % 32))) hidx
     have hbs:Below w6.heap.size w6 w6:=Below.refl _ _
     have hbs2:=(nx hbel hb36).setCell (p:=⟨g,off+k / 32,none⟩) hBg (uv (UInt32.ofNat (ev+2 ^ (k % 32))))
     have HST:=Lib.hid hst
     have HBS:=Lib.hid hbs2
     have hownr6:=hown6.less (nx hbel hb35).size
     have hne:Own uv 85 w6 w5.heap.size v6 (limbs (2 * (T % val ys)+b - val ys)):=hown6
     have HOW:=Lib.hid hown6
     clear hst hbs hbs2 hsp0 hcs0 hn0 vo hob hown6 hne hownr6 hownq6 hownq5
     go_wp2_with fail
     go_upto_region 12 with (fail)
     have x1:(0:Int)≤(k:Int) / 32:=by omega
     have x2:(k:Int) / 32<(zs.length:Int):=by omega
     have x3:((k:Int) / 32).toNat=k / 32:=by omega
     have x4:(0:Int)≤(k:Int) % 32:=by omega
     have x5:(k:Int) % 32≤32:=by omega
     have x6:((k:Int) % 32).toNat=k % 32:=by omega
     go_region
     all_goals clear x1 x2 x3 x4 x5 x6
     all_goals go_wp2_with fail
     all_goals go_roundw
     case rel =>
      obtain ⟨hd1,hd2⟩:=HD.out.1 (Nat.le_of_not_lt HLT.out)
      have hob:=HOB.out
      have hcast:((ev+2 ^ (k % 32):Nat):Int)=(((ev+2 ^ (k % 32)) % 4294967296:Nat):Int):=by rw [Nat.mod_eq_of_lt hob.2]
      rw [hob.1,uv_ofNat _ _ hcast]
      refine ⟨k,qs.set (k / 32) (UInt32.ofNat (ev+2 ^ (k % 32))),by go_num,by omega,by simpa using hq1,by simpa using hq2,?_,?_,OwnG.drew HST.out,HBS.out.drew⟩
      ·unfold Hid
       have hset:=val_set qs (k / 32) hidx (UInt32.ofNat (ev+2 ^ (k % 32)))
       have he:(qs.getD (k / 32) 0).toNat=ev:=HE.out
       rw [he,UInt32.toNat_ofNat',Nat.mod_eq_of_lt hob.2,Nat.mul_add,pow_split,HQ.out,HT.out,Nat.pow_succ,Nat.mul_assoc] at hset
       rw [hd1,Nat.mul_add,Nat.mul_one]
       omega
      ·rw [hd2]
       have hlt5:(⟨g,off+k / 32,none⟩:Addr).block<w5.heap.size:=Nat.lt_of_lt_of_le hgw hb35.size
       have h1:=ownsRow_setCell_below HOW.out hlt5 (uv (UInt32.ofNat (ev+2 ^ (k % 32))))
       have h2:Own uv 85 (w6.setCell ⟨g,off+k / 32,none⟩ (uv (UInt32.ofNat (ev+2 ^ (k % 32))))) w5.heap.size v6 (limbs (2 * (T % val ys)+b - val ys)):=h1
       exact (h2.less (nx hbel hb35).size).drew
     case measure=>simp [intOf]
end Go.Proofs.YteclejplbphkpaaGreat
namespace Go.Proofs.YteclejplbphkpaaGreat
open Go.RowKit
theorem Own.num {e:TypeId} {w:World} {B:Nat} {v:Value} {n:Nat} (h:Own uv e w B v (limbs n)):IsNum w v n:=by
 obtain ⟨A,c,rfl,h1,h2,h3⟩:=h.sl
 exact ⟨A,c,limbs n,rfl,h3,h1,h2,rfl⟩
theorem refAdd_n (v u:Value) (a b K:Nat) (w:World) (h:Num w v a K) (g:Num w u b K) (hK:(K:Int)≤5000) :
  Calls Tryz.prog 36 #[v,u] w fun e w'=>∃ v',e = .returned v'∧IsNum w' v' (a+b)∧Below w.heap.size w w':=by
 obtain ⟨A,c,xs,rfl,h2,h3,h4,h5,rfl⟩:=h
 obtain ⟨B,d,ys,rfl,g2,g3,g4,g5,rfl⟩:=g
 exact (refAdd_any A xs c B ys d w h2 h3 (by omega) g2 g3 (by omega)).mono fun _ _ ⟨v,h1,h2,h3⟩=>⟨v,h1,h2.num,h3⟩
theorem refMul_n (v u:Value) (a b K:Nat) (w:World) (h:Num w v a K) (g:Num w u b K) (hK:(K:Int)≤5000) :
  Calls Tryz.prog 32 #[v,u] w fun e w'=>∃ v',e = .returned v'∧IsNum w' v' (a * b)∧Below w.heap.size w w':=by
 obtain ⟨A,c,xs,rfl,h2,h3,h4,h5,rfl⟩:=h
 obtain ⟨B,d,ys,rfl,g2,g3,g4,g5,rfl⟩:=g
 exact (refMul_any A xs c B ys d w h2 h3 (by omega) g2 g3 (by omega)).mono fun _ _ ⟨v,h1,h2,h3⟩=>⟨v,h1,h2.num,h3⟩
theorem refDiv_n (v u:Value) (a b K:Nat) (w:World) (h:Num w v a K) (g:Num w u b K) (hK:(K:Int)≤5000) :
  Calls Tryz.prog 34 #[v,u] w fun e w'=>∃ q r ok,e = .returned (.tuple #[q,r,.bool ok])∧DivN w' a b q r ok∧Below w.heap.size w w':=by
 obtain ⟨A,c,xs,rfl,h2,h3,h4,h5,rfl⟩:=h
 obtain ⟨B,d,ys,rfl,g2,g3,g4,g5,rfl⟩:=g
 refine (refDiv_any A xs c B ys d w h2 h3 h4 (by omega) g2 g3 g4 (by omega)).mono fun _ _ ⟨q,r,ok,h1,h2,h3⟩=>⟨q,r,ok,h1,?_,h3⟩
 unfold DivIs at h2
 unfold DivN
 split
 ·rename_i hy;rwa [if_pos hy] at h2
 ·rename_i hy;rw [if_neg hy] at h2;exact ⟨h2.1.num,h2.2.1.num,h2.2.2⟩
theorem refCmp_n (v u:Value) (a b K:Nat) (w:World) (h:Num w v a K) (g:Num w u b K) (hK:(K:Int)≤5000) :
  Calls Tryz.prog 35 #[v,u] w fun e w'=>e = .returned (.int .i64 (cmpI a b))∧w=w':=by
 obtain ⟨A,c,xs,rfl,h2,h3,h4,h5,rfl⟩:=h
 obtain ⟨B,d,ys,rfl,g2,g3,g4,g5,rfl⟩:=g
 exact refCmp_any A xs c B ys d w h2 h3 (by omega) g2 g3 (by omega)
theorem refShl_n (v:Value) (a K:Nat) (n:Int) (w:World) (h:Num w v a K) (hK:(K:Int)≤5000) (hn1 : -100000≤n) (hn2:n≤100000) :
  Calls Tryz.prog 29 #[v,.int .i64 n] w fun e w'=>∃ v',e = .returned v'∧IsNum w' v' (shV a n)∧Below w.heap.size w w':=by
 obtain ⟨A,c,xs,rfl,h2,h3,h4,h5,rfl⟩:=h
 refine (refShl_any A xs c n w h2 h3 h4 (by omega) hn1 hn2).mono fun _ _ ⟨v,h1,h2,h3⟩=>⟨v,h1,?_,h3⟩
 rw [shF_shV] at h2
 exact h2.num
theorem refBits_n (v:Value) (a K:Nat) (w:World) (h:Num w v a K) (hK:(K:Int)≤5000) :
  Calls Tryz.prog 30 #[v] w fun e w'=>e = .returned (.int .i64 (blen a:Nat))∧Below w.heap.size w w':=by
 obtain ⟨A,c,xs,rfl,h2,h3,h4,h5,rfl⟩:=h
 exact refBits_any A xs c w h2 h3 h4 (by omega)
theorem refLow_n (v:Value) (a K:Nat) (w:World) (h:Num w v a K) (hK:(K:Int)≤5000) :
  Calls Tryz.prog 37 #[v] w fun e w'=>e = .returned (.int .u64 (a % 18446744073709551616:Nat))∧w=w':=by
 obtain ⟨A,c,xs,rfl,h2,h3,h4,h5,rfl⟩:=h
 exact refLow_any A xs c w h2 h3 (by omega)
theorem refOf_n (n:Nat) (w:World) (hn:(n:Int)≤18446744073709551615) :
  Calls Tryz.prog 28 #[.int .u64 n] w fun e w'=>∃ v',e = .returned v'∧IsNum w' v' n∧Below w.heap.size w w' :=
 (refOf_any n w hn).mono fun _ _ ⟨v,h1,h2,h3⟩=>⟨v,h1,h2.num,h3⟩
theorem one_num (w:World) (e:TypeId):Num (w.alloc (.cells #[.int .u32 1] e)) (.slice (some ⟨w.heap.size,0,none⟩) 1 1) 1 100:=by
 have h:=Rd.litsU (w:=w) (e:=e) [1] rfl
 exact ⟨_,1,[1],rfl,h,Nat.le_refl _,by decide,by decide,rfl⟩
end Go.Proofs.YteclejplbphkpaaGreat
namespace Go.Proofs.YteclejplbphkpaaGreat
open Go.RowKit
set_option maxRecDepth 100000 in
set_option maxHeartbeats 800000 in
theorem refTen_any (n:Nat) (w:World) (hn:n≤20000) :
  Calls Tryz.prog 33 #[.int .i64 n] w fun e w'=>∃ v',e = .returned v'∧Own uv 85 w' w.heap.size v' (limbs (10 ^ n))∧Below w.heap.size w w':=by
 have h10:Hid (limbs 10=[10]):=rfl
 have h1:Hid (limbs 1=[1]):=rfl
 go_enter Tryz.func33,Tryz.ntmps33
 go_wp2_with fail
 go_loopw [3,4] (fun x i wr=>∃ k:Nat,i = .int .i64 k∧k≤n∧Own uv 85 wr w.heap.size x (limbs (10 ^ k))∧Below w.heap.size w wr) (fun _ i _=>n - (intOf i).toNat)
 case atStart =>
  refine ⟨0,rfl,Nat.zero_le _,?_,nx0 w _⟩
  rw [Nat.pow_zero,h1.out]
  exact Own.litU [1] rfl (by decide)
 case round =>
  obtain ⟨k,rfl,hk,hown,hbel⟩:=hrel
  by_cases hlt:k<n
  ·have hlen:(limbs (10 ^ k)).length≤k+1:=limbs_len _ _ (Nat.lt_of_le_of_lt (Nat.pow_le_pow_left (show 10≤4294967296 by decide) k) (Nat.pow_lt_pow_right (by decide) (Nat.lt_succ_self k)))
   obtain ⟨A1,c1,xs,rfl,HX,hx1,hx2,hc1,hm1,hr1,-⟩:=hown.name (limbs (10 ^ k)).length rfl
   have hxl:xs.length≤20001:=by omega
   clear hlen hx1 hx2 hown
   have hsz:=hbel.size
   go_wp2_with fail
   refine (refMul_any A1 xs c1 (some ⟨wr.heap.size,0,none⟩) [10] 1 _ (hr1.alloc _) hc1 (by omega) (Rd.litsU [10] rfl) (by decide) (by decide)).mono ?_;rintro e w2 ⟨v2,rfl,hown2,hb2⟩
   go_wp2_with fail
   go_roundw
   case rel =>
    refine ⟨k+1,by go_num,by omega,(hown2.less (by simp;omega)).cast ?_,nx (nxa hbel _) hb2⟩
    rw [HX.out,val_limbs,Nat.pow_succ];rfl
   case measure=>simp [intOf];omega
  ·obtain rfl:k=n:=by omega
   have hlt':¬ (k:Int)<k:=by omega
   go_wp2_with fail
   go_ret
   exact ⟨_,rfl,hown,hbel⟩
end Go.Proofs.YteclejplbphkpaaGreat
namespace Go.Proofs.YteclejplbphkpaaGreat
open Go.RowKit
end Go.Proofs.YteclejplbphkpaaGreat
namespace Go.Proofs.YteclejplbphkpaaGreat
open Go.RowKit
set_option maxRecDepth 100000 in
set_option maxHeartbeats 1600000 in
theorem plain_any (n:Nat) (w:World) (hn:(n:Int)≤18446744073709551615) :
  Calls Tryz.prog 27 #[.int .u64 n] w fun e w'=>e = .returned (.string ⟨(decS n).toArray⟩)∧Below w.heap.size w w':=by
 go_enter Tryz.func27,Tryz.ntmps27
 go_wp2_with fail
 have hlen:(decS n).length≤20:=decS_len 19 n (by omega)
 have HLEN:=Lib.hid hlen
 clear hlen
 go_loopw [0,3] (fun v s wr=>∃ (m:Nat) (t:ByteArray) (ys:List UInt8),v = .int .u64 m∧s = .string t∧(m:Int)≤18446744073709551615∧Hid (t=⟨ys.toArray⟩)∧Hid (decS n=decS m++ys)∧Below w.heap.size w wr) (fun v _ _=>(intOf v).toNat)
 case atStart=>exact ⟨n,_,[],rfl,rfl,hn,rfl,by unfold Hid;simp,Below.refl _ _⟩
 case round =>
  obtain ⟨m,t,ys,rfl,rfl,hm,HT,HD,hb⟩:=hrel
  have hts:t.size≤20:=by
   have h1:=HLEN.out
   rw [HD.out,List.length_append] at h1
   rw [HT.out]
   show ys.toArray.size≤20
   simp;omega
  have hb1:=nxa hb (.cells #[bv (UInt8.ofNat (48+m % 10))] 5)
  have HBV:Hid (Value.int .u8 (48+(m:Int) % 10)=bv (UInt8.ofNat (48+m % 10))):=bv_ofNat _ _ (by omega)
  by_cases h10:m<10
  ·have b1:((m:Int) / 10 == 0)=true:=by rw [beq_iff_eq];omega
   have hfin:Hid (decS n=UInt8.ofNat (48+m % 10) :: ys):=by unfold Hid;rw [HD.out,decS_small m h10];rfl
   clear h10
   go_wp2_with (refine wpList_str (o:=⟨some 9,_,_,_,_,_⟩) _ rfl _ rfl Tryz.underlying22 Tryz.underlying5 Tryz.underlying9 _ [UInt8.ofNat (48+m % 10)] _ rfl (Rd.one (bv_ofNat _ _ (by omega)) rfl) ?_;intro s1 HS1 hs1 hs2;have hsum:s1.size+t.size≤9223372036854775807:=by (simp at hs1;omega))
   go_ret
   rw [HBV.out]
   refine ⟨?_,hb1⟩
   rw [hfin.out,HS1.out,HT.out]
   rfl
  ·have b1:((m:Int) / 10 == 0)=false:=by rw [beq_eq_false_iff_ne];omega
   have hnext:Hid (decS n=decS (m / 10)++(UInt8.ofNat (48+m % 10) :: ys)):=by unfold Hid;rw [HD.out,decS_step m (by omega),List.append_assoc];rfl
   go_wp2_with (refine wpList_str (o:=⟨some 9,_,_,_,_,_⟩) _ rfl _ rfl Tryz.underlying22 Tryz.underlying5 Tryz.underlying9 _ [UInt8.ofNat (48+m % 10)] _ rfl (Rd.one (bv_ofNat _ _ (by omega)) rfl) ?_;intro s1 HS1 hs1 hs2;have hsum:s1.size+t.size≤9223372036854775807:=by (simp at hs1;omega))
   go_roundw
   case rel =>
    rw [HBV.out]
    refine ⟨m / 10,s1++t,UInt8.ofNat (48+m % 10) :: ys,by go_num,rfl,by omega,?_,hnext,hb1⟩
    unfold Hid
    rw [HS1.out,HT.out]
    rfl
   case measure=>simp [intOf];omega
set_option maxHeartbeats 800000 in
theorem tenText_any (v:Int) (w:World) (h1 : -9223372036854775808≤v) (h2:v≤9223372036854775807) :
  Calls Tryz.prog 15 #[.int .i64 v] w fun e w'=>e = .returned (.string ⟨(tenS v).toArray⟩)∧Below w.heap.size w w':=by
 by_cases hneg:v<0
 ·obtain ⟨n,hn,hn2⟩:∃ n:Nat,-(v+1)+1=(n:Int)∧(n:Int)≤9223372036854775808:=⟨(-v).toNat,by omega,by omega⟩
  have HF:Hid (tenS v=45 :: decS n):=by
   unfold Hid tenS;rw [if_pos hneg];congr 2;omega
  have hlen:(decS n).length≤20:=decS_len 19 n (by omega)
  obtain ⟨T,HT⟩:∃ T:ByteArray,Hid (T=⟨(decS n).toArray⟩):=⟨_,rfl⟩
  have hts:T.size≤20:=by
   rw [HT.out];show (decS n).toArray.size≤20;simpa using hlen
  go_enter Tryz.func15,Tryz.ntmps15
  go_wp2_with fail
  refine (plain_any n _ (by omega)).mono ?_;rintro e w1 ⟨rfl,hb1⟩
  rw [← HT.out]
  go_wp2_with fail
  go_ret
  refine ⟨?_,hb1⟩
  rw [HF.out,HT.out]
  rfl
 ·obtain ⟨n,rfl⟩:=Int.eq_ofNat_of_zero_le (a:=v) (by omega)
  have HF:Hid (tenS (n:Int)=decS n):=by unfold Hid tenS;rw [if_neg hneg];rfl
  clear hneg
  go_enter Tryz.func15,Tryz.ntmps15
  go_wp2_with fail
  refine (plain_any n _ (by omega)).mono ?_;rintro e w1 ⟨rfl,hb1⟩
  go_wp2_with fail
  go_ret
  refine ⟨?_,hb1⟩
  rw [HF.out]
  rfl
end Go.Proofs.YteclejplbphkpaaGreat
