/- DecBack: for every number the law returns true and leaves memory as it was. No condition (what is plain of it). Spaces, line ends and notes between words turn nothing but places. -/
import Derived.Test.YteclejplbphkpaaGreatG29
import Derived.Test.YteclejplbphkpaaGreatG16
import Derived.Test.YteclejplbphkpaaGreatG24
import Derived.Test.YteclejplbphkpaaGreatG26
import Derived.Test.YteclejplbphkpaaGreatG27
import Derived.Deep.CutBlock
import Derived.Deep.DeepCutAuto
set_option linter.unusedVariables false
set_option linter.unusedSimpArgs false
set_option linter.unnecessarySimpa false
namespace Go.Proofs.YteclejplbphkpaaGreat
open Go.RowKit
theorem rnd_near (a b:Nat) (hb:0<b):2 * (rnd a b * b)≤2 * a+b∧2 * a≤2 * (rnd a b * b)+b:=by
 have hdm:=Nat.div_add_mod a b
 have hm:=Nat.mod_lt a hb
 have e3:b * (a / b)=a / b * b:=Nat.mul_comm _ _
 unfold rnd
 split
 ·rename_i h
  rw [Nat.add_mul,Nat.one_mul]
  omega
 ·rename_i h
  omega
theorem near_same (X Y Z W:Nat) (hY:0<Y) (hW:0<W) (h:X * W=Z * Y):near X Y=near Z W:=by
 rw [← near_mul X Y W hW,← near_mul Z W Y hY,h,Nat.mul_comm W Y]
theorem numS_shift (n j:Nat) (k:Int):numS (n * 10 ^ j) k=numS n (k+j):=by
 rw [← near_numS,← near_numS,Nat.one_mul,Nat.one_mul]
 refine near_same _ _ _ _ (Nat.pow_pos (by decide)) (Nat.pow_pos (by decide)) ?_
 obtain ⟨V,hV⟩:∃ V,2 ^ tz=V:=⟨_,rfl⟩
 rw [hV]
 clear hV
 have e:10 ^ j * 10 ^ k.toNat * 10 ^ (-(k+j)).toNat=10 ^ (k+j).toNat * 10 ^ (-k).toNat:=by
  rw [← Nat.pow_add,← Nat.pow_add,← Nat.pow_add]
  congr 1
  omega
 calc n * 10 ^ j * 10 ^ k.toNat * V * 10 ^ (-(k+j)).toNat=n * (10 ^ j * 10 ^ k.toNat * 10 ^ (-(k+j)).toNat) * V:=by simp only [Nat.mul_assoc,Nat.mul_comm,Nat.mul_left_comm]
  _=n * (10 ^ (k+j).toNat * 10 ^ (-k).toNat) * V:=by rw [e]
  _=n * 10 ^ (k+j).toNat * V * 10 ^ (-k).toNat:=by simp only [Nat.mul_assoc,Nat.mul_comm,Nat.mul_left_comm]
theorem ex_bits (b:Nat) (hb:b<LIM):∃ E:Nat,(E:Int)=exP b+1074∧E * 4503599627370496+exM b=b∧(E=0∨4503599627370496≤exM b)∧exM b<9007199254740992:=by
 unfold LIM at hb
 by_cases h:b / 4503599627370496=0
 ·refine ⟨0,?_,?_,.inl rfl,?_⟩
  ·unfold exP;rw [if_pos h];rfl
  ·unfold exM;rw [if_pos h];omega
  ·unfold exM;rw [if_pos h];omega
 ·refine ⟨b / 4503599627370496 - 1,?_,?_,.inr ?_,?_⟩
  ·unfold exP;rw [if_neg h];omega
  ·unfold exM;rw [if_neg h];omega
  ·unfold exM;rw [if_neg h];omega
  ·unfold exM;rw [if_neg h];omega
theorem back (b:Nat) (hb:b<LIM) (T:Int) (h1:GE10 (exX b) (exY b) T):numS (digQ (exX b) (exY b) T) (T - 16)=b:=by
 obtain ⟨E,hE,hEb,hE2,hm⟩:=ex_bits b hb
 have ht:=tz_eq
 obtain ⟨k,hk⟩:∃ k:Int,T - 16=k:=⟨_,rfl⟩
 have hexp:E+(-exP b).toNat=tz+(exP b).toNat:=by omega
 have ht1:(16 - T).toNat=(-k).toNat:=by omega
 have ht2:(-(16 - T)).toNat=k.toNat:=by omega
 have hm9:exM b≤9007199254740991:=by omega
 rw [ge10_iff (exX b) (exY b) T ((-(16 - T)).toNat+16) (16 - T).toNat (by omega),Nat.pow_add,← Nat.mul_assoc] at h1
 obtain ⟨Kp,hKp⟩:∃ K,10 ^ k.toNat=K:=⟨_,rfl⟩
 obtain ⟨Km,hKm⟩:∃ K,10 ^ (-k).toNat=K:=⟨_,rfl⟩
 obtain ⟨Qp,hQp⟩:∃ K,2 ^ (exP b).toNat=K:=⟨_,rfl⟩
 obtain ⟨Qm,hQm⟩:∃ K,2 ^ (-exP b).toNat=K:=⟨_,rfl⟩
 obtain ⟨V,hV⟩:∃ K,2 ^ tz=K:=⟨_,rfl⟩
 obtain ⟨U,hU⟩:∃ K,2 ^ E=K:=⟨_,rfl⟩
 have pKp:0<Kp:=by rw [← hKp];exact Nat.pow_pos (by decide)
 have pKm:0<Km:=by rw [← hKm];exact Nat.pow_pos (by decide)
 have pQm:0<Qm:=by rw [← hQm];exact Nat.pow_pos (by decide)
 have pV:0<V:=by rw [← hV];exact Nat.pow_pos (by decide)
 have pU:0<U:=by rw [← hU];exact Nat.pow_pos (by decide)
 have hUV:U * Qm=V * Qp:=by
  rw [← hU,← hQm,← hV,← hQp,← Nat.pow_add,← Nat.pow_add,hexp]
 have ex:exX b=exM b * Qp:=by unfold exX;rw [hQp]
 have ey:exY b=Qm:=by unfold exY;rw [hQm,Nat.one_mul]
 obtain ⟨D,hD⟩:∃ D,digQ (exX b) (exY b) T=D:=⟨_,rfl⟩
 have hDr:rnd (exM b * Qp * Km) (Qm * Kp)=D:=by
  rw [← hD];unfold digQ
  rw [ex,ey,ht1,ht2,hKp,hKm]
 rw [ex,ey,ht1,ht2,hKp,hKm] at h1
 have hn:=rnd_near (exM b * Qp * Km) (Qm * Kp) (Nat.mul_pos pQm pKp)
 rw [hDr] at hn
 rw [hD,hk,← near_numS,hKp,hKm,hV,Nat.one_mul,← hEb]
 clear hV hKp hKm hQp hQm hD hDr ht hexp ht1 ht2 hk hE ex ey hEb
 generalize exM b=m at *
 have i1:2 * (D * (Qm * Kp)) * V≤(2 * (m * Qp * Km)+Qm * Kp) * V:=Nat.mul_le_mul_right _ hn.1
 have i2:2 * (m * Qp * Km) * V≤(2 * (D * (Qm * Kp))+Qm * Kp) * V:=Nat.mul_le_mul_right _ hn.2
 have i3:Qm * Kp * 10 ^ 16 * V≤m * Qp * Km * V:=Nat.mul_le_mul_right _ h1
 obtain ⟨s,hs⟩:∃ s,Km * U * Qm=s:=⟨_,rfl⟩
 obtain ⟨a,ha⟩:∃ a,Qm * Kp * V=a:=⟨_,rfl⟩
 obtain ⟨xz,hxz⟩:∃ x,D * Kp * V * Qm=x:=⟨_,rfl⟩
 have ps:0<s:=by rw [← hs];exact Nat.mul_pos (Nat.mul_pos pKm pU) pQm
 have e1:2 * (D * (Qm * Kp)) * V=2 * xz:=by rw [← hxz];simp only [Nat.mul_assoc,Nat.mul_comm,Nat.mul_left_comm]
 have e2:m * Qp * Km * V=m * s:=by
  rw [← hs]
  calc m * Qp * Km * V=m * (Km * (V * Qp)):=by simp only [Nat.mul_assoc,Nat.mul_comm,Nat.mul_left_comm]
   _=m * (Km * U * Qm):=by rw [← hUV,Nat.mul_assoc]
 have e3:2 * (m * Qp * Km) * V=2 * (m * s):=by rw [Nat.mul_assoc,e2]
 have e4:Qm * Kp * 10 ^ 16 * V=10000000000000000 * a:=by rw [← ha];simp only [Nat.mul_assoc,Nat.mul_comm,Nat.mul_left_comm]
 rw [Nat.add_mul,e1,e3,ha] at i1
 rw [Nat.add_mul,e1,e3,ha] at i2
 rw [e4,e2] at i3
 have hms:m * s≤9007199254740991 * s:=Nat.mul_le_mul_right _ hm9
 have cancel:∀ {p q:Nat},p * Qm<q * Qm→p<q:=fun h=>Nat.lt_of_mul_lt_mul_right h
 refine near_by _ _ m E pKm hm hE2 ?_ ?_ ?_
 all_goals rw [hU]
 ·apply cancel
  have f1:2 * (D * Kp * V) * Qm=2 * xz:=by rw [← hxz,Nat.mul_assoc]
  have f2:(2 * m+1) * (Km * U) * Qm=2 * (m * s)+s:=by rw [← hs,Nat.add_mul,Nat.add_mul,Nat.one_mul];simp only [Nat.mul_assoc]
  rw [f1,f2];omega
 ·apply cancel
  have f1:2 * m * (Km * U) * Qm=2 * (m * s):=by rw [← hs];simp only [Nat.mul_assoc]
  have f2:(2 * (D * Kp * V)+Km * U) * Qm=2 * xz+s:=by rw [← hxz,← hs,Nat.add_mul,Nat.mul_assoc 2]
  rw [f1,f2];omega
 ·intro hm2
  apply cancel
  have f1:4 * m * (Km * U) * Qm=4 * (m * s):=by rw [← hs];simp only [Nat.mul_assoc]
  have f2:(4 * (D * Kp * V)+Km * U) * Qm=4 * xz+s:=by rw [← hxz,← hs,Nat.add_mul,Nat.mul_assoc 4]
  rw [f1,f2]
  subst hm2
  omega
theorem trim_split (m:List UInt8):∃ j,m=Lib.trimRightB m 48++List.replicate j 48:=by
 unfold Lib.trimRightB
 have h:∀ r:List UInt8,∃ j,r=List.replicate j 48++r.dropWhile (· == 48):=by
  intro r
  induction r with
  | nil=>exact ⟨0,rfl⟩
  | cons c r ih =>
   by_cases hc:c=48
   ·obtain ⟨j,hj⟩:=ih
    refine ⟨j+1,?_⟩
    subst hc
    rw [List.replicate_succ,List.cons_append]
    simp only [List.dropWhile_cons,beq_self_eq_true,if_true]
    rw [← hj]
   ·refine ⟨0,?_⟩
    simp [List.dropWhile_cons,hc]
 obtain ⟨j,hj⟩:=h m.reverse
 refine ⟨j,?_⟩
 have:=congrArg List.reverse hj
 rw [List.reverse_reverse,List.reverse_append,List.reverse_replicate] at this
 exact this
theorem valS_noughts (l:List UInt8) (j:Nat):valS (l++List.replicate j 48)=valS l * 10 ^ j:=by
 rw [valS_app,List.length_replicate]
 have:valS (List.replicate j 48)=0:=by
  induction j with
  | zero=>rfl
  | succ j ih=>rw [List.replicate_succ',valS_snoc,ih];decide
 rw [this,Nat.add_zero]
theorem parse_shown (sg:List UInt8) (neg:Bool) (hsg:sg=[]∧neg=false∨sg=[43]∧neg=false∨sg=[45]∧neg=true) (T:Int) (hT1 : -380≤T) (hT2:T≤380) (D:Nat) (hD:D<10 ^ 19) (N:Nat) (hN:numS D (T - 16)=N) (hl:N<LIM) (h10:10≤D) :
  parseS (sg++showD T D)=((if neg then 9223372036854775808 else 0)+N,0):=by
 have hlen:=decS_len' D 19 hD (by decide)
 have hdg:=decS_digs D
 have hval:=valS_decS D
 have hlen2:2≤(decS D).length:=by
  rw [decS_step D h10,List.length_append]
  have:=decS_pos (D / 10)
  simp;omega
 unfold showD
 cases hq:decS D with
 | nil=>exact absurd hq (decS_ne D)
 | cons c m =>
  rw [hq] at hlen hdg hval hlen2
  have hml:1≤m.length:=by simp at hlen2;omega
  obtain ⟨F,hF⟩:∃ F,tailS m=F:=⟨_,rfl⟩
  have hdm:digs m:=fun d hd=>hdg d (List.mem_cons_of_mem _ hd)
  have key:digs F∧F≠[]∧F.length≤m.length∧valS (c :: F) * 10 ^ (m.length - F.length)=D:=by
   obtain ⟨j,hj⟩:=trim_split m
   unfold tailS at hF
   split at hF
   ·rename_i h
    subst hF
    rw [h,List.nil_append] at hj
    refine ⟨by intro d hd;rw [List.mem_singleton.1 hd];decide,by simp,hml,?_⟩
    have hjm:m.length=j:=by rw [hj];simp
    have h1:valS (c :: m)=valS [c] * 10 ^ j:=by
     rw [hj];exact valS_noughts [c] j
    have h2:valS [c,48]=valS [c] * 10:=valS_noughts [c] 1
    rw [← hval,h1,h2,hjm,Nat.mul_assoc]
    congr 1
    rw [show ([48]:List UInt8).length=1 from rfl,← Nat.pow_succ']
    congr 1
    omega
   ·rename_i h
    have hjm:m.length=(Lib.trimRightB m 48).length+j:=by
     conv=>lhs;rw [hj]
     simp
    rw [hF] at hj hjm
    refine ⟨fun d hd=>hdm d (by rw [hj];exact List.mem_append_left _ hd),by rw [← hF];exact h,by omega,?_⟩
    rw [show m.length - F.length=j from by omega,← valS_noughts,← hval,List.cons_append,← hj]
  obtain ⟨k1,k2,k3,k4⟩:=key
  obtain ⟨E,hE⟩:∃ E:Int,T+(((c :: m).length:Nat):Int) - 17=E:=⟨_,rfl⟩
  have hcl:(c :: m).length=m.length+1:=rfl
  have hE1 : -400≤E:=by omega
  have hE2:E≤400:=by omega
  rw [hE]
  have hc:digs [c]:=fun d hd=>hdg d (by rw [List.mem_singleton.1 hd];exact List.mem_cons_self ..)
  have hp:=parse_main sg neg hsg [c] F (46 :: F) hc k1 (.inr ⟨rfl,k2⟩) (by simp at hlen ⊢;omega) (101 :: tenS E) E (Sfx.ten E hE1 hE2)
  have hsh:=numS_shift (valS (c :: F)) (m.length - F.length) (T - 16)
  rw [k4,hN,show T - 16+((m.length - F.length:Nat):Int)=E - F.length from by omega] at hsh
  rw [show ([c]:List UInt8)++F=c :: F from rfl,← hsh,if_pos hl] at hp
  rw [← hp]
  simp [hF]
theorem two_ten2:2 ^ (3 * 380)≤10 ^ (380:Nat):=by
 obtain ⟨k,hk⟩:∃ k:Nat,k=380:=⟨_,rfl⟩
 rw [← hk,Nat.pow_mul]
 exact Nat.pow_le_pow_left (by decide) k
theorem ex_lo2 (b:Nat) (hb:b<LIM) (h0:b≠0):GE10 (exX b) (exY b) (-380):=by
 have h1:=exP_b b hb
 have h2:=exX_pos b h0
 have h3:=two_ten2
 unfold GE10
 rw [show ((-380:Int)).toNat=0 from rfl,Nat.pow_zero,Nat.mul_one,show (- (-380:Int)).toNat=380 from rfl]
 unfold exY
 rw [Nat.one_mul]
 calc 2 ^ (-exP b).toNat≤2 ^ (3 * 380):=Nat.pow_le_pow_right (by decide) (by omega)
  _≤10 ^ 380:=h3
  _≤exX b * 10 ^ 380:=Nat.le_mul_of_pos_left _ h2
theorem ex_hi2 (b:Nat) (hb:b<LIM) (h0:b≠0):¬ GE10 (exX b) (exY b) 380:=by
 have h1:=exP_b b hb
 have h2:=exM_b b h0
 have h3:=two_ten2
 have h4:=exY_pos b
 unfold GE10
 rw [show (-(380:Int)).toNat=0 from rfl,Nat.pow_zero,Nat.mul_one,show ((380:Int)).toNat=380 from rfl,Nat.not_le]
 unfold exX
 calc exM b * 2 ^ (exP b).toNat<2 ^ 53 * 2 ^ (exP b).toNat:=Nat.mul_lt_mul_of_pos_right (by omega) (Nat.pow_pos (by decide))
  _=2 ^ (53+(exP b).toNat):=(Nat.pow_add ..).symm
  _≤2 ^ (3 * 380):=Nat.pow_le_pow_right (by decide) (by omega)
  _≤10 ^ 380:=h3
  _≤exY b * 10 ^ 380:=Nat.le_mul_of_pos_left _ h4
theorem zero_pos:parseS [48,46,48,101,48]=(0,0):=by decide +kernel
theorem zero_neg:parseS [45,48,46,48,101,48]=(9223372036854775808,0):=by decide +kernel
theorem show_back (B:Nat) (hB:B<18446744073709551616) (l:List UInt8) (h:ShowR B l) (hfin:B % 9223372036854775808<LIM):parseS l=(B,0):=by
 unfold ShowR at h
 rw [if_neg (by omega)] at h
 by_cases h0:B % 9223372036854775808=0
 ·rw [if_pos h0] at h
  rcases (show B=0∨B=9223372036854775808 by omega) with rfl | rfl
  ·rw [h,show sgS 0=[] from rfl];exact zero_pos
  ·rw [h,show sgS 9223372036854775808=[45] from rfl];exact zero_neg
 ·rw [if_neg h0] at h
  obtain ⟨T,h1,h2,h3⟩:=h
  have hlo:=ex_lo2 _ hfin h0
  have hhi:=ex_hi2 _ hfin h0
  have hT1 : -380≤T:=by
   rcases Int.lt_or_le T (-380) with h | h
   ·exact absurd (ge10_mono hlo (show T+1≤-380 by omega)) h2
   ·exact h
  have hT2:T≤380:=by
   rcases Int.lt_or_le 380 T with h | h
   ·exact absurd (ge10_mono h1 (show 380≤T by omega)) hhi
   ·exact h
  have hdb:=digQ_b _ _ T (exY_pos _) h1 h2
  have hbk:=back _ hfin T h1
  rw [h3]
  by_cases hneg:9223372036854775808≤B
  ·have hs:sgS B=[45]:=by unfold sgS;rw [if_pos hneg]
   rw [hs,parse_shown [45] true (.inr (.inr ⟨rfl,rfl⟩)) T hT1 hT2 _ (by omega) _ hbk hfin (by omega),if_pos rfl]
   congr 1;omega
  ·have hs:sgS B=[]:=by unfold sgS;rw [if_neg hneg]
   rw [hs,parse_shown [] false (.inl ⟨rfl,rfl⟩) T hT1 hT2 _ (by omega) _ hbk hfin (by omega),if_neg (by decide)]
   congr 1;omega
end Go.Proofs.YteclejplbphkpaaGreat
namespace Go.Proofs.YteclejplbphkpaaGreat
open Go.RowKit
def gapA:Array Value:=#[.string ⟨#[32]⟩,.string ⟨#[10]⟩,.string ⟨#[9,32,13]⟩,.string ⟨#[47,42,32,97,32,42,47]⟩,.string ⟨#[35,32,120,10]⟩,.string ⟨#[47,47,32,121,10]⟩]
theorem gap_at (k:Nat) (hk:k<6):∃ u:ByteArray,gapA[k]? = some (.string u)∧Tx u (gap6 k)∧(gap6 k).length≤7:=by
 rcases (show k=0∨k=1∨k=2∨k=3∨k=4∨k=5 by omega) with rfl | rfl | rfl | rfl | rfl | rfl <;> exact ⟨_,rfl,rfl,by decide⟩
def howF (ys:List UInt8) (i:Nat):Nat:=if h:i<ys.length then ys[i].toNat % 6 else 0
theorem howF_lt (ys:List UInt8) (i:Nat):howF ys i<6:=by unfold howF;split <;> omega
theorem wordT_len {sh:Nat→List UInt8} (hsh:∀ B,(sh B).length≤50) {x:TokV} (h:TokOk (bare x)) (ht:x.t.length≤2000):(wordT sh (bare x)).length≤2010:=by
 have hk:(bare x).2.1=x.t:=rfl
 generalize bare x=v at h hk
 cases h with
 | name h=>show _≤_;rw [← hk] at ht;exact Nat.le_trans ht (by decide)
 | int n h1 h2=>show (tenS n).length≤2010;exact Nat.le_trans (tenS_len20 n h1 h2) (by decide)
 | dbl B w h=>show (sh B).length≤2010;exact Nat.le_trans (hsh B) (by decide)
 | text q s hq h1 h2 =>
  show (quoT s).length≤2010
  rw [← hk] at ht
  unfold quoT
  split <;> simp <;> exact Nat.le_trans ht (by decide)
 | sign c h=>show _≤_;rw [← hk] at ht;exact Nat.le_trans ht (by decide)
 | fin=>exact Nat.zero_le _
theorem rc_leaf1 (w:World) (P:Nat→Prop) (k:Nat) (n:Int) (d:Nat) (t:List UInt8):RC 1 w P ⟨k,n,d,t,.slice none 0 0⟩ (.mk k n d t []):=RC.mk RepL.nil_
theorem ok_leaf1 (k:Nat) (n:Int) (d:Nat) (t:List UInt8) (h1 : -9223372036854775808≤n) (h2:n≤9223372036854775807) (h3:d<18446744073709551616):okC 1 (.mk k n d t []):=⟨⟨h1,h2⟩,h3,by decide,fun y hy=>by cases hy⟩
set_option maxRecDepth 100000 in
set_option maxHeartbeats 12800000 in
theorem TokenSpaces_walk (A:Option Addr) (xs:List UInt8) (c:Nat) (A2:Option Addr) (ys:List UInt8) (c2:Nat) (w:World) (hm:MaxC w) (hr:Rd bv w A xs) (hc1:xs.length≤c) (hc2:c≤maxLen) (hr2:Rd bv w A2 ys) (hd1:ys.length≤c2) (hd2:c2≤maxLen) :
  Calls Tryz.prog 3 #[.slice A xs.length c,.slice A2 ys.length c2] w fun e w'=>e = .returned (.bool true)∧Below w.heap.size w w':=by
 have HM:=Lib.hid hm
 have HR:=Lib.hid hr
 have HR2:=Lib.hid hr2
 obtain ⟨n,hn⟩:∃ n,xs.length=n:=⟨_,rfl⟩
 obtain ⟨m,hmm⟩:∃ m,ys.length=m:=⟨_,rfl⟩
 clear hm hr hr2
 go_enter Tryz.func3,Tryz.ntmps3
 go_wp2_with fail
 refine (begun_any _ HM.out).mono ?_;rintro e w0 ⟨rfl,hb⟩
 by_cases h100:100<xs.length
 ·have g1:decide ((xs.length:Int) > 100)=true:=decide_eq_true (by omega)
  have g2:(100:Int)<(xs.length:Int):=by omega
  clear h100 hc1 hc2 hn hmm hd1 hd2
  go_wp2_with fail
  go_ret
  exact ⟨rfl,hb⟩
 have g1:decide ((xs.length:Int) > 100)=false:=decide_eq_false (by omega)
 have g2:¬ (100:Int)<(xs.length:Int):=by omega
 by_cases h200:200<ys.length
 ·have g3:decide ((ys.length:Int) > 200)=true:=decide_eq_true (by omega)
  have g4:(200:Int)<(ys.length:Int):=by omega
  clear h100 h200 hc1 hc2 hn hmm hd1 hd2
  go_wp2_with fail
  go_ret
  exact ⟨rfl,hb⟩
 have g3:decide ((ys.length:Int) > 200)=false:=decide_eq_false (by omega)
 have g4:¬ (200:Int)<(ys.length:Int):=by omega
 have hx:xs.length≤1000:=by omega
 have HY2:Hid (ys.length≤200):=by unfold Hid;omega
 have HB0:=Lib.hid hb
 clear h100 h200 hb hn hmm hd1 hd2
 go_wp2_with fail
 refine (plMade_any A xs c w0 (HR.out.below HB0.out) hx).mono ?_;rintro e w1 ⟨b,rfl,hpk,hn1,hbb⟩
 have HN1:=Lib.hid hn1
 have HBB:=Lib.hid hbb
 have HPK:=Lib.hid hpk
 clear hpk hn1 hbb hc1 hc2 hx g1 g2 g3 g4
 go_wp2_with fail
 refine (plFiles_any b xs w1 HPK.out).mono ?_;rintro e w2 ⟨v,rfl,fls,r',hlf,hpf,-,hoth⟩
 obtain ⟨sh,hsh,hshl⟩:=sh_ex
 have hL:LenN tenS sh:=⟨tenS_len20,fun B _=>hshl B⟩
 have hSO:ShowOk sh:=fun B h1 h2=>by
  obtain ⟨l,hl,-⟩:=showR_ex B
  have e:=hsh B l hl
  subst e
  exact ⟨hl,show_back B h1 _ hl h2⟩
 obtain ⟨h0,h2,hin⟩:=files_in hL hpf
 obtain ⟨g,fc,⟨xi,xs',xd⟩,rfl,hg,hcell,hrf⟩:=files_first hlf h0
 obtain ⟨hok,hpl⟩:=hin _ (List.getElem_mem h0)
 have hwf:=files_wf hpf _ (List.getElem_mem h0)
 generalize fls[0]=f0 at hrf hok hpl hwf
 have hlx:=print_words tw0 hSO hwf
 obtain ⟨F,hF⟩:∃ F,Hid (printF tenS sh f0=F):=⟨_,Lib.hid rfl⟩
 have hcall:=docPrint_any (prN_is hsh) w2 _ ⟨xi,xs',xd⟩ f0 hrf hok (by rw [hF.out] at hpl ⊢;omega)
 rw [hF.out] at hcall hpl hlx
 have HC:=Lib.hid hcall
 have HLX:=Lib.hid hlx
 have c0:w2.cell? ⟨g,0,none⟩=some xi:=hcell 0 (by decide)
 have c1:w2.cell? ⟨g,1,none⟩=some xs':=hcell 1 (by decide)
 have c2':w2.cell? ⟨g,2,none⟩=some xd:=hcell 2 (by decide)
 have hfl:(0:Int)<(fls.length:Int):=by omega
 have HNX2:Hid (Nx w w2):=Nx.trans HB0.out (hoth.to HN1.out HBB.out)
 have HPL:=Lib.hid hpl
 have HCO:Hid (∀ w P x cc,RC 1 w P x cc→okC 1 cc→((constF tenS sh 1 cc).length:Int)≤1000000000→Calls Tryz.prog 9 #[.agg (conA x)] w fun e w'=>e = .returned (.string ⟨(constF tenS sh 1 cc).toArray⟩)∧Nx w w'):=fun w P x cc=>const_any (prN_is hsh) 1 w P x cc
 have HSO:=Lib.hid hSO
 have HSL:=Lib.hid hshl
 clear hlf hpf hin hok hcell hrf hcall h0 h2 hL hsh hshl hoth hF hpl HN1 HBB HPK HB0 hSO hlx hwf
 go_wp2_with fail
 refine HC.out.mono ?_;rintro e w3 ⟨rfl,hn3⟩
 have HN3:=Lib.hid (HNX2.out.trans hn3)
 obtain ⟨S,hS⟩:∃ S:ByteArray,(⟨F.toArray⟩:ByteArray)=S:=⟨_,rfl⟩
 have HTS:Hid (Tx S F):=by rw [← hS];exact Tx.of F
 rw [hS]
 clear hS hn3 c0 c1 c2' hfl HNX2 HC hg
 go_wp2_with fail
 refine (lex_any S F w3 HTS.out (by have:=HPL.out;omega) (HM.out.nx HN3.out)).mono ?_;rintro e w4 ⟨v1,rfl,hv1,hw1⟩
 have HN4:=Lib.hid (HN3.out.trans hw1)
 by_cases hlong:2000<F.length
 ·rw [lex_long hlong] at hv1 ⊢
  clear hv1 hw1 hlong
  go_wp2_with fail
  go_ret
  exact ⟨rfl,HN4.out⟩
 obtain ⟨ts,hts,-⟩:=HLX.out.lex (by omega)
 have hlen:=lexS_length F
 have hok:=lex_tok_ok F (by rw [hts])
 have hwb:=fun hl=>words_back (sh:=sh) HSO.out (howF ys) (L:=F) (by rw [hts]) hl
 have htl:∀ x ∈ ts,x.t.length≤2000:=by
  have h:=lex_t (F.length+1) 0 F
  have e:lexF (F.length+1) 0 F=lexS F:=by unfold lexS;rw [if_neg hlong]
  rw [e,hts] at h
  intro x hx
  have:=h x hx
  omega
 rw [hts] at hv1 hlen hok hwb ⊢
 dsimp only at hv1 hlen hok hwb ⊢
 obtain ⟨A1,c1,rfl,hc1,hc2,hrd⟩:=hv1.sl
 have HRD:=Lib.hid hrd
 have HOK:=Lib.hid hok
 have HWB:=Lib.hid hwb
 have HTL:=Lib.hid htl
 have hlenI:(ts.length:Int)≤2001:=by omega
 have HR4:=Lib.hid (HR2.out.below HN4.out)
 have HMX:=Lib.hid (HM.out.nx HN4.out)
 obtain ⟨n,hn⟩:∃ n,Hid (ts.length=n):=⟨_,rfl⟩
 rw [hn.out] at hlenI ⊢
 clear hv1 hw1 hlong hts hlen hok hwb htl hrd HLX HTS HPL HN3 HM HR HR2 hc1 hc2
 go_upto_block 0 with (fail)
 go_cut [8] (fun v wx=>∃ S:ByteArray,v = .string S∧Hid (Tx S (agnF sh (howF ys) ts 0))∧(agnF sh (howF ys) ts 0).length≤2100 * n∧Nx w4 wx)
 case first =>
  go_wp2_with fail
  go_loopw [8,9] (fun v iv wr=>∃ (i:Nat) (S:ByteArray),iv = .int .i64 (i:Int)∧v = .string S∧i≤n∧Hid (Tx S (agnF sh (howF ys) (ts.take i) 0))∧(agnF sh (howF ys) (ts.take i) 0).length≤2100 * i∧Nx w4 wr) (fun _ iv _=>(100000 - intOf iv).toNat)
  case atStart=>exact ⟨0,⟨#[]⟩,rfl,rfl,Nat.zero_le _,rfl,Nat.le_refl _,Nx.refl _⟩
  case round =>
   obtain ⟨i,S,rfl,rfl,hi,HS,hSl,hnx⟩:=hrel
   have HNX:=Lib.hid hnx
   by_cases hlt:i<n
   ·have hlt':i<ts.length:=by rw [hn.out];exact hlt
    have hstep:=agnF_step sh (howF ys) ts i hlt'
    have hTOK:=HOK.out _ (List.getElem_mem hlt')
    have hTTL:=HTL.out _ (List.getElem_mem hlt')
    have hWL:=wordT_len HSL.out hTOK hTTL
    obtain ⟨ga,rfl,hga,a0,a1,a2,a3,a4⟩:=(HRD.out.nx hnx).at_ i hlt'
    obtain ⟨⟨fk,ft,fv,fd,fp⟩,hx⟩:∃ x,ts[i]=x:=⟨_,rfl⟩
    rw [hx] at hstep hTOK hTTL hWL a0 a1 a2 a3 a4
    dsimp only at hTTL a0 a1 a2 a3 a4
    rw [Nat.add_zero] at a0
    obtain ⟨k,hk⟩:∃ k,howF ys i=k:=⟨_,rfl⟩
    have hk6:k<6:=by rw [← hk];exact howF_lt ys i
    rw [hk] at hstep
    obtain ⟨G,hG1,hG2,hG3⟩:=gap_at k hk6
    obtain ⟨L,hL⟩:∃ L,agnF sh (howF ys) (ts.take i) 0=L:=⟨_,rfl⟩
    rw [hL] at HS hSl hstep
    have HTX1:Hid (Tx (S++G) (L++gap6 k)):=HS.out.cat hG2
    have hSz:S.size=L.length:=HS.out.size
    have hGz:G.size=(gap6 k).length:=hG2.size
    have hLI:(L.length:Int)≤5000000:=by omega
    have hGI:((gap6 k).length:Int)≤7:=by omega
    have q1:decide ((i:Int)<(n:Int))=true:=decide_eq_true (by omega)
    have q2:(i:Int)<(n:Int):=by omega
    have hSG:(S++G).size=L.length+(gap6 k).length:=by rw [HTX1.out.size,List.length_append]
    have HSTEP:=Lib.hid hstep
    have HTOK:=Lib.hid hTOK
    have HWL:=Lib.hid hWL
    have HTTL:=Lib.hid hTTL
    have HKK:=Lib.hid hk
    have HGA:=Lib.hid hG1
    have HLT:=Lib.hid hlt
    have HSL2:=Lib.hid hSl
    have hftI:(ft.length:Int)≤2000:=by omega
    clear hstep hTOK hWL hTTL hnx hk hG1 hG2 hG3 hL hx hlt hSl hi
    go_upto_if 49 with (fail)
    go_cut [10] (fun kv wx=>∃ w5,w5=wx∧kv = .int .i64 (k:Int)∧w5=wr)
    case first =>
     by_cases hy:i<ys.length
     ·have hk2:=HKK.out
      unfold howF at hk2
      rw [dif_pos hy] at hk2
      obtain ⟨gb,off,rfl,hgb,hcb⟩:=(HR4.out.below HNX.out) (by cases ys with | nil=>exact absurd hy (by simp) | cons _ _=>simp)
      have cb:=hcb i hy
      obtain ⟨d,hd⟩:∃ d,ys[i]=d:=⟨_,rfl⟩
      rw [hd] at hk2 cb
      unfold bv at cb
      have r1:decide ((i:Int)<(ys.length:Int))=true:=decide_eq_true (by omega)
      have r2:(i:Int)<(ys.length:Int):=by omega
      have hmod:(d.toNat:Int).tmod 6=(k:Int):=by rw [← hk2];rfl
      have hwr:IntKind.i64.wrap (d.toNat:Int)=(d.toNat:Int):=by rw [IntKind.wrap_i64];have:=d.toNat_lt;omega
      clear hk2 hd hy hcb
      go_wp2_with fail
      go_meet
      case rel=>exact ⟨_,rfl,rfl,rfl⟩
     ·have hk2:=HKK.out
      unfold howF at hk2
      rw [dif_neg hy] at hk2
      subst hk2
      have r1:decide ((i:Int)<(ys.length:Int))=false:=decide_eq_false (by omega)
      have r2:¬ (i:Int)<(ys.length:Int):=by omega
      clear hy
      go_wp2_with fail
      go_meet
      case rel=>exact ⟨_,rfl,rfl,rfl⟩
    case rest =>
    obtain ⟨w5,hw5,rfl,rfl⟩:=hcut
    subst hw5
    obtain ⟨gn,hgn⟩:∃ gn,w5.heap.size=gn:=⟨_,rfl⟩
    have hBn:Blk (w5.alloc (.cells #[.string ⟨#[32]⟩,.string ⟨#[10]⟩,.string ⟨#[9,32,13]⟩,.string ⟨#[47,42,32,97,32,42,47]⟩,.string ⟨#[35,32,120,10]⟩,.string ⟨#[47,47,32,121,10]⟩] 9)) gn gn gapA 9:=by rw [← hgn];exact Blk.new w5 gapA _
    have cG:(w5.alloc (.cells #[.string ⟨#[32]⟩,.string ⟨#[10]⟩,.string ⟨#[9,32,13]⟩,.string ⟨#[47,42,32,97,32,42,47]⟩,.string ⟨#[35,32,120,10]⟩,.string ⟨#[47,47,32,121,10]⟩] 9)).cell? ⟨gn,k,none⟩=some (.string G):=by rw [hBn.cell k];exact HGA.out
    have HN6:Hid (Nx w4 (w5.alloc (.cells #[.string ⟨#[32]⟩,.string ⟨#[10]⟩,.string ⟨#[9,32,13]⟩,.string ⟨#[47,42,32,97,32,42,47]⟩,.string ⟨#[35,32,120,10]⟩,.string ⟨#[47,47,32,121,10]⟩] 9))):=HNX.out.trans (nx0 _ _)
    have hk6I:(k:Int)<6:=by omega
    have HNN:=Lib.hid (nx0 w5 (.cells #[.string ⟨#[32]⟩,.string ⟨#[10]⟩,.string ⟨#[9,32,13]⟩,.string ⟨#[47,42,32,97,32,42,47]⟩,.string ⟨#[35,32,120,10]⟩,.string ⟨#[47,47,32,121,10]⟩] 9))
    have HGAL:=Lib.hid hga
    have HDD:Hid (∀ (W:Nat×List UInt8×Int×Nat) (u:ByteArray),W=(fk,ft,fv,fd)→Tx u (wordT sh W)→∀ T1,Tx T1 (L++gap6 k)→Tx (T1++u) (agnF sh (howF ys) (ts.take (i+1)) 0)):=by
     intro W u e hu T1 hT1
     rw [HSTEP.out]
     subst e
     exact hT1.cat hu
    have HDE:Hid ((agnF sh (howF ys) (ts.take (i+1)) 0).length≤2100 * (i+1)):=by
     unfold Hid
     rw [HSTEP.out,List.length_append,List.length_append]
     have h1:=HWL.out
     have h2:=HSL2.out
     omega
    go_upto_region 16 with (rw [hgn])
    generalize hWW:World.alloc w5 _=w6 at *
    obtain ⟨T1,hT1⟩:∃ T1,S++G=T1:=⟨_,rfl⟩
    rw [hT1] at HTX1 hSG ⊢
    have HTX1':=Lib.hid HTX1
    have hTz:T1.size≤5000100:=by omega
    have b0:w6.cell? ⟨ga,i * 5,none⟩=some (.int .i64 (fk:Nat)):=(HNN.out.cell (p:=⟨ga,i * 5,none⟩) HGAL.out).trans a0
    have b1:w6.cell? ⟨ga,i * 5+1,none⟩=some (.string ⟨ft.toArray⟩):=(HNN.out.cell (p:=⟨ga,i * 5+1,none⟩) HGAL.out).trans a1
    have b2:w6.cell? ⟨ga,i * 5+2,none⟩=some (.int .i64 fv):=(HNN.out.cell (p:=⟨ga,i * 5+2,none⟩) HGAL.out).trans a2
    have b3:w6.cell? ⟨ga,i * 5+3,none⟩=some (.int .u64 (fd:Nat)):=(HNN.out.cell (p:=⟨ga,i * 5+3,none⟩) HGAL.out).trans a3
    clear hWW hT1 a0 a1 a2 a3 a4 cG hBn hgn HTX1 hSG hSz hGz HNN
    have htok:=HTOK.out
    unfold bare at htok
    dsimp only at htok
    cases htok with
    | name h =>
     go_wp2_with fail
     go_roundw
     case rel=>exact ⟨i+1,_,by go_num,rfl,HLT.out,HDD.out _ _ rfl (Tx.of ft) _ HTX1'.out,HDE.out,HN6.out⟩
     case measure=>simp [intOf];omega
    | int _ h1 h2 =>
     have HC1:=fun w=>Lib.hid (HCO.out w (fun _=>True) ⟨1,fv,0,[],.slice none 0 0⟩ (.mk 1 fv 0 [] []) (rc_leaf1 _ _ _ _ _ _) (ok_leaf1 _ _ _ _ h1 h2 (by decide)) (by have:=tenS_len20 fv h1 h2;show ((tenS fv).length:Int)≤1000000000;omega))
     have hul:(⟨(tenS fv).toArray⟩:ByteArray).size≤20:=by rw [(Tx.of (tenS fv)).size];exact tenS_len20 fv h1 h2
     obtain ⟨U,hU⟩:∃ U:ByteArray,(⟨(tenS fv).toArray⟩:ByteArray)=U:=⟨_,rfl⟩
     have HTU:Hid (Tx U (tenS fv)):=by rw [← hU];exact Tx.of _
     have HC2:∀ w,Hid (Calls Tryz.prog 9 #[.agg #[.int .i64 1,.int .i64 fv,.int .u64 0,.string ⟨#[]⟩,.slice none 0 0]] w fun e w'=>e = .returned (.string U)∧Nx w w'):=fun w=>by rw [← hU];exact (HC1 w).out
     rw [hU] at hul
     clear HC1 hU
     go_wp2_with fail
     refine (HC2 _).out.mono ?_;rintro e w7 ⟨rfl,hn7⟩
     have HN7:=Lib.hid (HN6.out.trans hn7)
     clear hn7
     go_wp2_with fail
     go_roundw
     case rel=>(repeat apply Exists.intro);exact ⟨⟨i+1,_,by go_num,rfl,HLT.out,HDD.out _ _ rfl HTU.out _ HTX1'.out,HDE.out,HN7.out⟩,rfl⟩
     case measure=>simp [intOf];omega
    | dbl _ w hw =>
     obtain ⟨h1,h2⟩:=parse_fin hw
     have hsl:=HSL.out fd
     have HC1:=fun w=>Lib.hid (HCO.out w (fun _=>True) ⟨2,0,fd,[],.slice none 0 0⟩ (.mk 2 0 fd [] []) (rc_leaf1 _ _ _ _ _ _) (ok_leaf1 _ _ _ _ (by decide) (by decide) h1) (by show ((sh fd).length:Int)≤1000000000;omega))
     have hul:(⟨(sh fd).toArray⟩:ByteArray).size≤50:=by rw [(Tx.of (sh fd)).size];exact hsl
     obtain ⟨U,hU⟩:∃ U:ByteArray,(⟨(sh fd).toArray⟩:ByteArray)=U:=⟨_,rfl⟩
     have HTU:Hid (Tx U (sh fd)):=by rw [← hU];exact Tx.of _
     have HC2:∀ w,Hid (Calls Tryz.prog 9 #[.agg #[.int .i64 2,.int .i64 0,.int .u64 (fd:Int),.string ⟨#[]⟩,.slice none 0 0]] w fun e w'=>e = .returned (.string U)∧Nx w w'):=fun w=>by rw [← hU];exact (HC1 w).out
     rw [hU] at hul
     clear HC1 hU hsl h1 h2 hw
     go_wp2_with fail
     refine (HC2 _).out.mono ?_;rintro e w7 ⟨rfl,hn7⟩
     have HN7:=Lib.hid (HN6.out.trans hn7)
     clear hn7
     go_wp2_with fail
     go_roundw
     case rel=>(repeat apply Exists.intro);exact ⟨⟨i+1,_,by go_num,rfl,HLT.out,HDD.out _ _ rfl HTU.out _ HTX1'.out,HDE.out,HN7.out⟩,rfl⟩
     case measure=>simp [intOf];omega
    | text q _ hq h1 h2 =>
     have hql:(quoT ft).length≤ft.length+2:=by unfold quoT;split <;> simp
     have HC1:=fun w=>Lib.hid (HCO.out w (fun _=>True) ⟨3,0,0,ft,.slice none 0 0⟩ (.mk 3 0 0 ft []) (rc_leaf1 _ _ _ _ _ _) (ok_leaf1 _ _ _ _ (by decide) (by decide) (by decide)) (by show ((quoT ft).length:Int)≤1000000000;omega))
     have hul:(⟨(quoT ft).toArray⟩:ByteArray).size≤2002:=by rw [(Tx.of (quoT ft)).size];omega
     obtain ⟨U,hU⟩:∃ U:ByteArray,(⟨(quoT ft).toArray⟩:ByteArray)=U:=⟨_,rfl⟩
     have HTU:Hid (Tx U (quoT ft)):=by rw [← hU];exact Tx.of _
     have HC2:∀ w,Hid (Calls Tryz.prog 9 #[.agg #[.int .i64 3,.int .i64 0,.int .u64 0,.string ⟨ft.toArray⟩,.slice none 0 0]] w fun e w'=>e = .returned (.string U)∧Nx w w'):=fun w=>by rw [← hU];exact (HC1 w).out
     rw [hU] at hul
     clear HC1 hU hql h1 h2 hq
     go_wp2_with fail
     refine (HC2 _).out.mono ?_;rintro e w7 ⟨rfl,hn7⟩
     have HN7:=Lib.hid (HN6.out.trans hn7)
     clear hn7
     go_wp2_with fail
     go_roundw
     case rel=>(repeat apply Exists.intro);exact ⟨⟨i+1,_,by go_num,rfl,HLT.out,HDD.out _ _ rfl HTU.out _ HTX1'.out,HDE.out,HN7.out⟩,rfl⟩
     case measure=>simp [intOf];omega
    | sign x hx =>
     go_wp2_with fail
     go_roundw
     case rel=>exact ⟨i+1,_,by go_num,rfl,HLT.out,HDD.out _ _ rfl (Tx.of [x]) _ HTX1'.out,HDE.out,HN6.out⟩
     case measure=>simp [intOf];omega
    | fin =>
     have hfin:Hid (Tx T1 (agnF sh (howF ys) (ts.take (i+1)) 0)):=by
      unfold Hid
      rw [HSTEP.out,show wordT sh (bare ⟨6,[],0,0,fp⟩)=[] from rfl,List.append_nil]
      exact HTX1'.out
     go_wp2_with fail
     go_roundw
     case rel=>exact ⟨i+1,_,by go_num,rfl,HLT.out,hfin,HDE.out,HN6.out⟩
     case measure=>simp [intOf];omega
   ·obtain rfl:i=n:=by omega
    have q1:decide ((i:Int)<(i:Int))=false:=decide_eq_false (by omega)
    have hta:ts.take i=ts:=List.take_of_length_le (by rw [hn.out];exact Nat.le_refl _)
    rw [hta] at HS hSl
    clear hlt
    go_wp2_with fail
    go_meet
    case rel=>exact ⟨S,rfl,HS,hSl,HNX.out⟩
 case rest =>
 obtain ⟨S,rfl,HS,hSl,hn5⟩:=hcut
 obtain ⟨LL,hLL⟩:∃ LL,Hid (agnF sh (howF ys) ts 0=LL):=⟨_,rfl⟩
 have hwb:=HWB.out
 rw [hLL.out] at HS hSl hwb
 have HWB2:=Lib.hid hwb
 have HN5:=Lib.hid (HN4.out.trans hn5)
 have HRD5:=Lib.hid (HRD.out.nx hn5)
 have hMX5:=HMX.out.nx hn5
 have HMX5:=Lib.hid hMX5
 clear hwb hMX5 HWB hn5 HOK HTL HCO HSO HSL HR4 HMX HRD HY2
 go_wp2_with fail
 refine (lex_any S LL _ HS.out (by omega) HMX5.out).mono ?_;rintro e w6 ⟨v2,rfl,hv2,hw2⟩
 have HN6:=Lib.hid (HN5.out.trans hw2)
 by_cases hlong:2000<LL.length
 ·rw [lex_long hlong] at hv2 ⊢
  clear hv2 hw2 hlong
  go_wp2_with fail
  go_ret
  exact ⟨rfl,HN6.out⟩
 obtain ⟨us,hus,hmap⟩:=HWB2.out (by omega)
 obtain ⟨hlen,hat⟩:=bare_at hmap
 have HAT:=Lib.hid hat
 have HRD6:=Lib.hid (HRD5.out.nx hw2)
 rw [hus] at hv2 ⊢
 dsimp only at hv2 ⊢
 obtain ⟨A3,c3,rfl,hc3,hc4,hru⟩:=hv2.sl
 have HRU:=Lib.hid hru
 have hun:us.length=n:=by rw [hlen,hn.out]
 have HUN:=Lib.hid hun
 rw [hun]
 clear hv2 hw2 hlong hus hmap hlen hat hru hSl hc3 hc4 hun
 go_wp2_with fail
 go_loopw [14] (fun v wr=>∃ i:Nat,v = .int .i64 (i:Int)∧i≤n∧Nx w6 wr) (fun v _=>(100000 - intOf v).toNat)
 case atStart=>exact ⟨0,rfl,Nat.zero_le _,Nx.refl _⟩
 case round =>
  obtain ⟨i,rfl,hi,hb⟩:=hrel
  by_cases hlt:i<n
  ·have h1:i<us.length:=by rw [HUN.out];exact hlt
   have h2:i<ts.length:=by rw [hn.out];exact hlt
   obtain ⟨g,rfl,hg,a0,a1,a2,a3,a4⟩:=(HRD6.out.nx hb).at_ i h2
   obtain ⟨g',rfl,hg',b0,b1,b2,b3,b4⟩:=(HRU.out.nx hb).at_ i h1
   obtain ⟨e1,e2,e3,e4⟩:=HAT.out i h1 h2
   rw [e1] at b0
   rw [e2] at b1
   rw [e3] at b2
   rw [e4] at b3
   have k1:decide ((i:Int)<(n:Int))=true:=decide_eq_true (by omega)
   have k2:(i:Int)<(n:Int):=by omega
   clear b4 a4 e1 e2 e3 e4
   generalize ts[i]=x at *
   rw [Nat.add_zero] at a0 b0
   clear h1 h2
   go_wp2_with fail
   go_quiet (fail)
   go_wp2_with fail
   go_roundw
   case rel=>exact ⟨i+1,congrArg (Value.int .i64) (by omega),hlt,hb.dr _⟩
   case measure =>
    simp only [intOf]
    omega
  ·obtain rfl:i=n:=by omega
   have k1:decide ((i:Int)<(i:Int))=false:=decide_eq_false (by omega)
   go_wp2_with fail
   go_ret
   exact ⟨rfl,HN6.out.trans hb⟩
end Go.Proofs.YteclejplbphkpaaGreat
