/- The contract of the document's answer for dec: how a number is shown. -/
import Derived.Test.YteclejplbphkpaaGreatG10
import Derived.Test.YteclejplbphkpaaGreatG11
import Derived.Test.YteclejplbphkpaaGreatG00
import Derived.Deep.CutBlock
set_option linter.unusedVariables false
set_option linter.unusedSimpArgs false
set_option linter.unnecessarySimpa false
namespace Go.Proofs.YteclejplbphkpaaGreat
open Go.RowKit
def gs (d:Int):Int:=Int.tdiv (d * 30103) 100000 - 2
def gsB (d:Int):Bool:=decide (10 ^ (gs d).toNat * 2 ^ (-(d - 1)).toNat≤2 ^ (d - 1).toNat * 10 ^ (-(gs d)).toNat)
theorem gs_all:((List.range 2401).all fun i=>gsB ((i:Int) - 1200))=true:=by decide +kernel
theorem gs_ok (d:Int) (h1 : -1200≤d) (h2:d≤1200):10 ^ (gs d).toNat * 2 ^ (-(d - 1)).toNat≤2 ^ (d - 1).toNat * 10 ^ (-(gs d)).toNat:=by
 have h:=List.all_eq_true.1 gs_all (d+1200).toNat (List.mem_range.2 (by omega))
 rw [show (((d+1200).toNat:Nat):Int) - 1200=d from by omega] at h
 exact of_decide_eq_true h
theorem gs_ge (x y:Nat) (d:Int) (h1 : -1200≤d) (h2:d≤1200) (h:GE2 x y (d - 1)):GE10 x y (gs d):=by
 have hg:=gs_ok d h1 h2
 unfold GE2 at h
 unfold GE10
 generalize 10 ^ (gs d).toNat=A at *
 generalize 10 ^ (-(gs d)).toNat=A' at *
 have hp:0<2 ^ (-(d - 1)).toNat:=Nat.pow_pos (by decide)
 generalize 2 ^ (d - 1).toNat=U at *
 generalize 2 ^ (-(d - 1)).toNat=U' at *
 refine Nat.le_of_mul_le_mul_right (c:=U') ?_ hp
 calc y * A * U'=y * (A * U'):=Nat.mul_assoc ..
  _≤y * (U * A'):=Nat.mul_le_mul_left _ hg
  _=(y * U) * A':=(Nat.mul_assoc ..).symm
  _≤(x * U') * A':=Nat.mul_le_mul_right _ h
  _=x * A' * U':=by rw [Nat.mul_right_comm]
theorem gs_b (d:Int) (h1 : -1200≤d) (h2:d≤1200) : -400≤gs d∧gs d≤400:=by
 unfold gs
 rcases Int.le_total 0 d with h | h
 ·rw [Int.tdiv_eq_ediv_of_nonneg (by omega)];constructor <;> omega
 ·obtain ⟨k,rfl⟩:∃ k,d = -k:=⟨-d,by omega⟩
  rw [Int.neg_mul,Int.neg_tdiv,Int.tdiv_eq_ediv_of_nonneg (by omega)];constructor <;> omega
theorem Num.wide {w:World} {v:Value} {n K L:Nat} (h:Num w v n K) (hk:K≤L):Num w v n L:=by
 obtain ⟨A,c,ys,a1,a2,a3,a4,a5,a6⟩:=h
 exact ⟨A,c,ys,a1,a2,a3,a4,Nat.le_trans a5 hk,a6⟩
instance ge10Dec (x y:Nat) (p:Int):Decidable (GE10 x y p):=by unfold GE10;infer_instance
set_option maxRecDepth 100000 in
set_option maxHeartbeats 1600000 in
theorem refAbove_any (v u:Value) (x y j:Nat) (p:Int) (w:World) (hx:Num w v x KB) (hy:Num w u y KB) (hxj:x<2 ^ j) (hyj:y<2 ^ j) (hj:j≤100000) (hp1 : -1000≤p) (hp2:p≤1000) :
  Calls Tryz.prog 31 #[v,u,.int .i64 p] w fun e w'=>e = .returned (.bool (decide (GE10 x y p)))∧Nx w w':=by
 by_cases hneg:0≤p
 ·obtain ⟨k,rfl⟩:=Int.eq_ofNat_of_zero_le hneg
  have b1:decide ((0:Int)≤(k:Int))=true:=decide_eq_true hneg
  obtain ⟨C,HC⟩:∃ C,Hid (cmpI x (y * 10 ^ k)=C):=⟨_,rfl⟩
  have hres:decide (0≤C)=decide (GE10 x y (k:Int)):=by
   rw [decide_eq_decide,← HC.out];unfold GE10 cmpI
   rw [show ((k:Int)).toNat=k from by omega,show (-(k:Int)).toNat=0 from by omega,Nat.pow_zero,Nat.mul_one]
   by_cases h1:x<y * 10 ^ k
   ·rw [if_pos h1];simp;omega
   ·rw [if_neg h1];split <;> simp <;> omega
  have HR:=Lib.hid hres
  obtain ⟨b,hb⟩:∃ b,decide (0≤C)=b:=⟨_,rfl⟩
  rw [← HR.out,hb]
  have hk:k≤1000:=by omega
  clear hres hneg
  go_enter Tryz.func31,Tryz.ntmps31
  go_wp2_with fail
  refine (refTen_any k _ (by omega)).mono ?_;rintro e w2 ⟨v2,rfl,hv2,hw2⟩
  have hv2n:=hv2.num
  go_wp2_with fail
  refine (refMul_n _ _ y (10 ^ k) KB _ (hy.below hw2) (hv2n.few (by rw [← Nat.one_mul (10 ^ k)];exact ten_two' 1 1 k (by decide)) (by omega)) KB_le).mono ?_;rintro e w3 ⟨v3,rfl,hv3,hw3⟩
  go_wp2_with fail
  refine (refCmp_n _ _ x (y * 10 ^ k) KB _ (hx.below (Nx.trans hw2 hw3)) (hv3.few (ten_two' y j k hyj) (by omega)) KB_le).mono ?_;rintro e w' ⟨rfl,rfl⟩
  rw [HC.out]
  go_wp2_with fail
  go_ret
  exact ⟨rfl,Nx.trans hw2 hw3⟩
 ·have b1:decide ((0:Int)≤p)=false:=decide_eq_false hneg
  obtain ⟨k,hk⟩:∃ k:Nat,-p=(k:Int):=⟨(-p).toNat,by omega⟩
  obtain ⟨C,HC⟩:∃ C,Hid (cmpI (x * 10 ^ k) y=C):=⟨_,rfl⟩
  have hres:decide (0≤C)=decide (GE10 x y p):=by
   rw [decide_eq_decide,← HC.out];unfold GE10 cmpI
   rw [show p.toNat=0 from by omega,show (-p).toNat=k from by omega,Nat.pow_zero,Nat.mul_one]
   by_cases h1:x * 10 ^ k<y
   ·rw [if_pos h1];simp;omega
   ·rw [if_neg h1];split <;> simp <;> omega
  have HR:=Lib.hid hres
  obtain ⟨b,hb⟩:∃ b,decide (0≤C)=b:=⟨_,rfl⟩
  rw [← HR.out,hb]
  have hk2:k≤1000:=by omega
  clear hres hneg
  go_enter Tryz.func31,Tryz.ntmps31
  go_wp2_with fail
  refine (refTen_any k _ (by omega)).mono ?_;rintro e w2 ⟨v2,rfl,hv2,hw2⟩
  have hv2n:=hv2.num
  go_wp2_with fail
  refine (refMul_n _ _ x (10 ^ k) KB _ (hx.below hw2) (hv2n.few (by rw [← Nat.one_mul (10 ^ k)];exact ten_two' 1 1 k (by decide)) (by omega)) KB_le).mono ?_;rintro e w3 ⟨v3,rfl,hv3,hw3⟩
  go_wp2_with fail
  refine (refCmp_n _ _ (x * 10 ^ k) y KB _ (hv3.few (ten_two' x j k hxj) (by omega)) (hy.below (Nx.trans hw2 hw3)) KB_le).mono ?_;rintro e w' ⟨rfl,rfl⟩
  rw [HC.out]
  go_wp2_with fail
  go_ret
  exact ⟨rfl,Nx.trans hw2 hw3⟩
theorem decS_len_lo (k n:Nat) (h:10 ^ k≤n):k+1≤(decS n).length:=by
 induction k generalizing n with
 | zero=>exact decS_pos n
 | succ k ih =>
  have h10:10≤n:=by
   have:10≤10 ^ (k+1):=by rw [Nat.pow_succ];have:1≤10 ^ k:=Nat.pow_pos (by decide);omega
   omega
  rw [decS_step n h10,List.length_append]
  have:=ih (n / 10) (by rw [Nat.pow_succ] at h;omega)
  simp;omega
theorem trim_nought (m:List UInt8):Lib.trimRightB (m++[48]) 48=Lib.trimRightB m 48:=by
 unfold Lib.trimRightB;simp
theorem tail_nought (m:List UInt8):tailS (m++[48])=tailS m:=by
 unfold tailS;rw [trim_nought]
theorem tail_last (m:List UInt8) (c:UInt8) (h:c≠48):tailS (m++[c])=m++[c]:=by
 have:Lib.trimRightB (m++[c]) 48=m++[c]:=by unfold Lib.trimRightB;simp [h]
 unfold tailS
 rw [this,if_neg (by simp)]
theorem tail_one (c:UInt8):tailS [c]=[c]:=by
 by_cases h:c=48
 ·subst h;rfl
 ·exact tail_last [] c h
theorem showD_is (T:Int) (D:Nat) (h1:10000000000000000≤D) (h2:D≤100000000000000000) (D':Nat) (T':Int) (h3:if D=100000000000000000 then D'=10000000000000000∧T'=T+1 else D'=D∧T'=T) :
  ∃ c m,decS D'=c :: m∧m.length=16∧showD T D=[c]++(46 :: (tailS m++(101 :: tenS T'))):=by
 have hl:∀ n,10000000000000000≤n→n<100000000000000000→∃ c m,decS n=c :: m∧m.length=16:=by
  intro n a b
  have e1:=decS_len_lo 16 n (by omega)
  have e2:=decS_len 16 n (by omega)
  cases hq:decS n with
  | nil=>rw [hq] at e1;simp at e1
  | cons c m=>rw [hq] at e1 e2;exact ⟨c,m,rfl,by simp at e1 e2;omega⟩
 by_cases hD:D=100000000000000000
 ·rw [if_pos hD] at h3
  obtain ⟨rfl,rfl⟩:=h3
  obtain ⟨c,m,e,hm⟩:=hl 10000000000000000 (by decide) (by decide)
  refine ⟨c,m,e,hm,?_⟩
  have hs:decS D=c :: (m++[48]):=by
   rw [hD,decS_step _ (by decide),show 100000000000000000 / 10=10000000000000000 from rfl,e]
   rfl
  unfold showD
  rw [hs]
  have hx:T+(((c :: (m++[48])).length:Nat):Int) - 17=T+1:=by simp;omega
  rw [hx]
  simp [tail_nought]
 ·rw [if_neg hD] at h3
  obtain ⟨rfl,rfl⟩:=h3
  obtain ⟨c,m,e,hm⟩:=hl D' h1 (by omega)
  refine ⟨c,m,e,hm,?_⟩
  unfold showD
  rw [e]
  have hx:T'+(((c :: m).length:Nat):Int) - 17=T':=by simp;omega
  rw [hx]
  simp
def strLenS (v:Value):Nat:=match v with
 | .string s=>s.size
 | _=>0
theorem or52b (a:Nat) (ha:a<4503599627370496):bits .or .u64 (a:Int) (4503599627370496:Int)=((a+4503599627370496:Nat):Int):=by
 have h2:=Nat.two_pow_add_eq_or_of_lt (i:=52) (b:=a) (by omega) 1
 rw [show (4503599627370496:Int)=((4503599627370496:Nat):Int) from rfl,bits_or_u64_nat _ _ (by omega) (by decide)]
 rw [Nat.or_comm,show (4503599627370496:Nat)=2 ^ 52 * 1 from rfl,← h2,Nat.add_comm]
set_option maxRecDepth 100000 in
set_option maxHeartbeats 6400000 in
theorem refShow_any (B:Nat) (w:World) (hB:B<18446744073709551616) :
  Calls Tryz.prog 16 #[.int .u64 B] w fun e w'=>∃ (t:ByteArray) (l:List UInt8),e = .returned (.string t)∧Hid (Tx t l)∧Hid (ShowR B l)∧Nx w w':=by
 obtain ⟨b,hb⟩:∃ b,B % 9223372036854775808=b:=⟨_,rfl⟩
 have hsr:∀ l,ShowR B l↔(if LIM≤b then l=[] else if b=0 then l=sgS B++[48,46,48,101,48] else ∃ T:Int,GE10 (exX b) (exY b) T∧¬ GE10 (exX b) (exY b) (T+1)∧l=sgS B++showD T (digQ (exX b) (exY b) T)):=by
  intro l;unfold ShowR;rw [hb]
 have HSR:=Lib.hid hsr
 clear hsr
 obtain ⟨x,hx,hx2⟩:∃ x:Nat,B / 4503599627370496 % 2048=x∧x=b / 4503599627370496:=⟨_,rfl,by omega⟩
 obtain ⟨m,hm,hm2⟩:∃ m:Nat,B % 4503599627370496=m∧m=b % 4503599627370496:=⟨_,rfl,by omega⟩
 have hand:bits .and .u64 ((B:Int) / 4503599627370496) 2047=(x:Int):=by
  rw [show (B:Int) / 4503599627370496=((B / 4503599627370496:Nat):Int) from by omega,show (2047:Int)=((2047:Nat):Int) from rfl,bits_and_u64_nat _ _ (by omega) (by decide)]
  rw [show (2047:Nat)=2 ^ 11 - 1 from rfl,Nat.and_two_pow_sub_one_eq_mod,← hx]
 have hand2:bits .and .u64 (B:Int) 4503599627370495=(m:Int):=by
  rw [show (4503599627370495:Int)=((4503599627370495:Nat):Int) from rfl,bits_and_u64_nat _ _ hB (by decide)]
  rw [show (4503599627370495:Nat)=2 ^ 52 - 1 from rfl,Nat.and_two_pow_sub_one_eq_mod,← hm]
 have hB2:(B:Int)≤18446744073709551615:=by omega
 obtain ⟨sg,hsg,hsg2⟩:∃ sg:Bool,((B:Int) / 9223372036854775808 == 1)=sg∧sgS B=(if sg then [45] else []):=by
  by_cases h:9223372036854775808≤B
  ·exact ⟨true,by rw [beq_iff_eq];omega,by unfold sgS;rw [if_pos h];rfl⟩
  ·exact ⟨false,by rw [beq_eq_false_iff_ne];omega,by unfold sgS;rw [if_neg h];rfl⟩
 have HX2:=Lib.hid hx2
 have HM2:=Lib.hid hm2
 have HS2:=Lib.hid hsg2
 have hxl:x<2048:=by omega
 have hml:m<4503599627370496:=by omega
 have hbl:b<9223372036854775808:=by omega
 have HBX:Hid (b=x * 4503599627370496+m):=by unfold Hid;omega
 clear hx hm hb hx2 hm2 hsg2
 by_cases hinf:x=2047
 ·have b1:((x:Int) == 2047)=true:=by rw [beq_iff_eq];omega
  have hlim:LIM≤b:=by have:=HBX.out;unfold LIM;omega
  have HL:=Lib.hid hlim
  clear hlim hinf
  cases sg
  all_goals
   go_enter Tryz.func16,Tryz.ntmps16
   go_wp2_with fail
   go_ret
   first
    | exact ⟨_,[],rfl,rfl,(HSR.out _).2 (by rw [if_pos HL.out]),Nx.refl _⟩
    | exact ⟨_,rfl,[],rfl,(HSR.out _).2 (by rw [if_pos HL.out]),Nx.refl _⟩
 ·have b1:((x:Int) == 2047)=false:=by rw [beq_eq_false_iff_ne];omega
  have hlim:b<LIM:=by have:=HBX.out;unfold LIM;omega
  have HL:=Lib.hid hlim
  by_cases h0:b=0
  ·have hx0:x=0:=by have:=HBX.out;omega
   have hm0:m=0:=by have:=HBX.out;omega
   have H0:=Lib.hid h0
   subst hx0 hm0
   clear hlim hinf h0
   cases sg
   ·go_enter Tryz.func16,Tryz.ntmps16
    go_wp2_with fail
    go_ret
    first
     | exact ⟨_,[48,46,48,101,48],rfl,rfl,(HSR.out _).2 (by rw [if_neg (Nat.not_le.2 HL.out),if_pos H0.out,HS2.out];rfl),Nx.refl _⟩
     | exact ⟨_,rfl,[48,46,48,101,48],rfl,(HSR.out _).2 (by rw [if_neg (Nat.not_le.2 HL.out),if_pos H0.out,HS2.out];rfl),Nx.refl _⟩
   ·go_enter Tryz.func16,Tryz.ntmps16
    go_wp2_with fail
    go_ret
    first
     | exact ⟨_,[45,48,46,48,101,48],rfl,rfl,(HSR.out _).2 (by rw [if_neg (Nat.not_le.2 HL.out),if_pos H0.out,HS2.out];rfl),Nx.refl _⟩
     | exact ⟨_,rfl,[45,48,46,48,101,48],rfl,(HSR.out _).2 (by rw [if_neg (Nat.not_le.2 HL.out),if_pos H0.out,HS2.out];rfl),Nx.refl _⟩
  ·
   have hvx:¬ x=0∨(x=0∧¬ m=0):=by have:=HBX.out;omega
   obtain ⟨M,hM,hM0⟩:∃ M,exM b=M∧M=(if x=0 then m else m+4503599627370496):=⟨_,rfl,by unfold exM;rw [← HX2.out,← HM2.out]⟩
   obtain ⟨E,hE,hE0⟩:∃ E:Nat,(E:Int)=exP b+1075∧E=(if x=0 then 1 else x):=⟨if x=0 then 1 else x,by unfold exP;rw [← HX2.out];split <;> omega,rfl⟩
   have hpb:=exP_b b hlim
   have hmb:=exM_b b h0
   rw [hM] at hmb
   have hlo:=Lib.hid (ex_lo b hlim h0)
   have hhi:=Lib.hid (ex_hi b hlim h0)
   have hx0:=Lib.hid (Nat.pos_iff_ne_zero.1 (exX_pos b h0))
   have hy0:=Lib.hid (Nat.pos_iff_ne_zero.1 (exY_pos b))
   have hXe:exX b=M * 2 ^ ((E:Int) - 1075).toNat:=by unfold exX;rw [hM,show (E:Int) - 1075=exP b from by omega]
   have hYe:exY b=1 * 2 ^ (1075 - (E:Int)).toNat:=by unfold exY;rw [show 1075 - (E:Int) = -exP b from by omega]
   obtain ⟨j,HXJ,HYJ,hj⟩:∃ j,Hid (exX b<2 ^ j)∧Hid (exY b<2 ^ j)∧j≤1127:=by
    refine ⟨53+(exP b).natAbs,?_,?_,by omega⟩
    ·unfold Hid exX
     rw [hM]
     refine Nat.lt_of_lt_of_le (Nat.mul_lt_mul_of_pos_right (show M<2 ^ 53 from by omega) (Nat.pow_pos (by decide))) ?_
     rw [← Nat.pow_add];exact Nat.pow_le_pow_right (by decide) (by omega)
    ·unfold Hid exY
     rw [Nat.one_mul];exact Nat.pow_lt_pow_right (by decide) (by omega)
   obtain ⟨X,HX⟩:∃ X,Hid (exX b=X):=⟨_,rfl⟩
   obtain ⟨Y,HY⟩:∃ Y,Hid (exY b=Y):=⟨_,rfl⟩
   rw [HX.out] at HXJ hlo hx0 hhi hXe
   rw [HY.out] at HYJ hlo hy0 hhi hYe
   have HXE:=Lib.hid hXe
   have HYE:=Lib.hid hYe
   have HM0:=Lib.hid hM0
   have HE0:=Lib.hid hE0
   have hE1:1≤E:=by omega
   have hE2:E≤2046:=by omega
   have HMB:=Lib.hid hmb
   have H0:=Lib.hid h0
   have HML:=Lib.hid hml
   have hor:=Lib.hid (or52b m hml)
   have hM64:(M:Int)≤18446744073709551615:=by omega
   have HVX:=Lib.hid hvx
   have hlim2:=HL.out
   clear hXe hYe hM hM0 hE hE0 hmb hpb hvx h0 hml hbl hlim hlim2 hB
   go_enter Tryz.func16,Tryz.ntmps16
   go_upto_if 19 with fail
   go_cut [3] (fun v wx=>w=wx∧v = .string ⟨(sgS B).toArray⟩)
   case first =>
    cases sg
    all_goals
     go_wp2_with fail
     go_meet
     case rel=>exact ⟨rfl,by rw [HS2.out];rfl⟩
   case rest =>
   obtain ⟨hwc,rfl⟩:=hcut
   subst hwc
   obtain ⟨S,HS⟩:∃ S:ByteArray,Hid (S=⟨(sgS B).toArray⟩):=⟨_,rfl⟩
   rw [← HS.out]
   have hSs:S.size≤1:=by rw [HS.out];have:=HS2.out;rw [this];split <;> decide
   go_upto_region 8 with fail
   go_cut [33] (fun v wx=>w=wx∧v = .bool false)
   case first =>
    rcases HVX.out with hx1 | ⟨hx1,hm1⟩
    ·have b2:((x:Int) == 0)=false:=by rw [beq_eq_false_iff_ne];omega
     go_wp2_with fail
     go_meet
     case rel=>exact ⟨rfl,rfl⟩
    ·subst hx1
     have b2:((m:Int) == 0)=false:=by rw [beq_eq_false_iff_ne];omega
     go_wp2_with fail
     go_meet
     case rel=>exact ⟨rfl,rfl⟩
   case rest =>
   obtain ⟨hwc,rfl⟩:=hcut
   subst hwc
   go_upto_if 37 with fail
   go_cut [4,5] (fun ev mv wx=>w=wx∧ev = .int .i64 E∧mv = .int .u64 M)
   case first =>
    by_cases hx1:x=0
    ·have b2:((x:Int) == 0)=true:=by rw [beq_iff_eq];omega
     have h1:=HM0.out
     rw [if_pos hx1] at h1
     have h2:=HE0.out
     rw [if_pos hx1] at h2
     have H1:=Lib.hid h1
     have H2:=Lib.hid h2
     clear h1 h2 hx1
     go_wp2_with fail
     go_meet
     case rel=>exact ⟨rfl,by rw [H2.out];rfl,by rw [H1.out]⟩
    ·have b2:((x:Int) == 0)=false:=by rw [beq_eq_false_iff_ne];omega
     have h1:=HM0.out
     rw [if_neg hx1] at h1
     have h2:=HE0.out
     rw [if_neg hx1] at h2
     have H1:=Lib.hid h1
     have H2:=Lib.hid h2
     have h3:=hor.out
     rw [← h1] at h3
     clear h1 h2 hx1
     go_wp2_with fail
     go_meet
     case rel=>exact ⟨rfl,by rw [H2.out],rfl⟩
   case rest =>
   obtain ⟨hwc,rfl,rfl⟩:=hcut
   subst hwc
   clear hand hand2 hsg
   go_wp2_with fail
   refine (refOf_n M _ hM64).mono ?_;rintro e w1 ⟨v1,rfl,hv1,hw1⟩
   obtain ⟨A1,l1,c1,rfl⟩:=hv1.sl
   have hvM:Num w1 (.slice A1 l1 c1) M 100:=hv1.num (by have:=HMB.out;exact b8 2 (show M<4294967296 ^ 2 by omega) (by decide))
   have hM0':Hid (M<2 ^ 53):=by have:=HMB.out;unfold Hid;omega
   go_upto_if 44 with fail
   go_cut [6,7] (fun xv yv wx=>∃ A1 l1 c1 A2 l2 c2,xv = .slice A1 l1 c1∧yv = .slice A2 l2 c2∧Num wx xv X KB∧Num wx yv Y KB∧Nx w wx)
   case first =>
    have hn1:Nx w (w1.alloc (.cells #[.int .u32 1] 85)):=nxa hw1 _
    have hone:=one_num w1 85
    have hvM1:=hvM.below (nx0 w1 (.cells #[.int .u32 1] 85))
    by_cases hE3:1075≤E
    ·have b3:decide ((1075:Int)≤(E:Int))=true:=decide_eq_true (by omega)
     have hsx:shV M ((E:Int) - 1075)=X:=by unfold shV;rw [if_pos (by omega),← HXE.out]
     have HSX:=Lib.hid hsx
     have hY1:Y=1:=by rw [HYE.out,show (1075 - (E:Int)).toNat=0 from by omega]
     have HY1:=Lib.hid hY1
     have hE4:(0:Int)≤(E:Int) - 1075:=by omega
     clear hsx hY1
     go_wp2_with fail
     refine (refShl_n _ M 100 _ _ hvM1 (by decide) (by omega) (by omega)).mono ?_;rintro e w2 ⟨v2,rfl,hv2,hw2⟩
     obtain ⟨A2,l2,c2,rfl⟩:=hv2.sl
     go_wp2_with fail
     go_meet
     case rel=>exact ⟨_,_,_,_,_,_,rfl,rfl,(hv2.cast HSX.out).few HXJ.out (by omega),by rw [HY1.out];exact Num.wide (hone.below hw2) (by decide),Nx.trans hn1 hw2⟩
    ·have b3:decide ((1075:Int)≤(E:Int))=false:=decide_eq_false (by omega)
     have hsx:shV 1 (1075 - (E:Int))=Y:=by unfold shV;rw [if_pos (by omega),← HYE.out]
     have HSX:=Lib.hid hsx
     have hX1:X=M:=by rw [HXE.out,show ((E:Int) - 1075).toNat=0 from by omega,Nat.pow_zero,Nat.mul_one]
     have HX1:=Lib.hid hX1
     clear hsx hX1
     go_wp2_with fail
     refine (refShl_n _ 1 100 _ _ hone (by decide) (by omega) (by omega)).mono ?_;rintro e w2 ⟨v2,rfl,hv2,hw2⟩
     obtain ⟨A2,l2,c2,rfl⟩:=hv2.sl
     go_wp2_with fail
     go_meet
     case rel=>exact ⟨_,_,_,_,_,_,rfl,rfl,by rw [HX1.out];exact Num.wide (hvM1.below hw2) (by decide),(hv2.cast HSX.out).few HYJ.out (by omega),Nx.trans hn1 hw2⟩
   case rest =>
   obtain ⟨A1,l1,c1,A2,l2,c2,rfl,rfl,hxv,hyv,hN1⟩:=hcut
   clear hv1 hvM hw1
   obtain ⟨bx,HBX1⟩:∃ b,Hid (blen X=b):=⟨_,rfl⟩
   obtain ⟨bY1,HBY1⟩:∃ b,Hid (blen Y=b):=⟨_,rfl⟩
   have hbx:bx≤j:=by rw [← HBX1.out];exact blen_lt _ _ HXJ.out
   have hby:bY1≤j:=by rw [← HBY1.out];exact blen_lt _ _ HYJ.out
   have hlen:=(ge2_len X Y hx0.out hy0.out).1
   rw [HBX1.out,HBY1.out] at hlen
   have HLEN:=Lib.hid hlen
   clear hlen
   obtain ⟨d,hd⟩:∃ d:Int,(bx:Int) - (bY1:Int)=d:=⟨_,rfl⟩
   have hgs:=gs_ge X Y d (by omega) (by omega) (by have:=HLEN.out;rw [hd] at this;exact this)
   have hgb:=gs_b d (by omega) (by omega)
   obtain ⟨q0,hq0⟩:∃ q0,(d * 30103).tdiv 100000=q0:=⟨_,rfl⟩
   rw [show gs d=q0 - 2 from by unfold gs;rw [hq0]] at hgs hgb
   have HGS:=Lib.hid hgs
   have hd1 : -1127≤d:=by omega
   have hd2:d≤1127:=by omega
   obtain ⟨hgb1,hgb2⟩:=hgb
   clear hgs
   go_wp2_with fail
   refine (refBits_n _ X KB _ hxv KB_le).mono ?_;rintro e w2 ⟨rfl,hw2⟩
   rw [HBX1.out]
   go_wp2_with fail
   refine (refBits_n _ Y KB _ (hyv.below hw2) KB_le).mono ?_;rintro e w3 ⟨rfl,hw3⟩
   rw [HBY1.out]
   have hN3:=Nx.trans hw2 hw3
   have hN4:=Nx.trans hN1 hN3
   have hxv:=hxv.below hN3
   have hyv:=hyv.below hN3
   have hw2:=hN3
   clear hw3
   go_upto_block 0 with fail
   go_cut [8] (fun v wx=>∃ T:Int,v = .int .i64 T∧Hid (GE10 X Y T)∧Hid (¬ GE10 X Y (T+1))∧-400≤T∧T≤400∧Nx w3 wx)
   case first =>
    go_wp2_with fail
    go_loopw [8] (fun v wr=>∃ T:Int,v = .int .i64 T∧Hid (GE10 X Y T)∧-400≤T∧T≤400∧Nx w3 wr) (fun v _=>(400 - intOf v).toNat)
    case atStart=>exact ⟨q0 - 2,by go_num,HGS,hgb1,hgb2,Nx.refl _⟩
    case round =>
    obtain ⟨T,rfl,HT,hT1,hT2,hb⟩:=hrel
    go_wp2_with fail
    refine (refAbove_any _ _ X Y j (T+1) _ (hxv.below hb) (hyv.below hb) HXJ.out HYJ.out (by omega) (by omega) (by omega)).mono ?_;rintro e w4 ⟨rfl,hw4⟩
    have hN5:Nx w3 w4:=Nx.trans hb hw4
    by_cases hge:GE10 X Y (T+1)
    ·have HG:=Lib.hid hge
     have hlt:T<399:=by
      rcases Int.lt_or_le T 399 with h | h
      ·exact h
      ·exact (hhi.out (ge10_mono hge (by omega))).elim
     rw [decide_eq_true hge]
     clear hge
     go_wp2_with fail
     go_roundw
     case rel=>exact ⟨T+1,by go_num,HG,by omega,by omega,hN5⟩
     case measure=>simp [intOf];omega
    ·rw [decide_eq_false hge]
     have HG:=Lib.hid hge
     clear hge
     go_wp2_with fail
     go_meet
     case rel=>exact ⟨T,rfl,HT,HG,hT1,hT2,hN5⟩
   case rest =>
   obtain ⟨T,rfl,HT,HG,hT1,hT2,hN5⟩:=hcut
   have hN6:=Nx.trans hN4 hN5
   have hxv:=hxv.below hN5
   have hyv:=hyv.below hN5
   obtain ⟨k,hk⟩:∃ k:Int,16 - T=k:=⟨_,rfl⟩
   have hk1 : -400≤k:=by omega
   have hk2:k≤416:=by omega
   have HK:=Lib.hid hk
   clear hw2 hN5 hN3 hN4 hN1 hd hq0 hbx hby
   obtain ⟨X2,HX2'⟩:∃ Z,Hid (X * 10 ^ k.toNat=Z):=⟨_,rfl⟩
   obtain ⟨Y2,HY2'⟩:∃ Z,Hid (Y * 10 ^ (-k).toNat=Z):=⟨_,rfl⟩
   obtain ⟨J,HXJ2,HYJ2,hJ⟩:∃ J,Hid (X2<2 ^ J)∧Hid (Y2<2 ^ J)∧J≤10000:=by
    refine ⟨j+4 * 500,?_,?_,by omega⟩
    ·unfold Hid;rw [← HX2'.out];exact Nat.lt_of_lt_of_le (ten_two' X j k.toNat HXJ.out) (Nat.pow_le_pow_right (by decide) (by omega))
    ·unfold Hid;rw [← HY2'.out];exact Nat.lt_of_lt_of_le (ten_two' Y j (-k).toNat HYJ.out) (Nat.pow_le_pow_right (by decide) (by omega))
   go_upto_if 71 with fail
   go_cut [6,7] (fun xv yv wx=>∃ A1 l1 c1 A2 l2 c2,xv = .slice A1 l1 c1∧yv = .slice A2 l2 c2∧Num wx xv X2 KB∧Num wx yv Y2 KB∧Nx w wx)
   case first =>
    by_cases hk0:0≤k
    ·obtain ⟨n,rfl⟩:=Int.eq_ofNat_of_zero_le hk0
     have b4:decide ((0:Int)≤(n:Int))=true:=decide_eq_true hk0
     rw [b4]
     have h1:X * 10 ^ n=X2:=HX2'.out
     have h2:Y=Y2:=by rw [← HY2'.out,show (-(n:Int)).toNat=0 from by omega,Nat.pow_zero,Nat.mul_one]
     have H1:=Lib.hid h1
     have H2:=Lib.hid h2
     clear h1 h2 hk0 hk
     go_wp2_with fail
     refine (refTen_any n _ (by omega)).mono ?_;rintro e w4 ⟨v4,rfl,hv4,hw4⟩
     go_wp2_with fail
     refine (refMul_n _ _ X (10 ^ n) KB _ (hxv.below hw4) (hv4.num.few (by rw [← Nat.one_mul (10 ^ n)];exact ten_two' 1 1 n (by decide)) (by omega)) KB_le).mono ?_;rintro e w5 ⟨v5,rfl,hv5,hw5⟩
     obtain ⟨A5,l5,c5,rfl⟩:=hv5.sl
     go_wp2_with fail
     go_meet
     case rel=>exact ⟨_,_,_,_,_,_,rfl,rfl,(hv5.cast H1.out).few HXJ2.out (by omega),by rw [← H2.out];exact (hyv.below hw4).below hw5,Nx.trans hN6 (Nx.trans hw4 hw5)⟩
    ·obtain ⟨n,hn⟩:∃ n:Nat,-k=(n:Int):=⟨(-k).toNat,by omega⟩
     have b4:decide ((0:Int)≤k)=false:=decide_eq_false hk0
     rw [b4]
     have h1:X=X2:=by rw [← HX2'.out,show k.toNat=0 from by omega,Nat.pow_zero,Nat.mul_one]
     have h2:Y * 10 ^ n=Y2:=by rw [← HY2'.out,show (-k).toNat=n from by omega]
     have H1:=Lib.hid h1
     have H2:=Lib.hid h2
     have hn2:n≤500:=by omega
     clear h1 h2 hk0 hk b4
     go_wp2_with fail
     refine (refTen_any n _ (by omega)).mono ?_;rintro e w4 ⟨v4,rfl,hv4,hw4⟩
     go_wp2_with fail
     refine (refMul_n _ _ Y (10 ^ n) KB _ (hyv.below hw4) (hv4.num.few (by rw [← Nat.one_mul (10 ^ n)];exact ten_two' 1 1 n (by decide)) (by omega)) KB_le).mono ?_;rintro e w5 ⟨v5,rfl,hv5,hw5⟩
     obtain ⟨A5,l5,c5,rfl⟩:=hv5.sl
     go_wp2_with fail
     go_meet
     case rel=>exact ⟨_,_,_,_,_,_,rfl,rfl,by rw [← H1.out];exact (hxv.below hw4).below hw5,(hv5.cast H2.out).few HYJ2.out (by omega),Nx.trans hN6 (Nx.trans hw4 hw5)⟩
   case rest =>
   obtain ⟨A3,l3,c3,A4,l4,c4,rfl,rfl,hxw,hyw,hN7⟩:=hcut
   clear hN6 hxv hyv hk
   have hY20:Y2≠0:=by
    rw [← HY2'.out];exact Nat.mul_ne_zero hy0.out (Nat.pos_iff_ne_zero.1 (Nat.pow_pos (by decide)))
   obtain ⟨D,HD⟩:∃ D,Hid (rnd X2 Y2=D):=⟨_,rfl⟩
   have hdg:digQ X Y T=D:=by unfold digQ;rw [HK.out,HX2'.out,HY2'.out,HD.out]
   have hdb:=digQ_b X Y T (Nat.pos_of_ne_zero hy0.out) HT.out HG.out
   rw [hdg] at hdb
   have HDG:=Lib.hid hdg
   have HDB:=Lib.hid hdb
   obtain ⟨q,HQ⟩:∃ q,Hid (X2 / Y2=q):=⟨_,rfl⟩
   obtain ⟨s,HSr⟩:∃ q,Hid (X2 % Y2=q):=⟨_,rfl⟩
   obtain ⟨C,HC⟩:∃ C,Hid (cmpI (s+s) Y2=C):=⟨_,rfl⟩
   have hsx:Hid (s<2 ^ J):=by unfold Hid;exact Nat.lt_of_le_of_lt (by rw [← HSr.out];exact Nat.mod_le _ _) HXJ2.out
   have hlo2:=rnd_lo X2 Y2
   rw [HQ.out,HD.out] at hlo2
   have hq64:Hid (q≤100000000000000000):=by unfold Hid;omega
   obtain ⟨up,HUP⟩:∃ up:Bool,Hid (decide (C=1∨C=0∧q % 2=1)=up):=⟨_,rfl⟩
   have hrn:D=if up then q+1 else q:=by
    rw [← HD.out,← HUP.out]
    unfold rnd
    rw [HQ.out,HSr.out,← HC.out]
    unfold cmpI
    by_cases h1:s+s<Y2
    ·rw [if_pos h1,if_neg (by omega),if_neg (by simp)]
    ·by_cases h2:Y2<s+s
     ·rw [if_neg h1,if_pos h2,if_pos (by omega),if_pos (by simp)]
     ·rw [if_neg h1,if_neg h2]
      by_cases h3:q % 2=1
      ·rw [if_pos (by omega),if_pos (by simp [h3])]
      ·rw [if_neg (by omega),if_neg (by simp [h3])]
   have hcv:C=1∨C=0∨C = -1:=by
    rw [← HC.out];unfold cmpI;split
    ·exact .inr (.inr rfl)
    ·split
     ·exact .inl rfl
     ·exact .inr (.inl rfl)
   have HRN:=Lib.hid hrn
   have hmod:Hid (q % 18446744073709551616=q):=by unfold Hid;have:=hq64.out;omega
   have HY20:=Lib.hid hY20
   have HCV:=Lib.hid hcv
   clear hY20 hdg hdb hlo2 hrn hcv
   go_wp2_with fail
   refine (refDiv_n _ _ X2 Y2 KB _ hxw hyw KB_le).mono ?_;rintro e w5 ⟨vq,vr,ok,rfl,hdiv,hw5⟩
   unfold DivN at hdiv
   rw [if_neg HY20.out,HQ.out,HSr.out] at hdiv
   obtain ⟨hvq,hvr,rfl⟩:=hdiv
   obtain ⟨Aq,lq,cq,rfl⟩:=hvq.sl
   obtain ⟨Ar,lr,cr,rfl⟩:=hvr.sl
   have hyw:=hyw.below hw5
   go_wp2_with fail
   refine (refAdd_n _ _ s s KB _ (hvr.few hsx.out (by omega)) (hvr.few hsx.out (by omega)) KB_le).mono ?_;rintro e w6 ⟨v6,rfl,hv6,hw6⟩
   go_wp2_with fail
   refine (refCmp_n _ _ (s+s) Y2 KB _ (hv6.few (show s+s<2 ^ (J+1) by have:=hsx.out;rw [Nat.pow_succ];omega) (by omega)) (hyw.below hw6) KB_le).mono ?_;rintro e w' ⟨rfl,rfl⟩
   rw [HC.out]
   have hvq:=hvq.below hw6
   have hN8:=Nx.trans hN7 (Nx.trans hw5 hw6)
   clear hw5 hw6 hN7 hvr hxw hyw hv6
   go_upto_region 26 with fail
   go_cut [104] (fun v wx=>w6=wx∧v = .bool up)
   case first =>
    rcases HCV.out with rfl | rfl | rfl
    ·have hu:up=true:=by rw [← HUP.out];simp
     subst hu
     go_wp2_with fail
     go_meet
     case rel=>exact ⟨rfl,rfl⟩
    ·have hu:((q:Int) % 2 == 1)=up:=by
      rw [← HUP.out]
      by_cases h3:q % 2=1
      ·rw [decide_eq_true (by omega),beq_iff_eq];omega
      ·rw [decide_eq_false (by omega),beq_eq_false_iff_ne];omega
     go_wp2_with fail
     refine (refLow_n _ q 2 _ (hvq.num (by have:=hq64.out;omega)) (by decide)).mono ?_;rintro e w' ⟨rfl,rfl⟩
     rw [hmod.out]
     go_wp2_with fail
     go_meet
     case rel=>exact ⟨rfl,rfl⟩
    ·have hu:up=false:=by rw [← HUP.out];simp
     subst hu
     go_wp2_with fail
     go_meet
     case rel=>exact ⟨rfl,rfl⟩
   case rest =>
   obtain ⟨hwc,rfl⟩:=hcut
   subst hwc
   go_upto_if 104 with fail
   go_cut [10] (fun v wx=>∃ A l c,v = .slice A l c∧IsNum wx v D∧Nx w wx)
   case first =>
    cases up
    ·have hD:D=q:=HRN.out
     subst hD
     go_wp2_with fail
     go_meet
     case rel=>exact ⟨_,_,_,rfl,hvq,hN8⟩
    ·have hD:D=q+1:=HRN.out
     have HDq:=Lib.hid hD
     clear hD
     go_wp2_with fail
     refine (refOf_n 1 _ (by decide)).mono ?_;rintro e w7 ⟨v7,rfl,hv7,hw7⟩
     go_wp2_with fail
     refine (refAdd_n _ _ q 1 2 _ ((hvq.below hw7).num (by have:=hq64.out;omega)) (hv7.num (by decide)) (by decide)).mono ?_;rintro e w8 ⟨v8,rfl,hv8,hw8⟩
     obtain ⟨A8,l8,c8,rfl⟩:=hv8.sl
     go_wp2_with fail
     go_meet
     case rel=>exact ⟨_,_,_,rfl,hv8.cast HDq.out.symm,Nx.trans hN8 (Nx.trans hw7 hw8)⟩
   case rest =>
   obtain ⟨Aq,lq,cq,rfl,hvD,hN9⟩:=hcut
   clear hvq hN8
   obtain ⟨D',T',h3⟩:∃ (D':Nat) (T':Int),if D=100000000000000000 then D'=10000000000000000∧T'=T+1 else D'=D∧T'=T:=by
    by_cases h:D=100000000000000000
    ·exact ⟨10000000000000000,T+1,by rw [if_pos h];exact ⟨rfl,rfl⟩⟩
    ·exact ⟨D,T,by rw [if_neg h];exact ⟨rfl,rfl⟩⟩
   obtain ⟨c,m16,hdec,hml16,hsd⟩:=showD_is T D HDB.out.1 HDB.out.2 D' T' h3
   have HDEC:=Lib.hid hdec
   have HSD:=Lib.hid hsd
   have hT3 : -400≤T'∧T'≤401:=by split at h3 <;> omega
   have hD3:Hid (D'≤100000000000000000):=by unfold Hid;have:=HDB.out;split at h3 <;> omega
   have H3:=Lib.hid h3
   have hDm:Hid (D % 18446744073709551616=D):=by unfold Hid;have:=HDB.out;omega
   obtain ⟨hT31,hT32⟩:=hT3
   clear hdec hsd h3
   go_wp2_with fail
   refine (refLow_n _ D 2 _ (hvD.num (by have:=HDB.out.2;omega)) (by decide)).mono ?_;rintro e w' ⟨rfl,rfl⟩
   rw [hDm.out]
   go_upto_if 111 with fail
   go_cut [8,14] (fun tv dv wx=>wc=wx∧tv = .int .i64 T'∧dv = .int .u64 D')
   case first =>
    by_cases h17:D=100000000000000000
    ·have h3:=H3.out
     rw [if_pos h17] at h3
     have b5:((D:Int) == 100000000000000000)=true:=by rw [beq_iff_eq];omega
     have hdiv:(D:Int) / 10=(D':Int):=by omega
     have HT':=Lib.hid h3.2
     have hwD:IntKind.u64.wrap (D':Int)=(D':Int):=by rw [h3.1];rfl
     rw [b5]
     clear b5 h17 h3
     go_wp2_with fail
     go_meet
     case rel=>exact ⟨rfl,by rw [HT'.out],rfl⟩
    ·have h3:=H3.out
     rw [if_neg h17] at h3
     have b5:((D:Int) == 100000000000000000)=false:=by rw [beq_eq_false_iff_ne];omega
     obtain ⟨rfl,rfl⟩:=h3
     rw [b5]
     clear b5 h17
     go_wp2_with fail
     go_meet
     case rel=>exact ⟨rfl,rfl,rfl⟩
   case rest =>
   obtain ⟨hwc,rfl,rfl⟩:=hcut
   subst hwc
   go_wp2_with fail
   refine (plain_any D' _ (by have:=hD3.out;omega)).mono ?_;rintro e w7 ⟨rfl,hw7⟩
   rw [HDEC.out]
   obtain ⟨t0,ht0⟩:∃ t0:ByteArray,⟨(c :: m16).toArray⟩=t0:=⟨_,rfl⟩
   have HTT:Tx t0 (c :: m16):=by rw [← ht0];exact Tx.of _
   rw [ht0]
   clear ht0
   obtain ⟨hp,t',e0,e1,ht',e2,e3⟩:=HTT.cons
   have hts1:(1:Int)≤(t0.size:Int):=by omega
   obtain ⟨d1,e4,hd1⟩:∃ d1,t0.extract 0 1=d1∧Hid (Tx d1 [c]):=⟨_,rfl,by unfold Hid Tx;rw [Lib.extract_data,show t0.data.toList=c :: m16 from HTT];rfl⟩
   have hd1s:d1.size=1:=hd1.out.size
   have HTP:=Lib.hid ht'
   have hN10:=Nx.trans hN9 hw7
   clear ht' e0 HTT hw7 hN9
   go_upto_block 2 with fail
   go_cut [16] (fun v wx=>∃ (u:ByteArray),v = .string u∧Hid (Tx u (tailS m16))∧u.size≤16∧w7=wx)
   case first =>
    go_wp2_with fail
    go_loopw [16] (fun v wr=>∃ (u:ByteArray) (l:List UInt8),v = .string u∧Hid (Tx u l)∧Hid (tailS l=tailS m16)∧1≤l.length∧l.length≤16∧w7=wr) (fun v _=>strLenS v)
    case atStart=>exact ⟨t',m16,rfl,HTP,rfl,by omega,by omega,rfl⟩
    case round =>
    obtain ⟨u,l,rfl,HU,HTL,hl1,hl2,hb⟩:=hrel
    subst hb
    obtain ⟨l',c',hlc⟩:∃ l' c',l=l'++[c']:=⟨l.dropLast,l.getLast (by intro h;rw [h] at hl1;simp at hl1),(List.dropLast_concat_getLast _).symm⟩
    subst hlc
    obtain ⟨n,hn⟩:∃ n,l'.length=n:=⟨_,rfl⟩
    have hus:u.size=n+1:=by rw [HU.out.size];simp [hn]
    have hn16:n≤15:=by simp at hl2;omega
    obtain ⟨hix,hiy⟩:=HU.out.idx n (by simp [hn])
    have hiz:u[n]'hix=c':=by rw [hiy];simp [← hn]
    obtain ⟨u',hu',hu'T⟩:∃ u',u.extract 0 n=u'∧Hid (Tx u' l'):=⟨_,rfl,by unfold Hid Tx;rw [Lib.extract_data,show u.data.toList=l'++[c'] from HU.out];simp [← hn]⟩
    by_cases hn0:n=0
    ·have hl0:l'=[]:=List.eq_nil_of_length_eq_zero (by omega)
     have hfin:Hid (Tx u (tailS m16)):=by unfold Hid;rw [← HTL.out,hl0,List.nil_append,tail_one];have:=HU.out;rw [hl0] at this;exact this
     have hus1:u.size=1:=by omega
     clear hn0 hl0 hus hn hl1 hl2 hiz hiy
     go_wp2_with fail
     go_meet
     case rel=>exact ⟨u,rfl,hfin,by omega,rfl⟩
    ·obtain ⟨k9,hk9⟩:∃ k9,n=k9+1:=⟨n - 1,by omega⟩
     by_cases h48:c'.toNat=48
     ·have hc48:c'=48:=UInt8.toNat_inj.1 (by rw [h48];rfl)
      have hnext:Hid (tailS l'=tailS m16):=by unfold Hid;rw [← HTL.out,hc48,tail_nought]
      clear hc48
      have hl'1:1≤l'.length:=by omega
      have hl'2:l'.length≤16:=by omega
      have hu's:u'.size=n:=by rw [hu'T.out.size,hn]
      have b6:decide ((1:Int)<(n:Int)+1)=true:=decide_eq_true (by omega)
      have hst:strLenS (.string u')<strLenS (.string u):=by show u'.size<u.size;omega
      clear hn hl1 hl2 hiy hk9 hn0
      go_wp2_with fail
      go_roundw
      case rel=>exact ⟨u',l',rfl,hu'T,hnext,hl'1,hl'2,by trivial⟩
      case measure=>exact hst
     ·have hfin:Hid (Tx u (tailS m16)):=by unfold Hid;rw [← HTL.out,tail_last _ _ (by intro h;apply h48;rw [h];rfl)];exact HU.out
      have b6:decide ((1:Int)<(n:Int)+1)=true:=decide_eq_true (by omega)
      have hus2:u.size≤16:=by omega
      clear hn hl1 hl2 hiy hk9 hn0
      go_wp2_with fail
      go_meet
      case rel=>exact ⟨u,rfl,hfin,by omega,rfl⟩
   case rest =>
   obtain ⟨f1,rfl,HF,hfs,hwc⟩:=hcut
   subst hwc
   have hres:ShowR B (sgS B++([c]++(46 :: (tailS m16++(101 :: tenS T'))))):=by
    refine (HSR.out _).2 ?_
    rw [if_neg (Nat.not_le.2 HL.out),if_neg H0.out,HX.out,HY.out]
    exact ⟨T,HT.out,HG.out,by rw [HDG.out,HSD.out]⟩
   have HRES:=Lib.hid hres
   have HSS:=Lib.hid hSs
   obtain ⟨z,hz⟩:∃ z,S.size=z:=⟨_,rfl⟩
   have hz1:z≤1:=by omega
   have g1:¬ 9223372036854775807<z+1:=by omega
   have g2:¬ 9223372036854775807<z+1+1:=by omega
   have g3:¬ 9223372036854775807<z+1+1+f1.size:=by omega
   have g4:¬ 9223372036854775807<z+1+1+f1.size+1:=by omega
   have hHS:Tx S (sgS B):=by rw [HS.out];exact Tx.of _
   have HTS:=Lib.hid hHS
   clear hres hHS
   go_wp2_with fail
   refine wp_region_hyb [(0,true),(1,true),(2,true),(3,true),(4,true),(5,true),(6,true),(7,true),(8,true),(9,false),(10,true),(11,true)] rfl (by kernel_rfl) ?_
   iterate 9 (refine hyb_calm rfl (fun K hK=>?_);go_simp;refine hK _ ?_;clear hK K)
   have hp1:Tx ((S++d1++⟨#[46]⟩++f1++⟨#[101]⟩:ByteArray)) (sgS B++(c :: 46 :: (tailS m16++[101]))):=by
    have:=Tx.app2 (Tx.app2 (Tx.app2 (Tx.app2 HTS.out hd1.out) (Tx.of [46])) HF.out) (Tx.of [101])
    unfold Tx at *
    rw [this];simp
   generalize hP:(S++d1++⟨#[46]⟩++f1++⟨#[101]⟩:ByteArray)=P1 at *
   have hps:P1.size≤40:=by
    have q1:=hp1.size
    have q2:=HTS.out.size
    have q3:=HF.out.size
    simp at q1
    omega
   have HP1:=Lib.hid hp1
   clear hP hp1
   refine hyb_alone rfl (fun w8 hn8 K hK=>?_)
   go_simp
   refine (tenText_any T' _ (by omega) (by omega)).mono ?_;rintro e w9 ⟨rfl,hw9⟩
   obtain ⟨t9,ht9⟩:∃ t9:ByteArray,⟨(tenS T').toArray⟩=t9:=⟨_,rfl⟩
   have HT9:Hid (Tx t9 (tenS T')):=by unfold Hid;rw [← ht9];exact Tx.of _
   rw [ht9]
   have hsum:P1.size+t9.size≤9223372036854775807:=by
    have:=HT9.out.sz 20 (tenS_len T' (by omega) (by omega))
    omega
   have hsum':¬ 9223372036854775807<P1.size+t9.size:=by omega
   refine hK _ _ hw9 ?_
   clear hK K
   iterate 2 (refine hyb_calm rfl (fun K hK=>?_);go_simp;refine hK _ ?_;clear hK K)
   refine hyb_nil (fun w5 hn5=>?_)
   go_wp2_with fail
   go_ret
   have hN11:=Nx.trans (Nx.trans (Nx.trans hN10 hn8) hw9) hn5
   have hfin:Tx (P1++t9) (sgS B++([c]++(46 :: (tailS m16++(101 :: tenS T'))))):=by
    have:=Tx.app2 HP1.out HT9.out
    unfold Tx at *
    rw [this];simp
   first
    | exact ⟨_,_,rfl,hfin,HRES.out,hN11⟩
    | exact ⟨_,rfl,_,hfin,HRES.out,hN11⟩
end Go.Proofs.YteclejplbphkpaaGreat
