/- The contracts of token's numbers' lengths. The contracts of token's numbers' values (what is plain of it). The contracts of token's numbers' values. Digits as numbers. Plain lemmas. The contracts of token's digits as numbers (what is plain of it). The contracts of token's digits as numbers. The contracts of token's names, quoted texts (what is plain of it). -/
import Derived.Test.YteclejplbphkpaaGreatG13
import Derived.IntWalk
import Derived.Test.YteclejplbphkpaaGreatG11
import Derived.Lib.SmallJoins
import Derived.Laws.Rows
import Derived.Laws.ResultCell
set_option linter.unusedVariables false
set_option linter.unusedSimpArgs false
set_option linter.unnecessarySimpa false
namespace Go.Proofs.YteclejplbphkpaaGreat
open Go.RowKit
set_option maxRecDepth 100000 in
set_option maxHeartbeats 800000 in
theorem signLength_any (s:ByteArray) (l:List UInt8) (w:World) (hl:Tx s l) :
  Calls Tryz.prog 74 #[.string s] w fun e w'=>e = .returned (.int .i64 (sgnN l:Nat))∧w'=w:=by
 cases l with
 | nil =>
  have e1:=hl.nil.1
  clear hl
  go_enter Tryz.func74,Tryz.ntmps74
  go_wp2_with fail
  go_ret
  exact ⟨rfl,rfl⟩
 | cons c l =>
  obtain ⟨hp,t,e0,e1,ht,e2,e3⟩:=hl.cons
  clear ht hl
  have HC:Hid (sgnN (c :: l)=if c.toNat=43∨c.toNat=45 then 1 else 0):=rfl
  by_cases c43:c.toNat=43
  ·have b1:((c.toNat:Int) == 43)=true:=by rw [beq_iff_eq];omega
   have HC2:Hid (sgnN (c :: l)=1):=by unfold Hid;rw [HC.out,if_pos (.inl c43)]
   clear c43
   go_enter Tryz.func74,Tryz.ntmps74
   go_wp2_with fail
   go_ret
   rw [HC2.out]
   exact ⟨rfl,rfl⟩
  ·have b1:((c.toNat:Int) == 43)=false:=by rw [beq_eq_false_iff_ne];omega
   by_cases c45:c.toNat=45
   ·have b2:((c.toNat:Int) == 45)=true:=by rw [beq_iff_eq];omega
    have HC2:Hid (sgnN (c :: l)=1):=by unfold Hid;rw [HC.out,if_pos (.inr c45)]
    clear c43 c45
    go_enter Tryz.func74,Tryz.ntmps74
    go_wp2_with fail
    go_ret
    rw [HC2.out]
    exact ⟨rfl,rfl⟩
   ·have b2:((c.toNat:Int) == 45)=false:=by rw [beq_eq_false_iff_ne];omega
    have HC2:Hid (sgnN (c :: l)=0):=by unfold Hid;rw [HC.out,if_neg (by omega)]
    clear c43 c45
    go_enter Tryz.func74,Tryz.ntmps74
    go_wp2_with fail
    go_ret
    rw [HC2.out]
    exact ⟨rfl,rfl⟩
set_option maxRecDepth 100000 in
set_option maxHeartbeats 800000 in
theorem fractionLength_any (s:ByteArray) (l:List UInt8) (w:World) (hl:Tx s l) (hs:(l.length:Int)≤100000) :
  Calls Tryz.prog 75 #[.string s] w fun e w'=>e = .returned (.int .i64 (fracN l:Nat))∧w'=w:=by
 have HD:Hid (s.data.toList=l):=hl
 have HF:=Lib.hid (frac_is l)
 obtain ⟨b,hb⟩:∃ b,Hid (Lib.hasPrefix l [46]=b):=⟨_,rfl⟩
 obtain ⟨r,hr⟩:∃ r,Hid (Lib.trimPrefix l [46]=r):=⟨_,rfl⟩
 have hrl:(r.length:Int)≤100000:=by rw [← hr.out];unfold Lib.trimPrefix;split;(simp;omega);omega
 rw [hb.out,hr.out] at HF
 clear hl
 go_enter Tryz.func75,Tryz.ntmps75
 go_wp2_with fail
 refine (Tryz.strings_CutPrefix s ⟨#[46]⟩ w).mono ?_;rintro e w' ⟨rfl,rfl⟩
 rw [HD.out,show (ByteArray.mk #[46]).data.toList=[46] from rfl,hb.out,hr.out]
 go_wp2_with fail
 refine (span_any _ isDig such_digit _ r _ (Tx.of r) (by omega)).mono ?_;rintro e w' ⟨rfl,rfl⟩
 have HF2:Hid (fracN l=if b=true∧spanN isDig r≠0 then 1+spanN isDig r else 0):=HF
 obtain ⟨N,hN⟩:∃ N,spanN isDig r=N:=⟨_,rfl⟩
 have hle:(N:Int)≤100000:=by have:=spanN_le isDig r;omega
 rw [hN] at HF2 ⊢
 clear hN HF
 cases b
 ·go_wp2_with fail
  go_ret
  rw [HF2.out]
  exact ⟨rfl,rfl⟩
 ·by_cases h0:N=0
  ·subst h0
   go_wp2_with fail
   go_ret
   rw [HF2.out]
   exact ⟨rfl,rfl⟩
  ·have b1:((N:Int) == 0)=false:=by rw [beq_eq_false_iff_ne];omega
   have HF3:Hid (fracN l=1+N):=by unfold Hid;rw [HF2.out,if_pos ⟨rfl,h0⟩]
   clear h0
   go_wp2_with fail
   go_ret
   rw [HF3.out]
   exact ⟨by go_num,rfl⟩
set_option maxRecDepth 100000 in
set_option maxHeartbeats 800000 in
theorem hexLength_any (s:ByteArray) (l:List UInt8) (w:World) (hl:Tx s l) (hs:(l.length:Int)≤100000) :
  Calls Tryz.prog 61 #[.string s] w fun e w'=>e = .returned (.int .i64 (hexN l:Nat))∧w'=w:=by
 have HD:Hid (s.data.toList=l):=hl
 have HF:=Lib.hid (hex_is l)
 obtain ⟨b,hb⟩:∃ b,Hid (Lib.hasPrefix l [48,120]=b):=⟨_,rfl⟩
 obtain ⟨r,hr⟩:∃ r,Hid (Lib.trimPrefix l [48,120]=r):=⟨_,rfl⟩
 have hrl:(r.length:Int)≤100000:=by rw [← hr.out];unfold Lib.trimPrefix;split;(simp;omega);omega
 rw [hb.out,hr.out] at HF
 clear hl
 go_enter Tryz.func61,Tryz.ntmps61
 go_wp2_with fail
 refine (Tryz.strings_CutPrefix s ⟨#[48,120]⟩ w).mono ?_;rintro e w' ⟨rfl,rfl⟩
 rw [HD.out,show (ByteArray.mk #[48,120]).data.toList=[48,120] from rfl,hb.out,hr.out]
 go_wp2_with fail
 refine (span_any _ isHexS such_hex _ r _ (Tx.of r) (by omega)).mono ?_;rintro e w' ⟨rfl,rfl⟩
 have HF2:Hid (hexN l=if b=true∧spanN isHexS r≠0 then 2+spanN isHexS r else 0):=HF
 obtain ⟨N,hN⟩:∃ N,spanN isHexS r=N:=⟨_,rfl⟩
 have hle:(N:Int)≤100000:=by have:=spanN_le isHexS r;omega
 rw [hN] at HF2 ⊢
 clear hN HF
 cases b
 ·go_wp2_with fail
  go_ret
  rw [HF2.out]
  exact ⟨rfl,rfl⟩
 ·by_cases h0:N=0
  ·subst h0
   go_wp2_with fail
   go_ret
   rw [HF2.out]
   exact ⟨rfl,rfl⟩
  ·have b1:((N:Int) == 0)=false:=by rw [beq_eq_false_iff_ne];omega
   have HF3:Hid (hexN l=2+N):=by unfold Hid;rw [HF2.out,if_pos ⟨rfl,h0⟩]
   clear h0
   go_wp2_with fail
   go_ret
   rw [HF3.out]
   exact ⟨by go_num,rfl⟩
set_option maxRecDepth 100000 in
set_option maxHeartbeats 1600000 in
theorem exponentLength_any (s:ByteArray) (l:List UInt8) (w:World) (hl:Tx s l) (hs:(l.length:Int)≤100000) :
  Calls Tryz.prog 76 #[.string s] w fun e w'=>e = .returned (.int .i64 (expN l:Nat))∧w'=w:=by
 cases l with
 | nil =>
  have e1:=hl.nil.1
  clear hl
  go_enter Tryz.func76,Tryz.ntmps76
  go_wp2_with fail
  go_ret
  exact ⟨rfl,rfl⟩
 | cons c l =>
  have HL:=Lib.hid hl
  obtain ⟨hp,t,e0,e1,ht,e2,e3⟩:=hl.cons
  have HT:=Lib.hid ht
  have hll:(l.length:Int)≤100000:=by simp at hs;omega
  have hz:(s.size:Int)=(l.length:Int)+1:=by rw [hl.size];simp
  clear ht hl hs
  obtain ⟨M,hM⟩:∃ M,sgnN l=M:=⟨_,rfl⟩
  obtain ⟨hM1,hM2⟩:=sgnN_le l
  obtain ⟨K,hK⟩:∃ K,digN (l.drop M)=K:=⟨_,rfl⟩
  have hK1:K≤l.length:=by rw [← hK];have:=digN_le (l.drop M);simp at this;omega
  have HC:Hid (expN (c :: l)=if (c.toNat=101∨c.toNat=69)∧K≠0 then 1+M+K else 0):=by
   unfold Hid expN;dsimp only;rw [hM,hK]
  rw [hM] at hM1 hM2
  have HM:=Lib.hid hM
  have HK:=Lib.hid hK
  obtain ⟨u,hu,HU⟩:=HL.out.from_ (1+M)
  have HU2:Hid (Tx u (l.drop M)):=by
   have:(c :: l).drop (1+M)=l.drop M:=by rw [Nat.add_comm];rfl
   rw [← this];exact HU
  have hu2:s.extract (M+1) s.size=u:=by rw [Nat.add_comm];exact hu
  have hM0:(M:Int)≤1:=by omega
  have hK2:(K:Int)≤100000:=by omega
  have hM3:(M:Int)≤(l.length:Int):=by omega
  clear hM hK HU hM1 hM2 hK1
  by_cases hE:c.toNat=101∨c.toNat=69
  ·have ht1:((c.toNat:Int) != 101)=false∨((c.toNat:Int) != 101)=true∧((c.toNat:Int) != 69)=false:=by
    rcases hE with h | h
    ·left;simp;omega
    ·right;simp;omega
   have HC2:Hid (expN (c :: l)=if K≠0 then 1+M+K else 0):=by unfold Hid;rw [HC.out];simp [hE]
   clear hE HC
   rcases ht1 with b1 | ⟨b1,b2⟩
   all_goals
    go_enter Tryz.func76,Tryz.ntmps76
    go_wp2_with fail
    refine (signLength_any t l w HT.out).mono ?_;rintro e w' ⟨rfl,rfl⟩
    rw [HM.out]
    go_wp2_with fail
    refine (span_any _ isDig such_digit u (l.drop M) _ HU2.out (by simp;omega)).mono ?_;rintro e w' ⟨rfl,rfl⟩
    rw [show spanN isDig (l.drop M)=K from HK.out]
    by_cases h0:K=0
    ·subst h0
     go_wp2_with fail
     go_ret
     rw [HC2.out]
     exact ⟨rfl,rfl⟩
    ·have b1:((K:Int) == 0)=false:=by rw [beq_eq_false_iff_ne];omega
     have HF3:Hid (expN (c :: l)=1+M+K):=by unfold Hid;rw [HC2.out,if_pos h0]
     clear h0
     go_wp2_with fail
     go_ret
     rw [HF3.out]
     exact ⟨by go_num,rfl⟩
  ·have b1:((c.toNat:Int) != 101)=true:=by simp;omega
   have b2:((c.toNat:Int) != 69)=true:=by simp;omega
   have HC2:Hid (expN (c :: l)=0):=by unfold Hid;rw [HC.out];simp [hE]
   clear hE HC
   go_enter Tryz.func76,Tryz.ntmps76
   go_wp2_with fail
   go_ret
   rw [HC2.out]
   exact ⟨rfl,rfl⟩
end Go.Proofs.YteclejplbphkpaaGreat
namespace Go.Proofs.YteclejplbphkpaaGreat
open Go.RowKit
theorem fracN_le (l:List UInt8):fracN l≤l.length:=by
 cases l with
 | nil=>exact Nat.le_refl _
 | cons c r =>
  unfold fracN;dsimp only
  have:=digN_le r
  split
  ·simp;omega
  ·simp
theorem expN_le (l:List UInt8):expN l≤l.length:=by
 cases l with
 | nil=>exact Nat.le_refl _
 | cons c r =>
  unfold expN;dsimp only
  have h1:=digN_le (r.drop (sgnN r))
  have h2:=(sgnN_le r).1
  split
  ·simp at h1 ⊢;omega
  ·simp
theorem isHex_iff (c:UInt8):isHexS c=true↔(48≤c.toNat∧c.toNat≤57)∨(97≤c.toNat∧c.toNat≤102)∨(65≤c.toNat∧c.toNat≤70):=by
 unfold isHexS isDig;simp;omega
theorem hexV_lt (c:UInt8) (h:isHexS c=true):hexV c≤15:=by
 have:=(isHex_iff c).1 h
 unfold hexV;split
 ·omega
 ·split <;> omega
end Go.Proofs.YteclejplbphkpaaGreat
namespace Go.Proofs.YteclejplbphkpaaGreat
open Go.RowKit
set_option maxRecDepth 100000 in
set_option maxHeartbeats 1600000 in
theorem decimalLength_any (s:ByteArray) (l:List UInt8) (w:World) (hl:Tx s l) (hs:(l.length:Int)≤100000) :
  Calls Tryz.prog 63 #[.string s] w fun e w'=>e = .returned (.int .i64 (decN l:Nat))∧w'=w:=by
 have HL:=Lib.hid hl
 have hz:(s.size:Int)=(l.length:Int):=by rw [hl.size]
 clear hl
 obtain ⟨M,hM⟩:∃ M,sgnN l=M:=⟨_,rfl⟩
 obtain ⟨hM1,hM2⟩:=sgnN_le l
 obtain ⟨K,hK⟩:∃ K,digN (l.drop M)=K:=⟨_,rfl⟩
 have hK1:M+K≤l.length:=by rw [← hK,← hM];have:=digN_le (l.drop (sgnN l));simp at this;omega
 obtain ⟨F,hF⟩:∃ F,fracN (l.drop (M+K))=F:=⟨_,rfl⟩
 have hF1:M+K+F≤l.length:=by rw [← hF];have:=fracN_le (l.drop (M+K));simp at this;omega
 obtain ⟨D,hD⟩:∃ D,K+F=D:=⟨_,rfl⟩
 obtain ⟨E,hE⟩:∃ E,expN (l.drop (M+D))=E:=⟨_,rfl⟩
 have hE1:M+D+E≤l.length:=by rw [← hE];have:=expN_le (l.drop (M+D));simp at this;omega
 have HC:Hid (decN l=if D=0 then 0 else M+D+E):=by
  unfold Hid decN;dsimp only;rw [hM,hK,hF,hD,hE]
 have HM:=Lib.hid hM
 have HK:=Lib.hid hK
 have HF:=Lib.hid hF
 have HE:=Lib.hid hE
 obtain ⟨u1,hu1,HU1⟩:=HL.out.from_ M
 obtain ⟨u2,hu2,HU2⟩:=HL.out.from_ (M+K)
 obtain ⟨u3,hu3,HU3⟩:=HL.out.from_ (M+D)
 have i1:(M:Int)≤(l.length:Int):=by omega
 have i2:(M:Int)+(K:Int)≤(l.length:Int):=by omega
 have i3:(M:Int)+(D:Int)≤(l.length:Int):=by omega
 have i4:(M:Int)+(D:Int)+(E:Int)≤(l.length:Int):=by omega
 have hDI:(K:Int)+(F:Int)=(D:Int):=by omega
 rw [hM] at hM1 hM2
 clear hM hK hF hE hM1 hM2 hK1 hF1 hE1 hD
 go_enter Tryz.func63,Tryz.ntmps63
 go_wp2_with fail
 refine (signLength_any s l w HL.out).mono ?_;rintro e w' ⟨rfl,rfl⟩
 rw [HM.out]
 go_wp2_with fail
 refine (span_any _ isDig such_digit u1 _ _ HU1.out (by simp;omega)).mono ?_;rintro e w' ⟨rfl,rfl⟩
 rw [show spanN isDig (l.drop M)=K from HK.out]
 go_wp2_with fail
 refine (fractionLength_any u2 _ _ HU2.out (by simp;omega)).mono ?_;rintro e w' ⟨rfl,rfl⟩
 rw [HF.out]
 by_cases h0:D=0
 ·have b1:((D:Int) == 0)=true:=by rw [beq_iff_eq];omega
  have HC2:Hid (decN l=0):=by unfold Hid;rw [HC.out,if_pos h0]
  clear h0
  go_wp2_with fail
  go_ret
  rw [HC2.out]
  exact ⟨rfl,rfl⟩
 ·have b1:((D:Int) == 0)=false:=by rw [beq_eq_false_iff_ne];omega
  have HC2:Hid (decN l=M+D+E):=by unfold Hid;rw [HC.out,if_neg h0]
  clear h0
  go_wp2_with fail
  refine (exponentLength_any u3 _ _ HU3.out (by simp;omega)).mono ?_;rintro e w' ⟨rfl,rfl⟩
  rw [HE.out]
  go_wp2_with fail
  go_ret
  rw [HC2.out]
  exact ⟨by go_num,rfl⟩
set_option maxRecDepth 100000 in
set_option maxHeartbeats 1600000 in
theorem isWhole_any (s:ByteArray) (l:List UInt8) (w:World) (hl:Tx s l) (hs:(l.length:Int)≤100000) :
  Calls Tryz.prog 64 #[.string s] w fun e w'=>e = .returned (.bool (wholeB l))∧w'=w:=by
 have HL:=Lib.hid hl
 have hz:(s.size:Int)=(l.length:Int):=by rw [hl.size]
 clear hl
 obtain ⟨M,hM⟩:∃ M,sgnN l=M:=⟨_,rfl⟩
 obtain ⟨hM1,hM2⟩:=sgnN_le l
 obtain ⟨K,hK⟩:∃ K,digN (l.drop M)=K:=⟨_,rfl⟩
 have hK1:M+K≤l.length:=by rw [← hK,← hM];have:=digN_le (l.drop (sgnN l));simp at this;omega
 have HC:Hid (wholeB l=decide (M+K=l.length)):=by unfold Hid wholeB;rw [hM,hK]
 have HM:=Lib.hid hM
 have HK:=Lib.hid hK
 obtain ⟨u1,hu1,HU1⟩:=HL.out.from_ M
 have i1:(M:Int)≤(l.length:Int):=by omega
 have i2:(M:Int)+(K:Int)≤(l.length:Int):=by omega
 rw [hM] at hM1 hM2
 clear hM hK hM1 hM2 hK1
 go_enter Tryz.func64,Tryz.ntmps64
 go_wp2_with fail
 refine (signLength_any s l w HL.out).mono ?_;rintro e w' ⟨rfl,rfl⟩
 rw [HM.out]
 go_wp2_with fail
 refine (span_any _ isDig such_digit u1 _ _ HU1.out (by simp;omega)).mono ?_;rintro e w' ⟨rfl,rfl⟩
 rw [show spanN isDig (l.drop M)=K from HK.out]
 go_wp2_with fail
 go_ret
 refine ⟨congrArg (fun b=>Ending.returned (Value.bool b)) ?_,rfl⟩
 rw [HC.out,Bool.eq_iff_iff]
 simp
 omega
set_option maxRecDepth 100000 in
set_option maxHeartbeats 1600000 in
theorem digitValue_any (c:UInt8) (w:World) (hc:isHexS c=true) :
  Calls Tryz.prog 87 #[.int .u8 (c.toNat:Int)] w fun e w'=>e = .returned (.int .u64 (hexV c:Nat))∧w'=w:=by
 have h:=(isHex_iff c).1 hc
 obtain ⟨H,hH⟩:∃ H,Hid (hexV c=H):=⟨_,rfl⟩
 rw [hH.out]
 by_cases c1:97≤c.toNat
 ·obtain ⟨R,hR⟩:∃ R:Nat,(c.toNat:Int) - 97=(R:Int):=⟨c.toNat - 97,by omega⟩
  have hR2:H=R+10:=by rw [← hH.out];unfold hexV;rw [if_pos (by omega)];omega
  have b1:decide ((97:Int)≤(c.toNat:Int))=true:=decide_eq_true (by omega)
  have b2:decide ((c.toNat:Int)≤102)=true:=decide_eq_true (by omega)
  have i1:(97:Int)≤(c.toNat:Int):=by omega
  have i2:(c.toNat:Int)≤102:=by omega
  have i3:(R:Int)≤5:=by omega
  subst hR2
  clear h c1
  go_enter Tryz.func87,Tryz.ntmps87
  go_wp2_with fail
  go_ret
  exact ⟨by go_num,rfl⟩
 ·have b1:decide ((97:Int)≤(c.toNat:Int))=false:=decide_eq_false (by omega)
  by_cases c2:65≤c.toNat
  ·obtain ⟨R,hR⟩:∃ R:Nat,(c.toNat:Int) - 65=(R:Int):=⟨c.toNat - 65,by omega⟩
   have hR2:H=R+10:=by rw [← hH.out];unfold hexV;rw [if_neg (by omega),if_pos (by omega)];omega
   have b3:decide ((65:Int)≤(c.toNat:Int))=true:=decide_eq_true (by omega)
   have b4:decide ((c.toNat:Int)≤70)=true:=decide_eq_true (by omega)
   have i1:(65:Int)≤(c.toNat:Int):=by omega
   have i2:(c.toNat:Int)≤70:=by omega
   have i3:(R:Int)≤5:=by omega
   subst hR2
   clear h c1 c2
   go_enter Tryz.func87,Tryz.ntmps87
   go_wp2_with fail
   go_ret
   exact ⟨by go_num,rfl⟩
  ·obtain ⟨R,hR⟩:∃ R:Nat,(c.toNat:Int) - 48=(R:Int):=⟨c.toNat - 48,by omega⟩
   have hR2:H=R:=by rw [← hH.out];unfold hexV;rw [if_neg (by omega),if_neg (by omega)];omega
   have b3:decide ((65:Int)≤(c.toNat:Int))=false:=decide_eq_false (by omega)
   have i1:(48:Int)≤(c.toNat:Int):=by omega
   have i2:(c.toNat:Int)≤57:=by omega
   have i3:(R:Int)≤9:=by omega
   subst hR2
   clear h c1 c2
   go_enter Tryz.func87,Tryz.ntmps87
   go_wp2_with fail
   go_ret
   exact ⟨by go_num,rfl⟩
end Go.Proofs.YteclejplbphkpaaGreat
namespace Go.Proofs.YteclejplbphkpaaGreat
open Go.RowKit
theorem natB_snoc (b:Nat) (l:List UInt8) (c:UInt8):natB b (l++[c])=b * natB b l+hexV c:=by
 unfold natB;rw [List.foldl_append];rfl
theorem natB_take (b:Nat) (l:List UInt8) (n:Nat) (h:n<l.length):natB b (l.take (n+1))=b * natB b (l.take n)+hexV l[n]:=by
 rw [List.take_append_getElem h |>.symm,natB_snoc]
theorem natB_mono (b:Nat) (hb:1≤b) (l m:List UInt8):natB b l≤natB b (l++m):=by
 induction m generalizing l with
 | nil=>simp
 | cons c m ih =>
  have h1:=ih (l++[c])
  rw [natB_snoc,List.append_assoc] at h1
  have:natB b l≤b * natB b l:=Nat.le_mul_of_pos_left _ hb
  simp at h1 ⊢
  omega
end Go.Proofs.YteclejplbphkpaaGreat
namespace Go.Proofs.YteclejplbphkpaaGreat
open Go.RowKit
theorem dig_hex (c:UInt8) (h:isDig c=true):isHexS c=true:=by unfold isHexS;rw [h];rfl
end Go.Proofs.YteclejplbphkpaaGreat
namespace Go.Proofs.YteclejplbphkpaaGreat
open Go.RowKit
set_option maxRecDepth 100000 in
set_option maxHeartbeats 1600000 in
theorem natural_any' (b L:Nat) (s:ByteArray) (l:List UInt8) (w:World) (hl:Tx s l) (hd:∀ c ∈ l,isHexS c=true) (hs:(l.length:Int)≤100000) (hb1:(10:Int)≤b) (hb2:(b:Int)≤16)
  (hL1:(4611686018427387904:Int)≤L) (hL2:(L:Int)≤9223372036854775808) :
  Calls Tryz.prog 73 #[.string s,.int .u64 (b:Int),.int .u64 (L:Int)] w fun e w'=>e = .returned (.tuple #[.int .u64 (if L<natB b l then 0 else natB b l:Nat),.bool (!decide (L<natB b l))])∧w'=w:=by
 have HL:=Lib.hid hl
 have HD:=Lib.hid hd
 have hz:(s.size:Int)=(l.length:Int):=by rw [hl.size]
 have hb0:((b:Int) == 0)=false:=by rw [beq_eq_false_iff_ne];omega
 obtain ⟨T,hT⟩:∃ T,Hid (natB b l=T):=⟨_,rfl⟩
 have HM:Hid (∀ n,natB b (l.take n)≤T):=by
  intro n
  rw [← hT.out]
  have:=natB_mono b (by omega) (l.take n) (l.drop n)
  rwa [List.take_append_drop] at this
 rw [hT.out]
 obtain ⟨RA,hRA⟩:∃ RA:Nat,Hid ((if L<T then 0 else T)=RA):=⟨_,rfl⟩
 obtain ⟨RB,hRB⟩:∃ RB:Bool,Hid ((!decide (L<T))=RB):=⟨_,rfl⟩
 rw [hRA.out,hRB.out]
 clear hl hd
 go_enter Tryz.func73,Tryz.ntmps73
 go_wp2_with fail
 go_loopw [6,12] (fun v i wr=>∃ (n V:Nat),v = .int .u64 (V:Int)∧i = .int .i64 n∧n≤l.length∧Hid (natB b (l.take n)=V)∧(V:Int)≤L∧wr=w) (fun _ i _=>(100000 - intOf i).toNat)
 case atStart=>exact ⟨0,0,rfl,rfl,Nat.zero_le _,by unfold Hid;simp [natB],by omega,rfl⟩
 case round =>
  obtain ⟨n,V,rfl,rfl,hn,HV,hVL,rfl⟩:=hrel
  by_cases hlt:n<l.length
  ·obtain ⟨hp,e0⟩:=HL.out.idx n hlt
   obtain ⟨c,hc⟩:∃ c,l[n]=c:=⟨_,rfl⟩
   rw [hc] at e0
   have HX:Hid (isHexS c=true):=by unfold Hid;rw [← hc];exact HD.out _ (List.getElem_mem hlt)
   obtain ⟨D,hD⟩:∃ D,Hid (hexV c=D):=⟨_,rfl⟩
   have hD15:(D:Int)≤15:=by have:=hexV_lt c HX.out;rw [hD.out] at this;omega
   obtain ⟨R,hR⟩:∃ R:Nat,(L:Int) - (D:Int)=(R:Int):=⟨L - D,by omega⟩
   have hR2:(R:Int)≤9223372036854775808:=by omega
   obtain ⟨Q,hQ⟩:∃ Q:Nat,R / b=Q:=⟨_,rfl⟩
   have hQ2:(Q:Int)≤9223372036854775808:=by have:=Nat.div_le_self R b;omega
   have fQ:(R:Int) / (b:Int)=(Q:Int):=by rw [← hQ];rfl
   have hVQ:V≤Q↔b * V+D≤L:=by
    rw [← hQ,Nat.le_div_iff_mul_le (by omega),Nat.mul_comm]
    omega
   obtain ⟨P,hP⟩:∃ P:Nat,b * V=P:=⟨_,rfl⟩
   rw [hP] at hVQ
   have fP:(b:Int) * (V:Int)=(P:Int):=by rw [← hP];push_cast;rfl
   have hNX:natB b (l.take (n+1))=P+D:=by rw [natB_take b l n hlt,HV.out,hc,hD.out,hP]
   have hT1:P+D≤T:=by rw [← hNX];exact HM.out _
   have g1:decide ((n:Int)<(l.length:Int))=true:=decide_eq_true (by omega)
   have HNX:=Lib.hid hNX
   have HVQ:=Lib.hid hVQ
   have HT1:=Lib.hid hT1
   clear hc hQ hP hNX hVQ hT1
   by_cases hle:V≤Q
   ·have g2:decide ((Q:Int)<(V:Int))=false:=decide_eq_false (by omega)
    have g3:¬ Q<V:=by omega
    have hPD:(P:Int)+(D:Int)≤(L:Int):=by have:=HVQ.out.1 hle;omega
    clear hle
    go_wp2_with fail
    refine (digitValue_any c _ HX.out).mono ?_;rintro e w' ⟨rfl,rfl⟩
    rw [hD.out]
    go_wp2_with fail
    go_roundw
    case rel=>exact ⟨n+1,P+D,by go_num,by go_num,hlt,HNX,by omega,by first | rfl | trivial⟩
    case measure=>simp [intOf];omega
   ·have g2:decide ((Q:Int)<(V:Int))=true:=decide_eq_true (by omega)
    have g3:Q<V:=by omega
    have HR:Hid (L<T):=by unfold Hid;have:=HVQ.out;have:=HT1.out;omega
    clear hle
    go_wp2_with fail
    refine (digitValue_any c _ HX.out).mono ?_;rintro e w' ⟨rfl,rfl⟩
    rw [hD.out]
    go_wp2_with fail
    go_ret2
    rw [← hRA.out,← hRB.out,if_pos HR.out,decide_eq_true HR.out]
    exact ⟨rfl,rfl⟩
  ·have g1:decide ((n:Int)<(l.length:Int))=false:=decide_eq_false (by omega)
   have HR:Hid (T=V∧¬ L<T):=by
    have h:T=V:=by rw [← HV.out,List.take_of_length_le (by omega)];exact hT.out.symm
    exact ⟨h,by omega⟩
   go_wp2_with fail
   go_ret2
   rw [← hRA.out,← hRB.out,if_neg HR.out.2,decide_eq_false HR.out.2,HR.out.1]
   exact ⟨rfl,rfl⟩
set_option maxRecDepth 100000 in
set_option maxHeartbeats 1600000 in
theorem hexValue_any (s:ByteArray) (l:List UInt8) (w:World) (hl:Tx s l) (hd:∀ c ∈ l,isHexS c=true) (hs:(l.length:Int)≤100000) :
  Calls Tryz.prog 62 #[.string s] w fun e w'=>e = .returned (.tuple #[.int .i64 (hexS l).1,.int .i64 ((hexS l).2:Nat)])∧w'=w:=by
 have HL:=Lib.hid hl
 have HD:=Lib.hid hd
 have hz:(s.size:Int)=(l.length:Int):=by rw [hl.size]
 obtain ⟨T,hT⟩:∃ T,Hid (natB 16 l=T):=⟨_,rfl⟩
 have HX:Hid (hexS l=if 16<l.length then (0,4) else if 9223372036854775807<T then (0,5) else ((T:Int),0)):=by unfold Hid;rw [← hT.out];rfl
 clear hl hd
 by_cases h16:16<l.length
 ·have g1:decide ((16:Int)<(l.length:Int))=true:=decide_eq_true (by omega)
  have HX2:Hid (hexS l=(0,4)):=by unfold Hid;rw [HX.out,if_pos h16]
  clear h16
  go_enter Tryz.func62,Tryz.ntmps62
  go_wp2_with fail
  go_ret2
  rw [HX2.out]
  exact ⟨rfl,rfl⟩
 ·have g1:decide ((16:Int)<(l.length:Int))=false:=decide_eq_false (by omega)
  have HX2:Hid (hexS l=if 9223372036854775807<T then (0,5) else ((T:Int),0)):=by unfold Hid;rw [HX.out,if_neg h16]
  clear h16
  go_enter Tryz.func62,Tryz.ntmps62
  go_wp2_with fail
  refine (natural_any' 16 9223372036854775807 s l _ HL.out HD.out hs (by decide) (by decide) (by decide) (by decide)).mono ?_;rintro e w' ⟨rfl,rfl⟩
  rw [hT.out]
  by_cases h:9223372036854775807<T
  ·have HX3:Hid (hexS l=(0,5)):=by unfold Hid;rw [HX2.out,if_pos h]
   rw [if_pos h,decide_eq_true h]
   clear h
   go_wp2_with fail
   go_ret2
   rw [HX3.out]
   exact ⟨rfl,rfl⟩
  ·have HX3:Hid (hexS l=((T:Int),0)):=by unfold Hid;rw [HX2.out,if_neg h]
   have hT2:(T:Int)≤9223372036854775807:=by omega
   rw [if_neg h,decide_eq_false h]
   clear h
   go_wp2_with fail
   go_ret2
   rw [HX3.out]
   exact ⟨rfl,rfl⟩
set_option maxRecDepth 100000 in
set_option maxHeartbeats 1600000 in
theorem wholeValue_any (s:ByteArray) (l:List UInt8) (w:World) (hl:Tx s l) (h0:l≠[]) (hd:∀ c ∈ l.drop (sgnN l),isDig c=true) (hs:(l.length:Int)≤100000) :
  Calls Tryz.prog 65 #[.string s] w fun e w'=>e = .returned (.tuple #[.int .i64 (wholeS l).1,.int .i64 ((wholeS l).2:Nat)])∧w'=w:=by
 obtain ⟨c,r,rfl⟩:∃ c r,l=c :: r:=by cases l with
  | nil=>exact absurd rfl h0
  | cons c r=>exact ⟨c,r,rfl⟩
 obtain ⟨hp,t0,e0,e1,ht,e2,e3⟩:=hl.cons
 have HL:=Lib.hid hl
 obtain ⟨M,hM⟩:∃ M,sgnN (c :: r)=M:=⟨_,rfl⟩
 obtain ⟨hM1,hM2⟩:=sgnN_le (c :: r)
 obtain ⟨ds,hds⟩:∃ ds,(c :: r).drop M=ds:=⟨_,rfl⟩
 obtain ⟨u,hu,HU⟩:=HL.out.from_ M
 have hz:(M:Int)≤(s.size:Int):=by rw [hl.size];omega
 rw [hM] at hd hM1 hM2
 rw [hds] at hd HU
 have hdl:ds.length≤(c :: r).length:=by rw [← hds];simp
 have hdl2:(ds.length:Int)≤100000:=by omega
 have HD:=Lib.hid hd
 have husz:u.size=ds.length:=HU.out.size
 obtain ⟨T,hT⟩:∃ T,Hid (natB 10 ds=T):=⟨_,rfl⟩
 obtain ⟨neg,hneg⟩:∃ neg,decide (c.toNat=45)=neg:=⟨_,rfl⟩
 have HX:Hid (wholeS (c :: r)=if 60<ds.length then (0,4) else if (if neg then 9223372036854775808 else 9223372036854775807)<T then (0,5) else ((if neg then -(T:Int) else (T:Int)),0)):=by
  have hn:negB (c :: r)=neg:=hneg
  unfold Hid wholeS;dsimp only;rw [hM,hds,hT.out,hn]
 have HM:=Lib.hid hM
 have b45:((c.toNat:Int) == 45)=neg:=by
  rw [← hneg,Bool.eq_iff_iff];simp;omega
 clear hl hd ht hM hds hs hM1 hM2 hdl hneg e1 h0
 go_enter Tryz.func65,Tryz.ntmps65
 go_wp2_with fail
 refine (signLength_any s (c :: r) w HL.out).mono ?_;rintro e w' ⟨rfl,rfl⟩
 rw [HM.out]
 by_cases h60:60<ds.length
 ·have g1:decide ((60:Int)<(ds.length:Int))=true:=decide_eq_true (by omega)
  have HX2:Hid (wholeS (c :: r)=(0,4)):=by unfold Hid;rw [HX.out,if_pos h60]
  clear HX h60
  go_wp2_with fail
  go_ret2
  rw [HX2.out]
  exact ⟨rfl,rfl⟩
 ·have g1:decide ((60:Int)<(ds.length:Int))=false:=decide_eq_false (by omega)
  have HX2:Hid (wholeS (c :: r)=if (if neg then 9223372036854775808 else 9223372036854775807)<T then (0,5) else ((if neg then -(T:Int) else (T:Int)),0)):=by unfold Hid;rw [HX.out,if_neg h60]
  clear HX h60
  cases neg
  ·go_wp2_with fail
   refine (natural_any' 10 9223372036854775807 u ds _ HU.out (fun c hc=>dig_hex c (HD.out c hc)) hdl2 (by decide) (by decide) (by decide) (by decide)).mono ?_;rintro e w' ⟨rfl,rfl⟩
   rw [hT.out]
   by_cases h:9223372036854775807<T
   ·have HX3:Hid (wholeS (c :: r)=(0,5)):=by unfold Hid;rw [HX2.out];simp [h]
    rw [if_pos h,decide_eq_true h]
    clear h
    go_wp2_with fail
    go_ret2
    rw [HX3.out]
    exact ⟨rfl,rfl⟩
   ·have HX3:Hid (wholeS (c :: r)=((T:Int),0)):=by unfold Hid;rw [HX2.out];simp [h]
    have hT2:(T:Int)≤9223372036854775807:=by omega
    rw [if_neg h,decide_eq_false h]
    clear h
    go_wp2_with fail
    go_ret2
    rw [HX3.out]
    exact ⟨rfl,rfl⟩
  ·go_wp2_with fail
   refine (natural_any' 10 9223372036854775808 u ds _ HU.out (fun c hc=>dig_hex c (HD.out c hc)) hdl2 (by decide) (by decide) (by decide) (by decide)).mono ?_;rintro e w' ⟨rfl,rfl⟩
   rw [hT.out]
   by_cases h:9223372036854775808<T
   ·have HX3:Hid (wholeS (c :: r)=(0,5)):=by unfold Hid;rw [HX2.out];simp [h]
    rw [if_pos h,decide_eq_true h]
    clear h
    go_wp2_with fail
    go_ret2
    rw [HX3.out]
    exact ⟨rfl,rfl⟩
   ·have HX3:Hid (wholeS (c :: r)=(-(T:Int),0)):=by unfold Hid;rw [HX2.out];simp [h]
    have hT2:(T:Int)≤9223372036854775808:=by omega
    obtain ⟨Z,hZ,hZ2⟩:∃ Z,IntKind.u64.wrap (-(T:Int))=Z∧IntKind.i64.wrap Z = -(T:Int):=by
     refine ⟨_,rfl,?_⟩
     rw [IntKind.wrap_u64,IntKind.wrap_i64]
     omega
    rw [if_neg h,decide_eq_false h]
    clear h
    go_wp2_with fail
    go_ret2
    rw [HX3.out]
    exact ⟨rfl,rfl⟩
end Go.Proofs.YteclejplbphkpaaGreat
namespace Go.Proofs.YteclejplbphkpaaGreat
open Go.RowKit
theorem twpList_bytes {P:Program} (w:World) {ops:Array Oper} {rest:List Oper} {o:Oper} {a:Act} {Q:Exit→Act→World→Prop} {src dst e:TypeId} (hgd:o.guard=none) (x:Operand) (ho:o.op = .convert src dst x) (hs:P.underlying src=some .string) (hd:P.underlying dst=some (.slice e)) (he:P.underlying e=some (.int .u8))
  (s:ByteArray) (l:List UInt8) (hl:Tx s l) (hx:a.eval x = .string s)
  (h:∀ c w',Rd bv w' (some ⟨w.heap.size,0,none⟩) l→Nx w w'→wpList P ops Q rest (a.put o.dst (.slice (some ⟨w.heap.size,0,none⟩) l.length c)) w'):wpList P ops Q (o :: rest) a w:=by
 refine wpList_plain hgd fun K hK=>?_
 have hrun:=Lib.run_convert_string_bytes (P:=P) w src dst e s hs hd he
 have hn:Nx w (Lib.bytesWorld w e s):=Joins.below_bytesWorld _ w e s (Nat.le_refl _)
 have hr:Rd bv (Lib.bytesWorld w e s) (some ⟨w.heap.size,0,none⟩) l:=by
  intro h0
  refine ⟨w.heap.size,0,rfl,by rw [Lib.bytesWorld_size];omega,fun j hj=>?_⟩
  rw [Nat.zero_add,Lib.bytesWorld_cell w e s j (by rw [hl.size];exact hj),show s.data.toList=l from hl]
  simp [bv,hj]
 have:=hK _ _ (h (grownCap w s.size 0 e) _ hr hn)
 unfold Oper.wp execOp
 simp only [ho,Sem.run_bind,Sem.run_pure,Result.andThen_ok,hx,hrun]
 rw [hl.size] at *
 exact this
theorem results_cell_tmp2_row {P:Program} {fn:Func} {p u v:Tmp} {ty:TypeId} (h:fn.results=#[.cell p ty,.tmp u,.tmp v]) (tmps:Array Value) (w:World) (g:Nat) (t:TypeId) (cs:Array Value) (fr:Nat×Nat) (d:TypeDesc)
  (hp:tmps.getD p undef = .pointer (some ⟨g,0,none⟩)) (hg:w.heap[g]? = some (.cells cs t fr))
  (hu:P.underlying ty=some d) (hd:(match d with | .struct _ | .array _ _=>true | _=>false)=true) (hi:(P.info? ty).map (·.size)=some cs.size) :
  (results fn tmps).run P w = .ok (.tuple #[.agg cs,tmps.getD u undef,tmps.getD v undef]) w:=by
 have hp':tmps[p]?.getD undef = .pointer (some ⟨g,0,none⟩):=by simpa using hp
 simp [results,h,hp',asAddr,run_loadVar_row w g t ty cs fr d hg hu hd hi]
def TokR (e:Ending) (r:Nat×TokV×Nat):Prop :=
 ∃ k t v d p n,e = .returned (.tuple #[.agg #[.int .i64 k,.string t,.int .i64 v,.int .u64 d,.int .i64 p],.int .i64 n,.int .i64 (r.1:Nat)]) ∧
  (r.1=0→#[.int .i64 k,.string t,.int .i64 v,.int .u64 d,.int .i64 p]=tokC r.2.1∧n=(r.2.2:Nat))
theorem dot_is (l:List UInt8):dotBad l=(Lib.hasSuffix l [46] || Lib.contains l [46,46]):=by
 induction l with
 | nil=>rfl
 | cons c r ih =>
  have h1:Lib.hasSuffix (c :: r) [46]=(decide (c=46∧r=[]) || Lib.hasSuffix r [46]):=by
   unfold Lib.hasSuffix
   rw [Bool.eq_iff_iff,Bool.or_eq_true,List.isSuffixOf_iff_suffix,List.isSuffixOf_iff_suffix,List.suffix_cons_iff]
   simp
   constructor
   ·rintro (⟨h,h'⟩ | h)
    ·exact .inl ⟨h.symm,h'⟩
    ·exact .inr h
   ·rintro (⟨h,h'⟩ | h)
    ·exact .inl ⟨h.symm,h'⟩
    ·exact .inr h
  have h2:Lib.contains (c :: r) [46,46]=(decide (c=46∧r.head? = some 46) || Lib.contains r [46,46]):=by
   unfold Lib.contains
   conv=>lhs;unfold Lib.index
   have hp:List.isPrefixOf [46,46] (c :: r)=decide (c=46∧r.head? = some 46):=by
    rw [Bool.eq_iff_iff]
    cases r with
    | nil=>simp [List.isPrefixOf]
    | cons d r=>simp [List.isPrefixOf];exact ⟨fun h=>⟨h.1.symm,h.2.symm⟩,fun h=>⟨h.1.symm,h.2.symm⟩⟩
   rw [hp]
   have hge:=Lib.index_ge r [46,46]
   by_cases hc:c=46∧r.head? = some 46
   ·simp [hc]
   ·rw [if_neg (by simpa using hc),decide_eq_false hc,Bool.false_or]
    by_cases hx:Lib.index r [46,46] = -1
    ·rw [hx];rfl
    ·have:(Lib.index r [46,46] == -1)=false:=by rw [beq_eq_false_iff_ne];exact hx
     rw [this,Bool.eq_iff_iff]
     simp
     omega
  rw [h1,h2]
  unfold dotBad
  rw [ih]
  have h46:decide (c.toNat=46)=decide (c=46):=by
   rw [Bool.eq_iff_iff];simp;rw [← UInt8.toNat_inj];rfl
  rw [h46]
  cases r with
  | nil =>
   by_cases hc:c=46
   ·simp [hc]
   ·simp [hc]
  | cons d r =>
   by_cases hc:c=46
   ·simp [hc,Bool.or_left_comm,Bool.or_comm,Bool.or_assoc]
   ·simp [hc]
theorem spanN_cut (p:UInt8→Bool) (l:List UInt8) (n:Nat):spanN p (l.take n)=min (spanN p l) n:=by
 induction l generalizing n with
 | nil=>simp [spanN]
 | cons c l ih =>
  cases n with
  | zero=>simp [spanN]
  | succ n =>
   rw [List.take_succ_cons]
   unfold spanN
   by_cases h:p c=true
   ·rw [if_pos h,if_pos h,ih];omega
   ·rw [if_neg h,if_neg h];omega
theorem cells5 {w:World} {B g:Nat} {T:TypeId} {a0 a1 a2 a3 a4:Value} (h:Blk w B g #[a0,a1,a2,a3,a4] T) :
  w.cell? ⟨g,0,none⟩=some a0∧w.cell? ⟨g,1,none⟩=some a1∧w.cell? ⟨g,2,none⟩=some a2∧w.cell? ⟨g,3,none⟩=some a3∧w.cell? ⟨g,4,none⟩=some a4 ∧
  w.frozen? ⟨g,0,none⟩=false∧w.frozen? ⟨g,1,none⟩=false∧w.frozen? ⟨g,2,none⟩=false∧w.frozen? ⟨g,3,none⟩=false∧w.frozen? ⟨g,4,none⟩=false :=
 ⟨h.cell 0,h.cell 1,h.cell 2,h.cell 3,h.cell 4,h.free 0,h.free 1,h.free 2,h.free 3,h.free 4⟩
end Go.Proofs.YteclejplbphkpaaGreat
