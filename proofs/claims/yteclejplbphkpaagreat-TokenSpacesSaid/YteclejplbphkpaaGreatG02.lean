/- Numbers as lists of words: plain lemmas that big and the document's answer share. A number that is read: the words in which contracts of big speak. The contracts of big: entries, how many bits a word has, lists without noughts behind, order, the low bits (what is plain of it). The contracts of big: a row that the call makes and writes; order, sums, differences (what is plain of it). The contracts of big: sums, differences, products, powers of ten (what is plain of it). The contracts of big: powers of ten, shifts (what is plain of it). The contracts of big: shifts (what is plain of it). The contracts of big: a multiple taken from a row, a number added to a row (what is plain of it). The contract of big: one digit of a quotient (what is plain of it). -/
import Derived.Test.YteclejplbphkpaaGreatProg
import Derived.Test.YteclejplbphkpaaGreatG01
import Derived.Test.YteclejplbphkpaaGreatG00
import Derived.WalkSpells
import Derived.Deep.DeepCutAuto
import Derived.Deep.QuietTactic
import Derived.BigQuiet
import Derived.RegionTactic
set_option linter.unusedVariables false
set_option linter.unusedSimpArgs false
set_option linter.unnecessarySimpa false
namespace Go.Proofs.YteclejplbphkpaaGreat
open Go.RowKit
theorem info_u32:(Tryz.prog.info? 85).map (fun i=>(i.zero,i.size,i.bytes))=some (some (.int .u32 0),1,4):=by kernel_rfl
theorem uT:ElT Tryz.prog 83 85 4:=by
 obtain ⟨i,h1,h2,h3,h4⟩:=info_parts info_u32
 exact ⟨Tryz.underlying83,i,_,h1,h2,h3,h4,rfl⟩
def ent (l:List UInt32) (i:Nat):Nat:=(l.getD i 0).toNat
theorem ent_le (l:List UInt32) (i:Nat):(ent l i:Int)≤4294967295:=by
 have:=(l.getD i 0).toNat_lt;unfold ent;omega
theorem ent_val (l:List UInt32) (i:Nat):ent l i=val l / 4294967296 ^ i % 4294967296:=val_entry l i
theorem Rd.litsU {w:World} {e:TypeId} {g:Nat} (xs:List UInt32) (hg:g=w.heap.size):Rd uv (w.alloc (.cells (xs.map uv).toArray e)) (some ⟨g,0,none⟩) xs:=by
 subst hg
 intro _
 refine ⟨_,_,rfl,by simp,fun j hj=>?_⟩
 rw [World.cell?_alloc_at _ _ _ _ rfl]
 simp [hj]
theorem or_hi (a b:Nat) (ha:(a:Int)≤4294967295) (hb:(b:Int)≤4294967295):bits .or .u64 (a:Int) ((b:Int) * 4294967296)=((a+b * 4294967296:Nat):Int):=by
 have h0:((b:Int) * 4294967296)=((b * 4294967296:Nat):Int):=by omega
 have hl:b * 4294967296<18446744073709551616:=by omega
 have hl2:a<18446744073709551616:=by omega
 have ha':a<2 ^ 32:=by omega
 rw [h0,bits_or_u64_nat a _ hl2 hl]
 have:=Nat.two_pow_add_eq_or_of_lt (i:=32) (b:=a) ha' b
 rw [Nat.or_comm,Nat.mul_comm b,show (4294967296:Nat)=2 ^ 32 from rfl,← this,Nat.add_comm]
theorem digits_ext:∀ (k a b:Nat),a<4294967296 ^ k→b<4294967296 ^ k→(∀ j,a / 4294967296 ^ j % 4294967296=b / 4294967296 ^ j % 4294967296)→a=b
 | 0,a,b,ha,hb,_=>by simp at ha hb;omega
 | k+1,a,b,ha,hb,h=>by
  have h0:=h 0
  rw [Nat.pow_zero,Nat.div_one,Nat.div_one] at h0
  have h1:a / 4294967296=b / 4294967296:=by
   rw [Nat.pow_succ] at ha hb
   refine digits_ext k _ _ (Nat.div_lt_of_lt_mul (by omega)) (Nat.div_lt_of_lt_mul (by omega)) fun j=>?_
   have:=h (j+1)
   rw [Nat.pow_succ,Nat.mul_comm (4294967296 ^ j),← Nat.div_div_eq_div_mul,← Nat.div_div_eq_div_mul] at this
   exact this
  omega
theorem high_ext (xs ys:List UInt32) (m:Nat) (h:∀ j,m≤j→ent xs j=ent ys j):val xs / 4294967296 ^ m=val ys / 4294967296 ^ m:=by
 have hx:=val_lt xs
 have hy:=val_lt ys
 refine digits_ext (xs.length+ys.length) _ _ ?_ ?_ fun j=>?_
 ·exact Nat.lt_of_le_of_lt (Nat.div_le_self _ _) (Nat.lt_of_lt_of_le hx (Nat.pow_le_pow_right (by decide) (by omega)))
 ·exact Nat.lt_of_le_of_lt (Nat.div_le_self _ _) (Nat.lt_of_lt_of_le hy (Nat.pow_le_pow_right (by decide) (by omega)))
 ·have:=h (m+j) (by omega)
  rw [ent_val,ent_val,Nat.pow_add,← Nat.div_div_eq_div_mul,← Nat.div_div_eq_div_mul] at this
  exact this
theorem val_ext (xs ys:List UInt32) (h:∀ j,ent xs j=ent ys j):val xs=val ys:=by
 simpa using high_ext xs ys 0 fun j _=>h j
theorem val_less (xs ys:List UInt32) (m:Nat) (h:∀ j,m+1≤j→ent xs j=ent ys j) (hlt:ent xs m<ent ys m):val xs<val ys:=by
 have h1:=high_ext xs ys (m+1) h
 rw [ent_val,ent_val] at hlt
 rw [Nat.pow_succ,← Nat.div_div_eq_div_mul,← Nat.div_div_eq_div_mul] at h1
 have h2:val xs / 4294967296 ^ m<val ys / 4294967296 ^ m:=by
  generalize val xs / 4294967296 ^ m=a at *
  generalize val ys / 4294967296 ^ m=b at *
  omega
 rcases Nat.lt_or_ge (val xs) (val ys) with h | h
 ·exact h
 ·have:=Nat.div_le_div_right (c:=4294967296 ^ m) h
  omega
def cmpI (a b:Nat):Int:=if a<b then -1 else if b<a then 1 else 0
theorem add_step (V cc P X Y S:Nat) (hS:S=cc+X / P % 4294967296+Y / P % 4294967296) (h:V+cc * P=X % P+Y % P) :
  V+P * (S % 4294967296)+S / 4294967296 * (P * 4294967296)=X % (P * 4294967296)+Y % (P * 4294967296):=by
 rw [Nat.mod_mul,Nat.mod_mul]
 have h1:P * S=P * (S % 4294967296)+S / 4294967296 * (P * 4294967296):=by
  have:=Nat.div_add_mod S 4294967296
  have h2:P * S=P * (4294967296 * (S / 4294967296)+S % 4294967296):=by rw [this]
  rw [h2,Nat.mul_add,Nat.add_comm,← Nat.mul_assoc,Nat.mul_comm (P * 4294967296)]
 have h3:P * S=P * cc+P * (X / P % 4294967296)+P * (Y / P % 4294967296):=by rw [hS,Nat.mul_add,Nat.mul_add]
 have h4:P * cc=cc * P:=Nat.mul_comm _ _
 omega
theorem val_snoc (l:List UInt32) (x:UInt32):val (l++[x])=val l+4294967296 ^ l.length * x.toNat:=by
 rw [val_append,val_cons];simp [val]
theorem sub_step (V bo P X Y D bo':Nat) (hD:D+Y / P % 4294967296+bo=X / P % 4294967296+4294967296) (hb:bo'+D / 4294967296=1) (h:V+Y % P=X % P+bo * P) :
  V+P * (D % 4294967296)+Y % (P * 4294967296)=X % (P * 4294967296)+bo' * (P * 4294967296):=by
 rw [Nat.mod_mul,Nat.mod_mul]
 have h1:P * D=P * (D % 4294967296)+P * 4294967296 * (D / 4294967296):=by
  have:=Nat.div_add_mod D 4294967296
  have h2:P * D=P * (4294967296 * (D / 4294967296)+D % 4294967296):=by rw [this]
  rw [h2,Nat.mul_add,Nat.add_comm,← Nat.mul_assoc]
 have h3:P * D+P * (Y / P % 4294967296)+P * bo=P * (X / P % 4294967296)+P * 4294967296:=by
  rw [← Nat.mul_add,← Nat.mul_add,hD,Nat.mul_add]
 have h4:P * 4294967296 * (D / 4294967296)+bo' * (P * 4294967296)=P * 4294967296:=by
  rw [Nat.mul_comm bo',← Nat.mul_add,Nat.add_comm,hb,Nat.mul_one]
 have h5:P * bo=bo * P:=Nat.mul_comm _ _
 generalize P * 4294967296 * (D / 4294967296)=Q at *
 generalize bo' * (P * 4294967296)=R at *
 omega
def SubIs (w w':World) (x y:Nat) (v:Value) (is:Bool):Prop :=
 if x<y then v = .slice none 0 0∧is=false else Own uv 85 w' w.heap.size v (limbs (x - y))∧is=true
theorem uZ:∀ i,Tryz.prog.info? 85 = some i→i.zero=some (uv 0):=by
 obtain ⟨i,h1,h2,h3,h4⟩:=info_parts info_u32
 intro j hj
 rw [h1] at hj;cases hj;exact h2
theorem val_set (l:List UInt32) (i:Nat) (hi:i<l.length) (y:UInt32):val (l.set i y)+4294967296 ^ i * (l.getD i 0).toNat=val l+4294967296 ^ i * y.toNat:=by
 induction l generalizing i with
 | nil=>simp at hi
 | cons x l ih =>
  cases i with
  | zero=>simp [val];omega
  | succ i =>
   have:=ih i (by simpa using hi)
   simp only [List.set_cons_succ,val_cons,List.getD_cons_succ,Nat.pow_succ,Nat.mul_comm (4294967296 ^ i) 4294967296,Nat.mul_assoc]
   generalize 4294967296 ^ i * (l.getD i 0).toNat=p at *
   generalize 4294967296 ^ i * y.toNat=q at *
   omega
theorem mul_step (V V' cc P Pi T a b o S:Nat) (Y Pk:Nat) (hP:P=Pi * Pk) (hS:S=cc+o+a * b) (hb:b=Y / Pk % 4294967296) (hV:V'+P * o=V+P * (S % 4294967296)) (h:V+cc * P=T+a * (Y % Pk) * Pi) :
  V'+S / 4294967296 * (P * 4294967296)=T+a * (Y % (Pk * 4294967296)) * Pi:=by
 rw [Nat.mod_mul,← hb]
 have h1:P * S=P * (S % 4294967296)+S / 4294967296 * (P * 4294967296):=by
  have:=Nat.div_add_mod S 4294967296
  have h2:P * S=P * (4294967296 * (S / 4294967296)+S % 4294967296):=by rw [this]
  rw [h2,Nat.mul_add,Nat.add_comm,← Nat.mul_assoc,Nat.mul_comm (P * 4294967296)]
 have h3:P * S=cc * P+P * o+a * b * P:=by rw [hS,Nat.mul_add,Nat.mul_add,Nat.mul_comm P cc,Nat.mul_comm P (a * b)]
 have h4:a * (Y % Pk+Pk * b) * Pi=a * (Y % Pk) * Pi+a * b * P:=by
  rw [hP,Nat.mul_add,Nat.add_mul]
  congr 1
  rw [Nat.mul_comm Pk b,← Nat.mul_assoc,Nat.mul_assoc (a * b),Nat.mul_comm Pk Pi]
 omega
theorem bit_val (xs:List UInt32) (i:Nat):ent xs (i / 32) / 2 ^ (i % 32) % 2=val xs / 2 ^ i % 2:=by
 rw [ent_val]
 generalize val xs=V
 have hB:(4294967296:Nat) ^ (i / 32)=2 ^ (32 * (i / 32)):=by rw [Nat.pow_mul]
 have h32:(4294967296:Nat)=2 ^ (i % 32) * 2 ^ (32 - i % 32):=by
  rw [← Nat.pow_add,show i % 32+(32 - i % 32)=32 from by omega]
 have hi:2 ^ i=2 ^ (32 * (i / 32)) * 2 ^ (i % 32):=by rw [← Nat.pow_add];congr 1;omega
 rw [hB,hi,← Nat.div_div_eq_div_mul]
 generalize V / 2 ^ (32 * (i / 32))=W
 rw [h32,Nat.mod_mul_right_div_self]
 exact Nat.mod_mod_of_dvd _ ⟨2 ^ (32 - i % 32 - 1),by rw [← Nat.pow_succ'];congr 1;omega⟩
theorem and_one64 (a m:Nat) (ha:(a:Int)≤4294967295):bits .and .u64 ((a:Int) / 2 ^ m) 1=((a / 2 ^ m % 2:Nat):Int):=by
 have hle:a / 2 ^ m≤a:=Nat.div_le_self _ _
 have hl1:a / 2 ^ m<18446744073709551616:=by omega
 have:=bits_and_u64_nat (a / 2 ^ m) 1 hl1 (by decide)
 rw [Nat.and_one_is_mod] at this
 rw [← this]
 simp
theorem bits_unique (n k:Nat) (h1:n<2 ^ k) (h2:k=0∨2 ^ (k - 1)≤n):k=if n=0 then 0 else Nat.log2 n+1:=by
 by_cases hn:n=0
 ·subst hn
  rw [if_pos rfl]
  rcases h2 with h | h
  ·exact h
  ·have:=Nat.pow_pos (n:=k - 1) (show 0<2 by decide);omega
 ·rw [if_neg hn]
  rcases h2 with h | h
  ·subst h;simp at h1;omega
  ·have a1:k≠0:=by rintro rfl;simp at h1;omega
   have a2:Nat.log2 n<k:=(Nat.log2_lt hn).2 h1
   have a3:k - 1≤Nat.log2 n:=(Nat.le_log2 hn).2 h
   omega
def blen (n:Nat):Nat:=if n=0 then 0 else Nat.log2 n+1
theorem top_bit (n k:Nat) (h1:n<2 ^ (k+1)):(n / 2 ^ k % 2=0→n<2 ^ k)∧(n / 2 ^ k % 2≠0→2 ^ k≤n):=by
 have h:n / 2 ^ k<2:=Nat.div_lt_of_lt_mul (by rw [Nat.pow_succ] at h1;exact h1)
 constructor
 ·intro h0
  have:n / 2 ^ k=0:=by
   generalize n / 2 ^ k=q at *
   omega
  exact (Nat.div_eq_zero_iff_lt (Nat.pow_pos (by decide))).1 this
 ·intro h0
  rcases Nat.lt_or_ge n (2 ^ k) with h | h
  ·rw [Nat.div_eq_of_lt h] at h0;omega
  ·exact h
theorem Own.litU {w:World} {g:Nat} (xs:List UInt32) (hg:g=w.heap.size) (hm:xs.length≤maxLen):Own uv 85 (w.alloc (.cells (xs.map uv).toArray 85)) w.heap.size (.slice (some ⟨g,0,none⟩) xs.length xs.length) xs:=by
 subst hg
 exact ⟨by simp,.inr ⟨w.heap.size,xs.length,_,rfl,Nat.le_refl _,heap_alloc_new w _,Nat.le_refl _,hm,by simp,by rw [Nat.mul_one];exact List.take_of_length_le (by simp)⟩⟩
def shF (V:Nat) (n:Int) (i:Nat):Nat:=if 0≤n then (V % 2 ^ i) * 2 ^ n.toNat else (V % 2 ^ i) / 2 ^ (-n).toNat
theorem mod_succ_pow (V i:Nat):V % 2 ^ (i+1)=V % 2 ^ i+2 ^ i * (V / 2 ^ i % 2):=by rw [Nat.pow_succ,Nat.mod_mul]
theorem shF_skip (V:Nat) (n:Int) (i:Nat) (h:V / 2 ^ i % 2=0∨(i:Int)+n<0):shF V n (i+1)=shF V n i:=by
 unfold shF
 rw [mod_succ_pow]
 rcases h with h | h
 ·rw [h];simp
 ·rw [if_neg (by omega),if_neg (by omega)]
  have h1:V % 2 ^ i<2 ^ i:=Nat.mod_lt _ (Nat.pow_pos (by decide))
  have h2:2 ^ (i+1)≤2 ^ (-n).toNat:=Nat.pow_le_pow_right (by decide) (by omega)
  have h3:2 ^ i * (V / 2 ^ i % 2)≤2 ^ i:=by
   have:V / 2 ^ i % 2≤1:=by omega
   exact Nat.le_trans (Nat.mul_le_mul_left _ this) (by omega)
  rw [Nat.pow_succ] at h2
  rw [Nat.div_eq_of_lt (by omega),Nat.div_eq_of_lt (by omega)]
theorem shF_set (V:Nat) (n:Int) (i p:Nat) (h:V / 2 ^ i % 2=1) (hp:(i:Int)+n=p):shF V n (i+1)=shF V n i+2 ^ p∧shF V n i<2 ^ p:=by
 unfold shF
 rw [mod_succ_pow,h,Nat.mul_one]
 have h1:V % 2 ^ i<2 ^ i:=Nat.mod_lt _ (Nat.pow_pos (by decide))
 by_cases hn:0≤n
 ·rw [if_pos hn,if_pos hn]
  have hp':p=i+n.toNat:=by omega
  rw [hp',Nat.pow_add]
  exact ⟨Nat.add_mul _ _ _,Nat.mul_lt_mul_of_pos_right h1 (Nat.pow_pos (by decide))⟩
 ·rw [if_neg hn,if_neg hn]
  have hi:i=p+(-n).toNat:=by omega
  have hP:0<2 ^ (-n).toNat:=Nat.pow_pos (by decide)
  rw [hi,Nat.pow_add] at h1 ⊢
  constructor
  ·rw [Nat.add_mul_div_right _ _ hP]
  ·exact Nat.div_lt_of_lt_mul (by rw [Nat.mul_comm (2 ^ (-n).toNat)];exact h1)
theorem shF_low (l:List UInt32) (p:Nat) (h:val l<2 ^ p):ent l (p / 32)<2 ^ (p % 32):=by
 rw [ent_val]
 have hp:2 ^ p=4294967296 ^ (p / 32) * 2 ^ (p % 32):=by
  rw [show (4294967296:Nat)=2 ^ 32 from rfl,← Nat.pow_mul,← Nat.pow_add];congr 1;omega
 rw [hp] at h
 exact Nat.lt_of_le_of_lt (Nat.mod_le _ _) (Nat.div_lt_of_lt_mul h)
theorem pow_split (p:Nat):4294967296 ^ (p / 32) * 2 ^ (p % 32)=2 ^ p:=by
 rw [show (4294967296:Nat)=2 ^ 32 from rfl,← Nat.pow_mul,← Nat.pow_add];congr 1;omega
theorem or_bit (e r:Nat) (hr:r<32) (he:e<2 ^ r):bits .or .u32 (e:Int) (2 ^ r % 4294967296)=((e+2 ^ r:Nat):Int)∧e+2 ^ r<4294967296:=by
 have hp:2 ^ (r+1)≤2 ^ 32:=Nat.pow_le_pow_right (by decide) (by omega)
 have hp2:2 ^ (r+1)=2 ^ r * 2:=Nat.pow_succ _ _
 have e32:(2:Nat) ^ 32=4294967296:=rfl
 have h1:e+2 ^ r<4294967296:=by omega
 have hc:((2:Int) ^ r % 4294967296)=((2 ^ r:Nat):Int):=by
  have:((2:Int) ^ r)=((2 ^ r:Nat):Int):=by rw [Int.natCast_pow];rfl
  rw [this]
  exact Int.emod_eq_of_lt (by omega) (by omega)
 refine ⟨?_,h1⟩
 rw [hc,u32_or_nat e (2 ^ r) (by omega) (by omega)]
 have:=Nat.two_pow_add_eq_or_of_lt (i:=r) (b:=e) he 1
 rw [Nat.mul_one] at this
 rw [Nat.or_comm,← this,Nat.add_comm]
end Go.Proofs.YteclejplbphkpaaGreat
namespace Go.Proofs.YteclejplbphkpaaGreat
open Go.RowKit
def IsNum (w:World) (v:Value) (n:Nat):Prop:=∃ A c ys,v = .slice A ys.length c∧Rd uv w A ys∧ys.length≤c∧c≤maxLen∧Hid (ys=limbs n)
theorem IsNum.below {w w':World} {v:Value} {n:Nat} (h:IsNum w v n) (hb:Below w.heap.size w w'):IsNum w' v n:=by
 obtain ⟨A,c,ys,h1,h2,h3⟩:=h
 exact ⟨A,c,ys,h1,h2.below hb,h3⟩
theorem IsNum.cast {w:World} {v:Value} {n m:Nat} (h:IsNum w v n) (e:n=m):IsNum w v m:=e ▸ h
theorem IsNum.zero (w:World):IsNum w (.slice none 0 0) 0:=⟨none,0,[],rfl,Rd.nil,Nat.le_refl _,Nat.zero_le _,rfl⟩
theorem IsNum.open_ {w:World} {v:Value} {n:Nat} (h:IsNum w v n) (k:Nat) (hk:n<4294967296 ^ k):∃ A c ys,v = .slice A ys.length c∧Rd uv w A ys∧ys.length≤c∧c≤maxLen∧ys.length≤k∧Hid (ys=limbs n)∧Hid (val ys=n):=by
 obtain ⟨A,c,ys,h1,h2,h3,h4,h5⟩:=h
 refine ⟨A,c,ys,h1,h2,h3,h4,?_,h5,?_⟩
 ·rw [h5.out];exact limbs_len _ _ hk
 ·unfold Hid;rw [h5.out,val_limbs]
def Num (w:World) (v:Value) (n K:Nat):Prop:=∃ A c ys,v = .slice A ys.length c∧Rd uv w A ys∧ys.length≤c∧c≤maxLen∧ys.length≤K∧val ys=n
theorem Num.below {w w':World} {v:Value} {n K:Nat} (h:Num w v n K) (hb:Below w.heap.size w w'):Num w' v n K:=by
 obtain ⟨A,c,ys,h1,h2,h3⟩:=h
 exact ⟨A,c,ys,h1,h2.below hb,h3⟩
theorem IsNum.num {w:World} {v:Value} {n K:Nat} (h:IsNum w v n) (hk:n<4294967296 ^ K):Num w v n K:=by
 obtain ⟨A,c,ys,h1,h2,h3,h4,h5,h6,h7⟩:=h.open_ K hk
 exact ⟨A,c,ys,h1,h2,h3,h4,h5,h7⟩
theorem Num.of {w:World} {A:Option Addr} {xs:List UInt32} {c K:Nat} (hr:Rd uv w A xs) (hc:xs.length≤c) (hm:c≤maxLen) (hl:xs.length≤K):Num w (.slice A xs.length c) (val xs) K:=⟨A,c,xs,rfl,hr,hc,hm,hl,rfl⟩
theorem Num.lt {w:World} {v:Value} {n K:Nat} (h:Num w v n K):n<4294967296 ^ K:=by
 obtain ⟨A,c,ys,h1,h2,h3,h4,h5,rfl⟩:=h
 exact Nat.lt_of_lt_of_le (val_lt ys) (Nat.pow_le_pow_right (by decide) h5)
def shV (V:Nat) (n:Int):Nat:=if 0≤n then V * 2 ^ n.toNat else V / 2 ^ (-n).toNat
theorem shF_shV (l:List UInt32) (n:Int):shF (val l) n (32 * l.length)=shV (val l) n:=by
 unfold shF shV
 have:val l % 2 ^ (32 * l.length)=val l:=Nat.mod_eq_of_lt (by rw [Nat.pow_mul];exact val_lt l)
 rw [this]
def DivN (w':World) (x y:Nat) (q r:Value) (ok:Bool):Prop :=
 if y=0 then q = .slice none 0 0∧r = .slice none 0 0∧ok=false
 else IsNum w' q (x / y)∧IsNum w' r (x % y)∧ok=true
theorem b8 {n K:Nat} (k:Nat) (h:n<4294967296 ^ k) (hk:k≤K):n<4294967296 ^ K:=Nat.lt_of_lt_of_le h (Nat.pow_le_pow_right (by decide) hk)
end Go.Proofs.YteclejplbphkpaaGreat
namespace Go.Proofs.YteclejplbphkpaaGreat
open Go.RowKit
def lenV:Value→Nat | .slice _ n _=>n | _=>0
def cmpZ (a b:Int):Int:=if a<b then -1 else if b<a then 1 else 0
theorem or_lo (a b:Nat) (ha:(a:Int)≤4294967295) (hb:(b:Int)≤4294967295):bits .or .u64 ((b:Int) * 4294967296) (a:Int)=((a+b * 4294967296:Nat):Int):=by
 have h0:((b:Int) * 4294967296)=((b * 4294967296:Nat):Int):=by omega
 have hl:b * 4294967296<18446744073709551616:=by omega
 have hl2:a<18446744073709551616:=by omega
 have ha':a<2 ^ 32:=by omega
 rw [h0,bits_or_u64_nat _ a hl hl2]
 have:=Nat.two_pow_add_eq_or_of_lt (i:=32) (b:=a) ha' b
 rw [Nat.mul_comm b,show (4294967296:Nat)=2 ^ 32 from rfl,← this,Nat.add_comm]
theorem blen_top (l:List UInt32) (t:Nat) (hl:l.length=t+1) (h0:ent l t≠0):blen (val l)=32 * t+blen (ent l t):=by
 have hlt:=val_lt l
 rw [hl] at hlt
 have he:ent l t=val l / 4294967296 ^ t:=by
  rw [ent_val]
  exact Nat.mod_eq_of_lt (Nat.div_lt_of_lt_mul (by rw [← Nat.pow_succ];exact hlt))
 have hB:(4294967296:Nat) ^ t=2 ^ (32 * t):=by rw [Nat.pow_mul]
 rw [hB] at he
 generalize ent l t=e at *
 have hP:0<2 ^ (32 * t):=Nat.pow_pos (by decide)
 have hb:blen e=Nat.log2 e+1:=by unfold blen;rw [if_neg h0]
 have h1:2 ^ Nat.log2 e≤e:=Nat.log2_self_le h0
 have h2:e<2 ^ (Nat.log2 e+1):=(Nat.log2_lt h0).1 (Nat.lt_succ_self _)
 have hv0:val l≠0:=by
  intro h
  rw [h,Nat.zero_div] at he
  exact h0 he
 unfold blen at *
 rw [if_neg hv0,if_neg h0]
 refine ((bits_unique (val l) (32 * t+(Nat.log2 e+1)) ?_ (.inr ?_)).trans (by rw [if_neg hv0])).symm
 ·rw [Nat.pow_add,Nat.mul_comm]
  rw [he] at h2 ⊢
  exact (Nat.div_lt_iff_lt_mul hP).1 h2
 ·rw [show 32 * t+(Nat.log2 e+1) - 1=Nat.log2 e+32 * t from by omega,Nat.pow_add]
  exact Nat.le_trans (Nat.mul_le_mul_right _ h1) (by rw [he];exact Nat.div_mul_le_self _ _)
theorem limbs_top (n t:Nat) (h:(limbs n).length=t+1):ent (limbs n) t≠0:=by
 have hne:limbs n≠[]:=by intro e;rw [e] at h;simp at h
 have hc:=canon_limbs n hne
 intro h0
 apply hc
 rw [List.getLast_eq_getElem]
 unfold ent at h0
 rw [List.getD,List.getElem?_eq_getElem (by omega)] at h0
 simp only [h,Nat.add_sub_cancel]
 exact UInt32.toNat_inj.1 h0
theorem limbs_less (x y:Nat) (h:(limbs x).length<(limbs y).length):x<y:=by
 rcases Nat.lt_or_ge x y with h' | h'
 ·exact h'
 ·exfalso
  obtain ⟨t,ht⟩:∃ t,(limbs y).length=t+1:=⟨(limbs y).length - 1,by omega⟩
  have h1:=limbs_top y t ht
  rw [ent_val,val_limbs] at h1
  have h2:x<4294967296 ^ (limbs x).length:=by have:=val_lt (limbs x);rwa [val_limbs] at this
  have h3:4294967296 ^ (limbs x).length≤4294967296 ^ t:=Nat.pow_le_pow_right (by decide) (by omega)
  rw [Nat.div_eq_of_lt (by omega)] at h1
  exact h1 rfl
end Go.Proofs.YteclejplbphkpaaGreat
namespace Go.Proofs.YteclejplbphkpaaGreat
open Go.RowKit
structure Row (w:World) (B g off cap:Nat) (xs:List UInt32):Prop where
 hB:B≤g
 hg:g<w.heap.size
 hn:xs.length≤cap
 hm:cap≤maxLen
 hs:∀ j,j<cap→(w.cell? ⟨g,off+j,none⟩).isSome=true∧w.frozen? ⟨g,off+j,none⟩=false
 hc:∀ j (h:j<xs.length),w.cell? ⟨g,off+j,none⟩=some (uv xs[j])
theorem Row.rd {w:World} {B g off cap:Nat} {xs:List UInt32} (h:Row w B g off cap xs):Rd uv w (some ⟨g,off,none⟩) xs:=fun _=>⟨g,off,rfl,h.hg,h.hc⟩
theorem Row.gen {w:World} {B g off cap:Nat} {xs:List UInt32} (h:Row w B g off cap xs):OwnG uv w B (.slice (some ⟨g,off,none⟩) xs.length cap) xs:=.inr ⟨g,off,cap,rfl,h.hB,h.hg,h.hn,h.hm,h.hs,h.hc⟩
theorem Row.of_gen {w:World} {B g off cap n:Nat} {xs:List UInt32} (h:OwnG uv w B (.slice (some ⟨g,off,none⟩) n cap) xs):Row w B g off cap xs:=by
 rcases h with ⟨h,_⟩ | ⟨g',off',cap',h1,h2,h3,h4,h5,h6,h7⟩
 ·cases h
 ·injection h1 with e1 e2 e3;injection e1 with e1;injection e1 with e4 e5;subst e4 e5 e3;exact ⟨h2,h3,h4,h5,h6,h7⟩
theorem Row.below {w w':World} {B g off cap:Nat} {xs:List UInt32} (h:Row w B g off cap xs) (hb:Below w.heap.size w w'):Row w' B g off cap xs:=Row.of_gen (h.gen.below hb)
theorem Row.less {w:World} {B B' g off cap:Nat} {xs:List UInt32} (h:Row w B g off cap xs) (hB:B'≤B):Row w B' g off cap xs:={ h with hB:=Nat.le_trans hB h.hB }
theorem Row.set_ {w:World} {B g off cap i:Nat} {xs:List UInt32} {y:UInt32} (h:Row w B g off cap xs) (hi:i<xs.length):Row (w.setCell ⟨g,off+i,none⟩ (uv y)) B g off cap (xs.set i y) :=
 Row.of_gen (h.gen.set_ hi)
theorem Row.drew {w:World} {B g off cap:Nat} {xs:List UInt32} (h:Row w B g off cap xs):Row w.drew B g off cap xs:=⟨h.hB,h.hg,h.hn,h.hm,h.hs,h.hc⟩
theorem Row.cell {w:World} {B g off cap:Nat} {xs:List UInt32} (h:Row w B g off cap xs) {i a:Nat} (hi:i<xs.length) (ha:Hid (ent xs i=a)):w.cell? ⟨g,off+i,none⟩=some (.int .u32 (a:Int)):=by
 rw [h.hc i hi,← ha.out,uv,ent,List.getD,List.getElem?_eq_getElem hi];rfl
theorem Row.free {w:World} {B g off cap:Nat} {xs:List UInt32} (h:Row w B g off cap xs) {i:Nat} (hi:i<xs.length):w.frozen? ⟨g,off+i,none⟩=false:=(h.hs i (Nat.lt_of_lt_of_le hi h.hn)).2
theorem Row.put {w:World} {B g off cap i:Nat} {xs:List UInt32} (h:Row w B g off cap xs) (hi:i<xs.length) (n:Nat):Row (w.setCell ⟨g,off+i,none⟩ (uv (UInt32.ofNat n))) B g off cap (xs.set i (UInt32.ofNat n)):=h.set_ hi
theorem rd_cell {w:World} {A:Option Addr} {xs:List UInt32} (h:Rd uv w A xs) {i a:Nat} (hi:i<xs.length) (ha:Hid (ent xs i=a)):∃ b off,A=some ⟨b,off,none⟩∧b<w.heap.size∧w.cell? ⟨b,off+i,none⟩=some (.int .u32 (a:Int)):=by
 obtain ⟨b,off,h1,h2,h3⟩:=h.at_ hi
 refine ⟨b,off,h1,h2,?_⟩
 rw [h3,← ha.out,uv,ent,List.getD,List.getElem?_eq_getElem hi];rfl
section
variable {P:Program} (w:World) {ops:Array Oper} {rest:List Oper} {o:Oper} {a:Act} {Q:Exit→Act→World→Prop}
theorem wpList_mke {t e:TypeId} {by_:Nat} (T:ElT P t e by_) (hz0:∀ i,P.info? e=some i→i.zero=some (uv 0)) (hgd:o.guard=none) (l c:Operand) (hop:o.op=Op.makeSlice t l c)
  (B:Nat) (kl kc:IntKind) (N:Int) (hl:a.eval l = .int kl N) (hc:a.eval c = .int kc N) (h0:0≤N) (hby:by_ * N≤281474976710656) (hm:N≤281474976710656) (hB:B≤w.heap.size)
  (h:∀ g off cap w' (zs:List UInt32),Row w' B g off cap zs→Hid (zs=List.replicate N.toNat 0)→(zs.length:Int)≤N→N≤(zs.length:Int)→Below B w w'→w.heap.size≤g→wpList P ops Q rest (a.put o.dst (.slice (some ⟨g,off,none⟩) zs.length cap)) w'):wpList P ops Q (o :: rest) a w:=by
 obtain ⟨i,z,hi,hz,h1,h2,h3⟩:=T.inf
 obtain rfl:z=uv 0:=by have:=hz0 i hi;rw [hz] at this;injection this
 refine wpList_plain hgd fun K hK=>?_
 have hrun:=run_make (P:=P) w t e i (uv 0) T.ht hi hz kl kc N N h0 (Int.le_refl _) (by rw [h2];exact hby) (by omega)
 rw [h1,Nat.mul_one] at hrun
 have hmc:(madeCells (uv 0).cells N.toNat).toList=List.replicate N.toNat (uv 0):=by
  rw [show (uv 0).cells=#[uv 0] from rfl]
  apply List.ext_getElem
  ·simp [madeCells]
  ·intro j h1 h2
   simp [madeCells,Nat.mod_one]
 have hsz:(madeCells (uv 0).cells N.toNat).size=N.toNat:=by rw [← Array.length_toList,hmc];simp
 have hown:OwnG uv (w.alloc (.cells (madeCells (uv 0).cells N.toNat) e)) B (.slice (some ⟨w.heap.size,0,none⟩) (List.replicate N.toNat (0:UInt32)).length N.toNat) (List.replicate N.toNat 0) :=
  Own.gen (e:=e) ⟨by simp,.inr ⟨w.heap.size,N.toNat,_,rfl,hB,heap_alloc_new w _,by simp,by simp only [maxLen];omega,by omega,by rw [hmc];simp⟩⟩
 have:=hK _ _ (h _ _ _ _ _ (Row.of_gen hown) rfl (by rw [List.length_replicate];omega) (by rw [List.length_replicate];omega) ((Below.refl B w).alloc hB _) (Nat.le_refl _))
 unfold Oper.wp execOp
 simp only [hop,Sem.run_bind,Sem.run_pure,Result.andThen_ok,hl,hc,hrun]
 simp only [List.length_replicate] at this
 exact this
end
theorem cmpI_len (x y:Nat) (h:(limbs x).length≠(limbs y).length):cmpZ (limbs x).length (limbs y).length=cmpI x y:=by
 unfold cmpZ cmpI
 rcases Nat.lt_or_ge (limbs x).length (limbs y).length with h1 | h1
 ·rw [if_pos (by omega),if_pos (limbs_less _ _ h1)]
 ·have h2:=limbs_less y x (by omega)
  rw [if_neg (by omega),if_pos (by omega),if_neg (by omega),if_pos h2]
end Go.Proofs.YteclejplbphkpaaGreat
namespace Go.Proofs.YteclejplbphkpaaGreat
open Go.RowKit
theorem set_zero (l:List UInt32) (i n:Nat) (hi:i<l.length) (h0:ent l i=0):val (l.set i (UInt32.ofNat n))=val l+4294967296 ^ i * (n % 4294967296):=by
 have:=val_set l i hi (UInt32.ofNat n)
 have h0':(l.getD i 0).toNat=0:=h0
 rw [h0',UInt32.toNat_ofNat'] at this
 simpa using this
theorem ent_set_ne (l:List UInt32) (i j:Nat) (y:UInt32) (h:i≠j):ent (l.set i y) j=ent l j:=by
 unfold ent;rw [List.getD,List.getD,List.getElem?_set_ne h]
theorem ent_zeros (n j:Nat):ent (List.replicate n 0) j=0:=by
 unfold ent;rw [List.getD,List.getElem?_replicate];split <;> rfl
end Go.Proofs.YteclejplbphkpaaGreat
namespace Go.Proofs.YteclejplbphkpaaGreat
open Go.RowKit
theorem and_one64i (i:Nat) (hi:i<9223372036854775808):bits BinOp.and IntKind.i64 (i:Int) 1=((i % 2:Nat):Int):=by
 have t63:(2:Int) ^ 63=9223372036854775808:=by decide
 have h:=bits_mask .i64 63 (by decide) (fun n h0 h1=>by rw [t63] at h1;rw [IntKind.wrap_i64];omega) 1 (by decide) (i:Int) (by omega) (by rw [t63];omega)
 have e:((2:Int) ^ 1 - 1)=1:=by decide
 rw [e] at h
 rw [h]
 omega
theorem ten_step (a b m N:Nat) (h:a * b ^ m=N):(m % 2=1→(a * b) * (b * b) ^ (m / 2)=N)∧(m % 2=0→a * (b * b) ^ (m / 2)=N):=by
 have e:(b * b) ^ (m / 2)=b ^ (2 * (m / 2)):=by rw [← Nat.pow_two,← Nat.pow_mul]
 rw [e]
 constructor
 ·intro h1
  rw [Nat.mul_assoc,← Nat.pow_succ',show (2 * (m / 2)).succ=m from by omega,h]
 ·intro h1
  rw [show 2 * (m / 2)=m from by omega,h]
theorem ten_bound (n:Nat):10 ^ n<4294967296 ^ (n+1) :=
 Nat.lt_of_le_of_lt (Nat.pow_le_pow_left (show 10≤4294967296 by decide) n) (Nat.pow_lt_pow_right (by decide) (Nat.lt_succ_self n))
end Go.Proofs.YteclejplbphkpaaGreat
namespace Go.Proofs.YteclejplbphkpaaGreat
open Go.RowKit
theorem shl_room (V e i X b:Nat) (h:V=4294967296 ^ e * (X * 2 ^ b)) (hX:X<4294967296 ^ i) (hb:b≤31) :
  V / 4294967296 ^ (e+i) % 4294967296<2 ^ b∧V / 4294967296 ^ (e+i+1) % 4294967296=0:=by
 have hp:2 ^ b≤2 ^ 31:=Nat.pow_le_pow_right (by decide) hb
 have hp0:0<2 ^ b:=Nat.pow_pos (by decide)
 have h1:V<4294967296 ^ (e+i) * 2 ^ b:=by
  rw [h,Nat.pow_add,Nat.mul_assoc]
  exact Nat.mul_lt_mul_of_pos_left (Nat.mul_lt_mul_of_pos_right hX hp0) (Nat.pow_pos (by decide))
 constructor
 ·exact Nat.lt_of_le_of_lt (Nat.mod_le _ _) (Nat.div_lt_of_lt_mul h1)
 ·rw [Nat.div_eq_of_lt]
  ·rw [Nat.pow_succ]
   exact Nat.lt_of_lt_of_le h1 (Nat.mul_le_mul_left _ (by omega))
theorem shl_word (a b h:Nat) (ha:(a:Int)≤4294967295) (hb:(b:Int)≤31) (hh:h<2 ^ b) :
  bits .or .u32 (h:Int) (IntKind.u64.wrap ((a:Int) * 2 ^ b) % 4294967296)=((h+a * 2 ^ b % 4294967296:Nat):Int)∧h+a * 2 ^ b % 4294967296<4294967296 ∧
  IntKind.u64.wrap ((a:Int) * 2 ^ b) / 4294967296 % 4294967296=((a * 2 ^ b / 4294967296 % 4294967296:Nat):Int):=by
 have e:∀ x:Int,IntKind.u64.wrap x=x % 18446744073709551616:=fun x=>by simp [IntKind.wrap,IntKind.bits,IntKind.signed]
 have hc:((a:Int) * 2 ^ b)=((a * 2 ^ b:Nat):Int):=by rw [Int.natCast_mul,Int.natCast_pow];rfl
 have hp:2 ^ b≤2 ^ 31:=Nat.pow_le_pow_right (by decide) (by omega)
 have hab:a * 2 ^ b≤4294967295 * 2147483648:=Nat.mul_le_mul (by omega) (by omega)
 have h32:(4294967296:Nat)=2 ^ (32 - b) * 2 ^ b:=by rw [← Nat.pow_add,show 32 - b+b=32 from by omega]
 have hm:a * 2 ^ b % 4294967296=2 ^ b * (a % 2 ^ (32 - b)):=by rw [h32,Nat.mul_mod_mul_right,Nat.mul_comm]
 have hor:=Nat.two_pow_add_eq_or_of_lt (i:=b) (b:=h) hh (a % 2 ^ (32 - b))
 rw [← hm] at hor
 have hlt:a * 2 ^ b % 4294967296<4294967296:=Nat.mod_lt _ (by decide)
 have hh32:h<4294967296:=by omega
 have hs:h+a * 2 ^ b % 4294967296<4294967296:=by
  rw [Nat.add_comm,hor];exact Nat.or_lt_two_pow (n:=32) hlt hh32
 rw [hc,e]
 refine ⟨?_,hs,by omega⟩
 have hc2:((a * 2 ^ b:Nat):Int) % 18446744073709551616 % 4294967296=((a * 2 ^ b % 4294967296:Nat):Int):=by omega
 rw [hc2,u32_or_nat h _ hh32 hlt,Nat.add_comm h,hor,Nat.or_comm]
theorem shl_step (e i X a b h V1:Nat) (ha:(a:Int)≤4294967295) (hb:(b:Int)≤31) (hset:V1+4294967296 ^ (e+i) * h=4294967296 ^ e * (X * 2 ^ b)+4294967296 ^ (e+i) * (h+a * 2 ^ b % 4294967296)) :
  V1+4294967296 ^ (e+i+1) * (a * 2 ^ b / 4294967296 % 4294967296)=4294967296 ^ e * ((X+4294967296 ^ i * a) * 2 ^ b):=by
 have hp:2 ^ b≤2 ^ 31:=Nat.pow_le_pow_right (by decide) (by omega)
 have hab:a * 2 ^ b≤4294967295 * 2147483648:=Nat.mul_le_mul (by omega) (by omega)
 have e1:4294967296 ^ e * ((X+4294967296 ^ i * a) * 2 ^ b)=4294967296 ^ e * (X * 2 ^ b)+4294967296 ^ (e+i) * (a * 2 ^ b):=by
  rw [Nat.add_mul,Nat.mul_add,Nat.pow_add,Nat.mul_assoc (4294967296 ^ i),Nat.mul_assoc (4294967296 ^ e)]
 rw [e1,Nat.pow_succ,Nat.mul_assoc]
 generalize a * 2 ^ b=T at *
 have e2:4294967296 ^ (e+i) * T=4294967296 ^ (e+i) * (4294967296 * (T / 4294967296 % 4294967296))+4294967296 ^ (e+i) * (T % 4294967296):=by
  rw [← Nat.mul_add];congr 1;omega
 rw [Nat.mul_add] at hset
 omega
theorem or_word (a b:Nat) (ha:(a:Int)≤4294967295) (hb:(b:Int)≤4294967295) (s:Nat) (hs:(s:Int)≤31) :
  bits .or .u64 ((b:Int) * 4294967296) (a:Int) / 2 ^ s % 4294967296=(((a+b * 4294967296) / 2 ^ s % 4294967296:Nat):Int):=by
 rw [or_lo a b ha hb]
 have:((2:Int) ^ s)=((2 ^ s:Nat):Int):=by rw [Int.natCast_pow];rfl
 rw [this,← Int.natCast_ediv]
 rfl
theorem down_word (V s k:Nat) (hs:s≤31):(V / 4294967296 ^ k % 4294967296+V / 4294967296 ^ (k+1) % 4294967296 * 4294967296) / 2 ^ s % 4294967296=V / 2 ^ s / 4294967296 ^ k % 4294967296:=by
 have e1:V / 2 ^ s / 4294967296 ^ k=V / 4294967296 ^ k / 2 ^ s:=by rw [Nat.div_div_eq_div_mul,Nat.div_div_eq_div_mul,Nat.mul_comm]
 rw [e1,Nat.pow_succ,← Nat.div_div_eq_div_mul]
 generalize V / 4294967296 ^ k=W
 have e2:W % 4294967296+W / 4294967296 % 4294967296 * 4294967296=W % (4294967296 * 4294967296):=by rw [Nat.mod_mul,Nat.mul_comm 4294967296 (W / 4294967296 % 4294967296)]
 rw [e2]
 have h32:(4294967296 * 4294967296:Nat)=2 ^ s * (4294967296 * 2 ^ (32 - s)):=by
  have:(4294967296:Nat)=2 ^ s * 2 ^ (32 - s):=by rw [← Nat.pow_add,show s+(32 - s)=32 from by omega]
  calc (4294967296 * 4294967296:Nat)=4294967296 * (2 ^ s * 2 ^ (32 - s)):=by rw [← this]
   _=2 ^ s * (4294967296 * 2 ^ (32 - s)):=by rw [Nat.mul_left_comm]
 rw [h32,Nat.mod_mul_right_div_self]
 exact Nat.mod_mod_of_dvd _ ⟨_,rfl⟩
end Go.Proofs.YteclejplbphkpaaGreat
namespace Go.Proofs.YteclejplbphkpaaGreat
open Go.RowKit
structure Only (g lo hi:Nat) (w w':World):Prop where
 os:w'.os=w.os
 tape:w'.tape=w.tape
 output:w'.output=w.output
 size:w.heap.size≤w'.heap.size
 block:∀ k,k≠g→k<w.heap.size→w'.heap[k]? = w.heap[k]?
 cell:∀ j,j<lo∨hi≤j→w'.cell? ⟨g,j,none⟩=w.cell? ⟨g,j,none⟩
 isSome:∀ j,(w.cell? ⟨g,j,none⟩).isSome=true→(w'.cell? ⟨g,j,none⟩).isSome=true
 frozen:∀ j,w'.frozen? ⟨g,j,none⟩=w.frozen? ⟨g,j,none⟩
theorem Only.refl (g lo hi:Nat) (w:World):Only g lo hi w w:=⟨rfl,rfl,rfl,Nat.le_refl _,fun _ _ _=>rfl,fun _ _=>rfl,fun _ h=>h,fun _=>rfl⟩
theorem Only.trans {g lo hi:Nat} {a b c:World} (h:Only g lo hi a b) (k:Only g lo hi b c):Only g lo hi a c :=
 ⟨k.os.trans h.os,k.tape.trans h.tape,k.output.trans h.output,Nat.le_trans h.size k.size,fun i h1 h2=>(k.block i h1 (Nat.lt_of_lt_of_le h2 h.size)).trans (h.block i h1 h2),fun j hj=>(k.cell j hj).trans (h.cell j hj),fun j hj=>k.isSome j (h.isSome j hj),fun j=>(k.frozen j).trans (h.frozen j)⟩
theorem Only.nx {g lo hi:Nat} {a b c:World} (h:Only g lo hi a b) (hg:g<b.heap.size) (k:Below b.heap.size b c):Only g lo hi a c :=
 h.trans ⟨k.os,k.tape,k.output,k.size,fun i _ h2=>k.block i h2,fun j _=>k.cell (p:=⟨g,j,none⟩) hg,fun j hj=>by rw [k.cell (p:=⟨g,j,none⟩) hg];exact hj,fun j=>k.frozen (p:=⟨g,j,none⟩) hg⟩
theorem Only.setCell {g lo hi i:Nat} {a b:World} (h:Only g lo hi a b) (h1:lo≤i) (h2:i<hi) (v:Value):Only g lo hi a (b.setCell ⟨g,i,none⟩ v):=by
 refine h.trans ⟨rfl,rfl,rfl,by simp [World.setCell],fun k hk _=>Below.heap_setCell _ _ _ _ hk,fun j hj=>?_,fun j hj=>?_,fun j=>World.frozen?_setCell ..⟩
 ·exact World.cell?_setCell_other _ _ _ _ (by simp only [ne_eq,Addr.mk.injEq];omega)
 ·by_cases hji:j=i
  ·subst hji
   obtain ⟨u,hu⟩:=Option.isSome_iff_exists.1 hj
   rw [World.cell?_setCell_same _ _ _ hu];rfl
  ·rw [World.cell?_setCell_other _ _ _ _ (by simp only [ne_eq,Addr.mk.injEq];omega)];exact hj
theorem Only.below {g lo hi B:Nat} {w w':World} (h:Only g lo hi w w') (hB:B≤g) (hs:B≤w.heap.size):Below B w w' :=
 ⟨h.os,h.tape,h.output,h.size,fun k hk=>h.block k (by omega) (by omega)⟩
theorem Only.other {g lo hi:Nat} {w w':World} (h:Only g lo hi w w') {p:Addr} (hp:p.block≠g) (hs:p.block<w.heap.size):w'.cell? p=w.cell? p :=
 World.cell?_of_block (w:=w) (h.block p.block hp hs)
theorem Only.otherF {g lo hi:Nat} {w w':World} (h:Only g lo hi w w') {p:Addr} (hp:p.block≠g) (hs:p.block<w.heap.size):w'.frozen? p=w.frozen? p :=
 World.frozen?_of_block (w:=w) (h.block p.block hp hs)
theorem Row.only {w w':World} {B g off cap g' lo hi:Nat} {xs:List UInt32} (h:Row w B g off cap xs) (ho:Only g' lo hi w w') (hne:g≠g'):Row w' B g off cap xs :=
 ⟨h.hB,Nat.lt_of_lt_of_le h.hg ho.size,h.hn,h.hm,fun j hj=>by rw [ho.other (p:=⟨g,off+j,none⟩) hne h.hg,ho.otherF (p:=⟨g,off+j,none⟩) hne h.hg];exact h.hs j hj,fun j hj=>by rw [ho.other (p:=⟨g,off+j,none⟩) hne h.hg];exact h.hc j hj⟩
def Rdx (g:Nat) (w:World) (A:Option Addr) (xs:List UInt32):Prop :=
 0<xs.length→∃ b off,A=some ⟨b,off,none⟩∧b≠g∧b<w.heap.size∧∀ j (h:j<xs.length),w.cell? ⟨b,off+j,none⟩=some (uv xs[j])
theorem Rdx.rd {g:Nat} {w:World} {A:Option Addr} {xs:List UInt32} (h:Rdx g w A xs):Rd uv w A xs:=fun hn=>by
 obtain ⟨b,off,h1,_,h2,h3⟩:=h hn
 exact ⟨b,off,h1,h2,h3⟩
theorem Rdx.only {g lo hi:Nat} {w w':World} {A:Option Addr} {xs:List UInt32} (h:Rdx g w A xs) (ho:Only g lo hi w w'):Rdx g w' A xs:=fun hn=>by
 obtain ⟨b,off,h1,h0,h2,h3⟩:=h hn
 exact ⟨b,off,h1,h0,Nat.lt_of_lt_of_le h2 ho.size,fun j hj=>by rw [ho.other (p:=⟨b,off+j,none⟩) h0 h2];exact h3 j hj⟩
theorem Rd.rdx {g:Nat} {w w':World} {A:Option Addr} {xs:List UInt32} (h:Rd uv w A xs) (hb:Below w.heap.size w w') (hg:w.heap.size≤g):Rdx g w' A xs:=fun hn=>by
 obtain ⟨b,off,h1,h2,h3⟩:=h hn
 exact ⟨b,off,h1,by omega,Nat.lt_of_lt_of_le h2 hb.size,fun j hj=>by rw [hb.cell (p:=⟨b,off+j,none⟩) h2];exact h3 j hj⟩
theorem take_word (r p:Nat) (hr:(r:Int)≤4294967295) (hp:(p:Int)≤18446744069414584321) :
  IntKind.u64.wrap ((r:Int) - (p:Int) % 4294967296) % 4294967296=(((r+4294967296 - p % 4294967296) % 4294967296:Nat):Int) ∧
  IntKind.u64.wrap ((p:Int) / 4294967296+IntKind.u64.wrap ((r:Int) - (p:Int) % 4294967296) / 9223372036854775808)=((p / 4294967296+(1 - (r+4294967296 - p % 4294967296) / 4294967296):Nat):Int):=by
 have e:∀ x:Int,IntKind.u64.wrap x=x % 18446744073709551616:=fun x=>by simp [IntKind.wrap,IntKind.bits,IntKind.signed]
 obtain ⟨m,hm⟩:∃ m,p % 4294967296=m:=⟨_,rfl⟩
 obtain ⟨q,hq⟩:∃ q,p / 4294967296=q:=⟨_,rfl⟩
 have hmI:(p:Int) % 4294967296=(m:Int):=by omega
 have hqI:(p:Int) / 4294967296=(q:Int):=by omega
 have hm':m<4294967296:=by omega
 have hq':q≤4294967295:=by omega
 rw [e,e,hm,hq,hmI,hqI]
 clear hm hq hmI hqI hp
 refine ⟨by omega,?_⟩
 by_cases h:r<m
 ·have h1:((r:Int) - m) % 18446744073709551616 / 9223372036854775808=1:=by omega
  have h2:(r+4294967296 - m) / 4294967296=0:=by omega
  rw [h1,h2];omega
 ·have h1:((r:Int) - m) % 18446744073709551616 / 9223372036854775808=0:=by omega
  have h2:(r+4294967296 - m) / 4294967296=1:=by omega
  rw [h1,h2];omega
theorem take_last (r bo:Nat) (hr:(r:Int)≤4294967295) (hb:(bo:Int)≤4294967296) :
  IntKind.u64.wrap ((r:Int) - (bo:Int)) % 4294967296=(((r+4294967296 - bo) % 4294967296:Nat):Int) ∧
  ((IntKind.u64.wrap ((r:Int) - (bo:Int)) / 9223372036854775808) == (1:Int))=decide (r<bo):=by
 have e:∀ x:Int,IntKind.u64.wrap x=x % 18446744073709551616:=fun x=>by simp [IntKind.wrap,IntKind.bits,IntKind.signed]
 rw [e]
 refine ⟨by omega,?_⟩
 by_cases h:r<bo
 ·rw [decide_eq_true h]
  have:((r:Int) - bo) % 18446744073709551616 / 9223372036854775808=1:=by omega
  rw [this];rfl
 ·rw [decide_eq_false h]
  have:((r:Int) - bo) % 18446744073709551616 / 9223372036854775808=0:=by omega
  rw [this];rfl
theorem take_end (V V' P U T bo r:Nat) (hr:r≤4294967295) (hb:bo≤4294967296) (hV:V'+P * r=V+P * ((r+4294967296 - bo) % 4294967296)) (h:V+T=U+bo * P) :
  V'+T=U+(if r<bo then P * 4294967296 else 0):=by
 have e6:bo * P=P * bo:=Nat.mul_comm _ _
 by_cases hlt:r<bo
 ·rw [if_pos hlt]
  have e1:P * bo+P * ((r+4294967296 - bo) % 4294967296)=P * r+P * 4294967296:=by rw [← Nat.mul_add,← Nat.mul_add];congr 1;omega
  generalize P * ((r+4294967296 - bo) % 4294967296)=x3 at *
  omega
 ·rw [if_neg hlt]
  have e1:P * bo+P * ((r+4294967296 - bo) % 4294967296)=P * r:=by rw [← Nat.mul_add];congr 1;omega
  generalize P * ((r+4294967296 - bo) % 4294967296)=x3 at *
  omega
theorem take_step (V V' P U D t d bo r p:Nat) (hp:p=t * d+bo) (hd:d=D / P % 4294967296) (hr:r≤4294967295) (hV:V'+P * r=V+P * ((r+4294967296 - p % 4294967296) % 4294967296)) (h:V+t * (D % P)=U+bo * P) :
  V'+t * (D % (P * 4294967296))=U+(p / 4294967296+(1 - (r+4294967296 - p % 4294967296) / 4294967296)) * (P * 4294967296):=by
 rw [Nat.mod_mul,← hd]
 obtain ⟨L,hL⟩:∃ L,r+4294967296 - p % 4294967296=L:=⟨_,rfl⟩
 rw [hL] at hV ⊢
 have e1:p % 4294967296+L % 4294967296=r+4294967296 * (1 - L / 4294967296):=by omega
 have e2:P * (p % 4294967296)+P * (L % 4294967296)=P * r+P * (4294967296 * (1 - L / 4294967296)):=by rw [← Nat.mul_add,e1,Nat.mul_add]
 have e3:t * (D % P+P * d)=t * (D % P)+P * (t * d):=by rw [Nat.mul_add,Nat.mul_left_comm]
 have e4:P * (t * d)+P * bo=P * (4294967296 * (p / 4294967296))+P * (p % 4294967296):=by
  rw [← Nat.mul_add,← Nat.mul_add,← hp];congr 1;omega
 have e5:(p / 4294967296+(1 - L / 4294967296)) * (P * 4294967296)=P * (4294967296 * (p / 4294967296))+P * (4294967296 * (1 - L / 4294967296)):=by
  rw [Nat.add_mul,← Nat.mul_assoc P,← Nat.mul_assoc P,Nat.mul_comm (p / 4294967296),Nat.mul_comm (1 - L / 4294967296)]
 have e6:bo * P=P * bo:=Nat.mul_comm _ _
 rw [e3,e5]
 generalize P * (4294967296 * (p / 4294967296))=x1 at *
 generalize P * (4294967296 * (1 - L / 4294967296))=x2 at *
 generalize P * (L % 4294967296)=x3 at *
 generalize P * (p % 4294967296)=x4 at *
 generalize P * (t * d)=x5 at *
 omega
def Taken (us us':List UInt32) (t D:Nat) (be:Bool):Prop:=val us'+t * D=val us+(if be then 4294967296 ^ us.length else 0)
def Added (us us':List UInt32) (D:Nat) (be:Bool):Prop:=val us'+(if be then 4294967296 ^ us.length else 0)=val us+D
theorem back_step (V V' P U D cc r d S:Nat) (hS:S=r+d+cc) (hd:d=D / P % 4294967296) (hV:V'+P * r=V+P * (S % 4294967296)) (h:V+cc * P=U+D % P) :
  V'+S / 4294967296 * (P * 4294967296)=U+D % (P * 4294967296):=by
 rw [Nat.mod_mul,← hd]
 have h1:P * S=P * (S % 4294967296)+S / 4294967296 * (P * 4294967296):=by
  have:=Nat.div_add_mod S 4294967296
  have h2:P * S=P * (4294967296 * (S / 4294967296)+S % 4294967296):=by rw [this]
  rw [h2,Nat.mul_add,Nat.add_comm,← Nat.mul_assoc,Nat.mul_comm (P * 4294967296)]
 have h3:P * S=P * r+P * d+P * cc:=by rw [hS,Nat.mul_add,Nat.mul_add]
 have h4:P * cc=cc * P:=Nat.mul_comm _ _
 omega
end Go.Proofs.YteclejplbphkpaaGreat
namespace Go.Proofs.YteclejplbphkpaaGreat
open Go.RowKit
theorem digit_guess (us ds:List UInt32) (m hi dt qh G:Nat) (hU:us.length=m+2) (hD:ds.length=m+1) (hhi:ent us m+ent us (m+1) * 4294967296=hi) (hdt:ent ds m=dt) (hdt0:0<dt) (hq:hi / dt=qh)
  (hlt:val us<4294967296 * val ds) (hG:qh≤G∨4294967295≤G):val us / val ds≤G:=by
 rcases hG with hG | hG
 ·have hP:0<4294967296 ^ m:=Nat.pow_pos (by decide)
  have h1:=val_lt us
  have h2:=val_lt ds
  rw [hU,show m+2=m+1+1 from rfl,Nat.pow_succ,Nat.pow_succ] at h1
  rw [hD,Nat.pow_succ] at h2
  have h3:val us / 4294967296 ^ m<4294967296 * 4294967296:=Nat.div_lt_of_lt_mul (by rw [← Nat.mul_assoc];exact h1)
  have h4:val ds / 4294967296 ^ m<4294967296:=Nat.div_lt_of_lt_mul h2
  have h5:val us / 4294967296 ^ m=hi:=by
   rw [← hhi,ent_val,ent_val,Nat.pow_succ,← Nat.div_div_eq_div_mul]
   generalize val us / 4294967296 ^ m=W at *
   omega
  have h6:val ds / 4294967296 ^ m=dt:=by
   rw [← hdt,ent_val,Nat.mod_eq_of_lt h4]
  refine Nat.le_trans ?_ hG
  rw [← hq,Nat.le_div_iff_mul_le hdt0,← h5,Nat.le_div_iff_mul_le hP,Nat.mul_assoc]
  refine Nat.le_trans (Nat.mul_le_mul_left _ ?_) (Nat.div_mul_le_self (val us) (val ds))
  rw [← h6];exact Nat.div_mul_le_self _ _
 ·have:val us / val ds<4294967296:=Nat.div_lt_of_lt_mul (by rw [Nat.mul_comm];exact hlt)
  omega
end Go.Proofs.YteclejplbphkpaaGreat
