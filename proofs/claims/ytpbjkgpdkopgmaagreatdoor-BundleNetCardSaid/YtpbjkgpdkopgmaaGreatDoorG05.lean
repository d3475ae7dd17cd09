/- The parts of a text, and the document's parse. Plain lemmas. Numbers without end as lists of 32 bits each: what they are worth, and the one list that has no noughts behind. Plain lemmas. Numbers as lists of words: plain lemmas that big and the document's answer share. A number that is read: the words in which contracts of big speak. The contracts of big: entries, how many bits a word has, lists without noughts behind, order, the low bits. -/
import Derived.Test.YtpbjkgpdkopgmaaGreatDoorG04
import Derived.Test.YtpbjkgpdkopgmaaGreatDoorG00
import Derived.Test.YtpbjkgpdkopgmaaGreatDoorProg
import Derived.WalkSpells
import Derived.Deep.DeepCutAuto
import Derived.Deep.QuietTactic
import Derived.BigQuiet
import Derived.RegionTactic
set_option linter.unusedVariables false
set_option linter.unusedSimpArgs false
set_option linter.unnecessarySimpa false
namespace Go.Proofs.YtpbjkgpdkopgmaaGreatDoor
open Go.RowKit
theorem scan_true (t:List UInt8):scanS true t=((spanD t).1,(spanD t).1.length,true,(spanD t).2):=by
 induction t with
 | nil=>rfl
 | cons c t ih =>
  unfold scanS spanD
  by_cases h:isDig c=true
  ·simp [h,ih]
  ·simp [h]
theorem scan_false (t:List UInt8):scanS false t =
  if (stopS (spanD t).2).1 then ((spanD t).1++(spanD (stopS (spanD t).2).2).1,(spanD (stopS (spanD t).2).2).1.length,true,(spanD (stopS (spanD t).2).2).2)
  else ((spanD t).1,0,false,(stopS (spanD t).2).2):=by
 induction t with
 | nil=>rfl
 | cons c t ih =>
  unfold scanS
  by_cases h:isDig c=true
  ·rw [if_pos h,ih]
   have hs:spanD (c :: t)=(c :: (spanD t).1,(spanD t).2):=by rw [spanD,if_pos h]
   rw [hs]
   dsimp only
   split <;> simp
  ·rw [if_neg h]
   have hs:spanD (c :: t)=([],c :: t):=by rw [spanD,if_neg h]
   rw [hs]
   dsimp only
   by_cases h46:c=46
   ·subst h46
    rw [if_pos ⟨rfl,rfl⟩,scan_true]
    simp [stopS]
   ·have h2:¬ (c.toNat=46∧false=false):=fun e=>h46 (UInt8.toNat_inj.1 (by rw [e.1];rfl))
    rw [if_neg h2]
    simp [stopS,h46]
def bigF:List UInt8→Nat→Nat
 | [],v=>v
 | c :: l,v=>bigF l (min (v * 10+digV c) 100000)
theorem expDigits_all (l:List UInt8) (h:digs l):∀ v,expDigits l v=some (bigF l v):=by
 induction l with
 | nil=>intro v;rfl
 | cons c l ih =>
  intro v
  rw [expDigits,if_pos (h c (List.mem_cons_self ..)),ih (fun d hd=>h d (List.mem_cons_of_mem _ hd))]
  rfl
theorem expDigits_some (l:List UInt8):(spanD l).2≠[]→∀ v,expDigits l v=none:=by
 induction l with
 | nil=>intro h;exact absurd rfl h
 | cons c l ih =>
  intro h v
  unfold expDigits
  by_cases hc:isDig c=true
  ·rw [if_pos hc]
   apply ih
   rw [spanD,if_pos hc] at h
   exact h
  ·rw [if_neg hc]
theorem cap_big (l:List UInt8):∀ v u,min v 401=min u 401→u≤401→min (bigF l v) 401=min (capF l u) 401:=by
 induction l with
 | nil=>intro v u h _;exact h
 | cons c l ih =>
  intro v u h hu
  unfold bigF capF
  refine ih _ _ ?_ (Nat.min_le_right _ _)
  omega
theorem expS_is (c:UInt8) (l:List UInt8):((expD (c :: l)).2=false∧expS (c :: l)=none) ∨
  ((expD (c :: l)).2=true∧∃ v:Nat,expS (c :: l)=some (if (signS l).1 then -(v:Int) else (v:Int),decide (400<v))∧(if 400<v then (400<(expD (c :: l)).1∨(expD (c :: l)).1 < -400) else (expD (c :: l)).1=if (signS l).1 then -(v:Int) else (v:Int))):=by
 by_cases he:c.toNat=101∨c.toNat=69
 ·have h1:expD (c :: l)=(if (signS l).1 then -((capF (spanD (signS l).2).1 0:Nat):Int) else ((capF (spanD (signS l).2).1 0:Nat):Int),!(spanD (signS l).2).1.isEmpty && (spanD (signS l).2).2.isEmpty):=by simp only [expD,if_pos he]
  rw [h1]
  simp only [expS,if_pos he]
  generalize (signS l).1=neg
  generalize (signS l).2=r
  by_cases hr:r=[]
  ·subst hr
   left;exact ⟨rfl,if_pos rfl⟩
  ·rw [if_neg hr]
   by_cases hrest:(spanD r).2=[]
   ·right
    have hall:(spanD r).1=r:=by have:=spanD_app r;rw [hrest,List.append_nil] at this;exact this.symm
    have hd:digs r:=by rw [← hall];exact spanD_digs r
    rw [hrest,hall,expDigits_all r hd]
    refine ⟨by cases r with
     | nil=>exact absurd rfl hr
     | cons=>rfl,bigF r 0,rfl,?_⟩
    have hcb:=cap_big r 0 0 rfl (by decide)
    have hc:=capF_le r 0 (by decide)
    try dsimp only
    split
    ·rename_i h
     have:capF r 0=401:=by omega
     rw [this]
     cases neg
     ·left;decide
     ·right;decide
    ·rename_i h
     have:capF r 0=bigF r 0:=by omega
     rw [this]
   ·left
    rw [expDigits_some r hrest]
    refine ⟨?_,rfl⟩
    cases hq:(spanD r).2 with
    | nil=>exact absurd hq hrest
    | cons=>simp
 ·left
  exact ⟨by simp only [expD,if_neg he],by simp only [expS,if_neg he]⟩
theorem parse_take (l:List UInt8) (sg:Int) (wv fv:ByteArray) (ev:Int) (ok:Bool) (h:TakeD l sg wv fv ev ok) :
  (ok=false→parseS l=(0,2))∧(ok=true→∃ W F,Tx wv W∧Tx fv F∧digs W∧digs F∧W.length+F.length≤l.length∧∃ S:Nat,sg=(S:Int)∧(S=0∨S=9223372036854775808) ∧
   parseS l=if 60<W.length+F.length then (0,4) else if 400<ev∨ev < -400 then (0,5) else if numS (valS (W++F)) (ev - F.length)<LIM then (S+numS (valS (W++F)) (ev - F.length),0) else (0,5)):=by
 unfold TakeD at h
 have hp:parseS l=(if (scanS false (signS l).2).1=[]∨(scanS false (signS l).2).2.2.1=true∧(scanS false (signS l).2).2.1=0 then (0,2)
  else match expS (scanS false (signS l).2).2.2.2 with
  | none=>(0,2)
  | some (v,big) =>
   if 60<(scanS false (signS l).2).1.length then (0,4)
   else if big then (0,5)
   else if numS (valS (scanS false (signS l).2).1) (v - (scanS false (signS l).2).2.1)<LIM then ((if (signS l).1 then 9223372036854775808 else 0)+numS (valS (scanS false (signS l).2).1) (v - (scanS false (signS l).2).2.1),0)
   else (0,5)):=rfl
 rw [scan_false] at hp
 have g1:=signS_len l
 have g2:=spanD_len (signS l).2
 have g3:=stopS_len (spanD (signS l).2).2
 have g4:=spanD_len (stopS (spanD (signS l).2).2).2
 generalize hneg:(signS l).1=neg at *
 generalize (signS l).2=r1 at *
 have hW:=spanD_digs r1
 generalize (spanD r1).1=W at *
 generalize (spanD r1).2=r2 at *
 generalize (stopS r2).1=stop at *
 generalize (stopS r2).2=r3 at *
 have hF:=spanD_digs r3
 generalize (spanD r3).1=F at *
 generalize (spanD r3).2=r4 at *
 have hS:∃ S:Nat,(if neg=true then (9223372036854775808:Int) else 0)=(S:Int)∧(S=0∨S=9223372036854775808)∧(if neg=true then 9223372036854775808 else 0)=S:=by
  cases neg
  ·exact ⟨0,rfl,.inl rfl,rfl⟩
  ·exact ⟨9223372036854775808,rfl,.inr rfl,rfl⟩
 obtain ⟨S,hS1,hS2,hS3⟩:=hS
 rw [hS3] at hp
 rw [hS1] at h
 obtain ⟨G,rest,hG,hrest,hgd,hgl⟩:∃ G rest,(if stop=true then F else [])=G∧(if stop=true then r4 else r3)=rest∧digs G∧W.length+G.length≤l.length:=by
  refine ⟨_,_,rfl,rfl,?_,?_⟩
  ·cases stop
   ·intro c hc;cases hc
   ·exact hF
  ·cases stop
   ·simp;omega
   ·simp;omega
 rw [hG,hrest] at h
 have hp2:parseS l=(if G=[]∧(stop=true∨W=[]) then (0,2)
  else match expS rest with
  | none=>(0,2)
  | some (v,big) =>
   if 60<(W++G).length then (0,4)
   else if big then (0,5)
   else if numS (valS (W++G)) (v - G.length)<LIM then (S+numS (valS (W++G)) (v - G.length),0)
   else (0,5)):=by
  rw [hp]
  cases stop
  ·simp at hG hrest
   subst hG hrest
   simp
  ·simp at hG hrest
   subst hG hrest
   have e:(W++F=[]∨True∧F.length=0)↔(F=[]∧(True∨W=[])):=by
    rw [List.append_eq_nil_iff,List.length_eq_zero_iff]
    constructor
    ·rintro (⟨_,h⟩ | ⟨_,h⟩) <;> exact ⟨h,.inl trivial⟩
    ·rintro ⟨h,_⟩;exact .inr ⟨trivial,h⟩
   simp only [if_true,e]
 by_cases hf:G=[]∧(stop=true∨W=[])
 ·rw [if_pos hf] at h hp2
  exact ⟨fun _=>hp2,fun h'=>(by rw [h] at h';cases h')⟩
 ·rw [if_neg hf] at h hp2
  obtain ⟨h1,h2,h3,h4⟩:=h
  cases rest with
  | nil =>
   rw [if_pos rfl] at h4
   obtain ⟨rfl,rfl⟩:=h4
   refine ⟨fun h=>(by cases h),fun _=>⟨W,G,h2,h3,hW,hgd,hgl,S,h1,hS2,?_⟩⟩
   rw [hp2,show expS []=some (0,false) from rfl]
   simp
  | cons c m =>
   rw [if_neg (by simp)] at h4
   obtain ⟨rfl,rfl⟩:=h4
   rcases expS_is c m with ⟨e1,e2⟩ | ⟨e1,v,e2,e3⟩
   ·rw [e2] at hp2
    exact ⟨fun _=>hp2,fun h'=>(by rw [e1] at h';cases h')⟩
   ·rw [e2] at hp2
    refine ⟨fun h'=>(by rw [e1] at h';cases h'),fun _=>⟨W,G,h2,h3,hW,hgd,hgl,S,h1,hS2,?_⟩⟩
    rw [hp2,List.length_append]
    dsimp only
    by_cases hb:400<v
    ·rw [if_pos hb] at e3
     rw [if_pos e3]
     simp [hb]
    ·rw [if_neg hb] at e3
     have hv:¬ (400<(expD (c :: m)).1∨(expD (c :: m)).1 < -400):=by
      rw [e3];split <;> omega
     rw [if_neg hv,e3]
     simp [hb]
end Go.Proofs.YtpbjkgpdkopgmaaGreatDoor
namespace Go.Proofs.YtpbjkgpdkopgmaaGreatDoor
open Go.RowKit
def uv (x:UInt32):Value:=.int .u32 (x.toNat:Int)
theorem uv_ofNat (n:Nat) (k:Int) (h:k=((n % 4294967296:Nat):Int)):Value.int .u32 k=uv (UInt32.ofNat n):=by
 subst h;simp [uv,UInt32.toNat_ofNat]
def val:List UInt32→Nat
 | []=>0
 | x :: l=>x.toNat+4294967296 * val l
theorem val_cons (x:UInt32) (l:List UInt32):val (x :: l)=x.toNat+4294967296 * val l:=rfl
theorem val_append (l m:List UInt32):val (l++m)=val l+4294967296 ^ l.length * val m:=by
 induction l with
 | nil=>simp [val]
 | cons x l ih =>
  rw [List.cons_append,val_cons,ih,val_cons,List.length_cons,Nat.pow_succ,Nat.mul_add,Nat.mul_comm (4294967296 ^ l.length) 4294967296,Nat.mul_assoc]
  omega
theorem val_lt (l:List UInt32):val l<4294967296 ^ l.length:=by
 induction l with
 | nil=>simp [val]
 | cons x l ih =>
  have hx:x.toNat<4294967296:=x.toNat_lt
  rw [val_cons,List.length_cons,Nat.pow_succ]
  generalize 4294967296 ^ l.length=P at *
  omega
theorem val_zeros (n:Nat):val (List.replicate n 0)=0:=by
 induction n with
 | zero=>rfl
 | succ n ih=>rw [List.replicate_succ,val_cons,ih];rfl
theorem val_entry (l:List UInt32) (i:Nat):(l.getD i 0).toNat=val l / 4294967296 ^ i % 4294967296:=by
 induction l generalizing i with
 | nil=>simp [val]
 | cons x l ih =>
  have hx:x.toNat<4294967296:=x.toNat_lt
  cases i with
  | zero=>rw [val_cons];simp
  | succ i =>
   rw [val_cons,Nat.pow_succ,Nat.mul_comm (4294967296 ^ i),← Nat.div_div_eq_div_mul]
   have:(x.toNat+4294967296 * val l) / 4294967296=val l:=by omega
   rw [this,← ih];rfl
def Canon (l:List UInt32):Prop:=∀ h:l≠[],l.getLast h≠0
theorem canon_nil:Canon []:=fun h=>absurd rfl h
theorem canon_tail {x:UInt32} {l:List UInt32} (h:Canon (x :: l)):Canon l:=fun hl=>by
 have:=h (by simp)
 rwa [List.getLast_cons hl] at this
theorem canon_zero {l:List UInt32} (h:Canon l) (h0:val l=0):l=[]:=by
 induction l with
 | nil=>rfl
 | cons x l ih =>
  rw [val_cons] at h0
  have h1:=ih (canon_tail h) (by omega)
  subst h1
  exfalso
  apply h (by simp)
  have hx:x.toNat=0:=by omega
  exact UInt32.toNat_inj.1 hx
theorem canon_one:∀ (l m:List UInt32),Canon l→Canon m→val l=val m→l=m
 | [],m,_,hm,h=>(canon_zero hm h.symm).symm
 | l,[],hl,_,h=>canon_zero hl h
 | x :: l,y :: m,hl,hm,h=>by
  have hx:x.toNat<4294967296:=x.toNat_lt
  have hy:y.toNat<4294967296:=y.toNat_lt
  rw [val_cons,val_cons] at h
  have h1:x.toNat=y.toNat:=by omega
  rw [UInt32.toNat_inj.1 h1,canon_one l m (canon_tail hl) (canon_tail hm) (by omega)]
def limbsF:Nat→Nat→List UInt32
 | 0,_=>[]
 | f+1,n=>if n=0 then [] else UInt32.ofNat n :: limbsF f (n / 4294967296)
def limbs (n:Nat):List UInt32:=limbsF n n
theorem limbsF_spec (f n:Nat) (h:n≤f):val (limbsF f n)=n∧Canon (limbsF f n):=by
 induction f generalizing n with
 | zero =>
   obtain rfl:n=0:=by omega
   exact ⟨rfl,canon_nil⟩
 | succ f ih =>
  unfold limbsF
  by_cases h0:n=0
  ·rw [if_pos h0];exact ⟨h0.symm,canon_nil⟩
  ·rw [if_neg h0]
   obtain ⟨h1,h2⟩:=ih (n / 4294967296) (by omega)
   have hn:(UInt32.ofNat n).toNat=n % 4294967296:=UInt32.toNat_ofNat'
   refine ⟨by rw [val_cons,h1,hn];omega,fun hne=>?_⟩
   by_cases hl:limbsF f (n / 4294967296)=[]
   ·simp only [hl,List.getLast_singleton]
    rw [hl] at h1
    have h1':n / 4294967296=0:=h1.symm
    intro e
    have:=congrArg UInt32.toNat e
    rw [hn] at this
    have:n % 4294967296=0:=this
    omega
   ·rw [List.getLast_cons hl];exact h2 hl
theorem val_limbs (n:Nat):val (limbs n)=n:=(limbsF_spec n n (Nat.le_refl _)).1
theorem canon_limbs (n:Nat):Canon (limbs n):=(limbsF_spec n n (Nat.le_refl _)).2
theorem limbs_val {l:List UInt32} (h:Canon l):l=limbs (val l):=canon_one _ _ h (canon_limbs _) (val_limbs _).symm
theorem limbs_zero:limbs 0=[]:=rfl
theorem take_limbs (l:List UInt32) (n:Nat) (hn:n≤l.length) (hz:∀ j,n≤j→l.getD j 0=0) (hl:n=0∨l.getD (n - 1) 0≠0):l.take n=limbs (val l):=by
 have hv:val (l.take n)=val l:=by
  have h1:l=l.take n++l.drop n:=(List.take_append_drop n l).symm
  have h2:l.drop n=List.replicate (l.length - n) 0:=by
   apply List.ext_getElem
   ·simp
   ·intro i h3 h4
    rw [List.getElem_drop,List.getElem_replicate]
    have:=hz (n+i) (by omega)
    rw [List.length_drop] at h3
    rw [List.getD,List.getElem?_eq_getElem (by omega)] at this
    exact this
  rw [h2] at h1
  have h3:=congrArg val h1
  rw [val_append,val_zeros] at h3
  omega
 rw [← hv]
 refine limbs_val fun hne=>?_
 rcases hl with rfl | hl
 ·simp at hne
 ·have h0:0<n:=by
   rcases Nat.eq_zero_or_pos n with h | h
   ·subst h;simp at hne
   ·exact h
  rw [List.getLast_eq_getElem,List.getElem_take]
  rw [List.getD,List.getElem?_eq_getElem (by omega)] at hl
  simpa [List.length_take,Nat.min_eq_left hn] using hl
theorem limbs_len (n k:Nat) (h:n<4294967296 ^ k):(limbs n).length≤k:=by
 rcases Nat.lt_or_ge k (limbs n).length with hlt | hge
 ·exfalso
  have hne:limbs n≠[]:=by intro e;rw [e] at hlt;simp at hlt
  have hc:=canon_limbs n hne
  have he:=val_entry (limbs n) ((limbs n).length - 1)
  rw [val_limbs,List.getD,List.getElem?_eq_getElem (by omega)] at he
  have hp:n / 4294967296 ^ ((limbs n).length - 1)=0:=Nat.div_eq_of_lt (Nat.lt_of_lt_of_le h (Nat.pow_le_pow_right (by decide) (by omega)))
  rw [hp] at he
  apply hc
  rw [List.getLast_eq_getElem]
  have he':((limbs n)[(limbs n).length - 1]'(by omega)).toNat=0:=he
  exact UInt32.toNat_inj.1 he'
 ·exact hge
end Go.Proofs.YtpbjkgpdkopgmaaGreatDoor
namespace Go.Proofs.YtpbjkgpdkopgmaaGreatDoor
open Go.RowKit
theorem info_u32:(Tryz.prog.info? 200).map (fun i=>(i.zero,i.size,i.bytes))=some (some (.int .u32 0),1,4):=by kernel_rfl
theorem uT:ElT Tryz.prog 198 200 4:=by
 obtain ⟨i,h1,h2,h3,h4⟩:=info_parts info_u32
 exact ⟨Tryz.underlying198,i,_,h1,h2,h3,h4,rfl⟩
def ent (l:List UInt32) (i:Nat):Nat:=(l.getD i 0).toNat
theorem ent_le (l:List UInt32) (i:Nat):(ent l i:Int)≤4294967295:=by
 have:=(l.getD i 0).toNat_lt;unfold ent;omega
theorem ent_val (l:List UInt32) (i:Nat):ent l i=val l / 4294967296 ^ i % 4294967296:=val_entry l i
theorem Rd.litsU {w:World} {e:TypeId} {g:Nat} (xs:List UInt32) (hg:g=w.heap.size):Rd uv (w.alloc (.cells (xs.map uv).toArray e)) (some ⟨g,0,none⟩) xs:=by
 subst hg
 intro _
 refine ⟨_,_,rfl,by simp,fun j hj=>?_⟩
 rw [World.cell?_alloc_at _ _ _ _ rfl]
 simp [hj]
theorem digits_ext:∀ (k a b:Nat),a<4294967296 ^ k→b<4294967296 ^ k→(∀ j,a / 4294967296 ^ j % 4294967296=b / 4294967296 ^ j % 4294967296)→a=b
 | 0,a,b,ha,hb,_=>by simp at ha hb;omega
 | k+1,a,b,ha,hb,h=>by
  have h0:=h 0
  rw [Nat.pow_zero,Nat.div_one,Nat.div_one] at h0
  have h1:a / 4294967296=b / 4294967296:=by
   rw [Nat.pow_succ] at ha hb
   refine digits_ext k _ _ (Nat.div_lt_of_lt_mul (by omega)) (Nat.div_lt_of_lt_mul (by omega)) fun j=>?_
   have:=h (j+1)
   rw [Nat.pow_succ,Nat.mul_comm (4294967296 ^ j),← Nat.div_div_eq_div_mul,← Nat.div_div_eq_div_mul] at this
   exact this
  omega
theorem high_ext (xs ys:List UInt32) (m:Nat) (h:∀ j,m≤j→ent xs j=ent ys j):val xs / 4294967296 ^ m=val ys / 4294967296 ^ m:=by
 have hx:=val_lt xs
 have hy:=val_lt ys
 refine digits_ext (xs.length+ys.length) _ _ ?_ ?_ fun j=>?_
 ·exact Nat.lt_of_le_of_lt (Nat.div_le_self _ _) (Nat.lt_of_lt_of_le hx (Nat.pow_le_pow_right (by decide) (by omega)))
 ·exact Nat.lt_of_le_of_lt (Nat.div_le_self _ _) (Nat.lt_of_lt_of_le hy (Nat.pow_le_pow_right (by decide) (by omega)))
 ·have:=h (m+j) (by omega)
  rw [ent_val,ent_val,Nat.pow_add,← Nat.div_div_eq_div_mul,← Nat.div_div_eq_div_mul] at this
  exact this
theorem val_ext (xs ys:List UInt32) (h:∀ j,ent xs j=ent ys j):val xs=val ys:=by
 simpa using high_ext xs ys 0 fun j _=>h j
theorem val_less (xs ys:List UInt32) (m:Nat) (h:∀ j,m+1≤j→ent xs j=ent ys j) (hlt:ent xs m<ent ys m):val xs<val ys:=by
 have h1:=high_ext xs ys (m+1) h
 rw [ent_val,ent_val] at hlt
 rw [Nat.pow_succ,← Nat.div_div_eq_div_mul,← Nat.div_div_eq_div_mul] at h1
 have h2:val xs / 4294967296 ^ m<val ys / 4294967296 ^ m:=by
  generalize val xs / 4294967296 ^ m=a at *
  generalize val ys / 4294967296 ^ m=b at *
  omega
 rcases Nat.lt_or_ge (val xs) (val ys) with h | h
 ·exact h
 ·have:=Nat.div_le_div_right (c:=4294967296 ^ m) h
  omega
def cmpI (a b:Nat):Int:=if a<b then -1 else if b<a then 1 else 0
theorem add_step (V cc P X Y S:Nat) (hS:S=cc+X / P % 4294967296+Y / P % 4294967296) (h:V+cc * P=X % P+Y % P) :
  V+P * (S % 4294967296)+S / 4294967296 * (P * 4294967296)=X % (P * 4294967296)+Y % (P * 4294967296):=by
 rw [Nat.mod_mul,Nat.mod_mul]
 have h1:P * S=P * (S % 4294967296)+S / 4294967296 * (P * 4294967296):=by
  have:=Nat.div_add_mod S 4294967296
  have h2:P * S=P * (4294967296 * (S / 4294967296)+S % 4294967296):=by rw [this]
  rw [h2,Nat.mul_add,Nat.add_comm,← Nat.mul_assoc,Nat.mul_comm (P * 4294967296)]
 have h3:P * S=P * cc+P * (X / P % 4294967296)+P * (Y / P % 4294967296):=by rw [hS,Nat.mul_add,Nat.mul_add]
 have h4:P * cc=cc * P:=Nat.mul_comm _ _
 omega
theorem val_snoc (l:List UInt32) (x:UInt32):val (l++[x])=val l+4294967296 ^ l.length * x.toNat:=by
 rw [val_append,val_cons];simp [val]
theorem uZ:∀ i,Tryz.prog.info? 200 = some i→i.zero=some (uv 0):=by
 obtain ⟨i,h1,h2,h3,h4⟩:=info_parts info_u32
 intro j hj
 rw [h1] at hj;cases hj;exact h2
theorem val_set (l:List UInt32) (i:Nat) (hi:i<l.length) (y:UInt32):val (l.set i y)+4294967296 ^ i * (l.getD i 0).toNat=val l+4294967296 ^ i * y.toNat:=by
 induction l generalizing i with
 | nil=>simp at hi
 | cons x l ih =>
  cases i with
  | zero=>simp [val];omega
  | succ i =>
   have:=ih i (by simpa using hi)
   simp only [List.set_cons_succ,val_cons,List.getD_cons_succ,Nat.pow_succ,Nat.mul_comm (4294967296 ^ i) 4294967296,Nat.mul_assoc]
   generalize 4294967296 ^ i * (l.getD i 0).toNat=p at *
   generalize 4294967296 ^ i * y.toNat=q at *
   omega
theorem mul_step (V V' cc P Pi T a b o S:Nat) (Y Pk:Nat) (hP:P=Pi * Pk) (hS:S=cc+o+a * b) (hb:b=Y / Pk % 4294967296) (hV:V'+P * o=V+P * (S % 4294967296)) (h:V+cc * P=T+a * (Y % Pk) * Pi) :
  V'+S / 4294967296 * (P * 4294967296)=T+a * (Y % (Pk * 4294967296)) * Pi:=by
 rw [Nat.mod_mul,← hb]
 have h1:P * S=P * (S % 4294967296)+S / 4294967296 * (P * 4294967296):=by
  have:=Nat.div_add_mod S 4294967296
  have h2:P * S=P * (4294967296 * (S / 4294967296)+S % 4294967296):=by rw [this]
  rw [h2,Nat.mul_add,Nat.add_comm,← Nat.mul_assoc,Nat.mul_comm (P * 4294967296)]
 have h3:P * S=cc * P+P * o+a * b * P:=by rw [hS,Nat.mul_add,Nat.mul_add,Nat.mul_comm P cc,Nat.mul_comm P (a * b)]
 have h4:a * (Y % Pk+Pk * b) * Pi=a * (Y % Pk) * Pi+a * b * P:=by
  rw [hP,Nat.mul_add,Nat.add_mul]
  congr 1
  rw [Nat.mul_comm Pk b,← Nat.mul_assoc,Nat.mul_assoc (a * b),Nat.mul_comm Pk Pi]
 omega
theorem bits_unique (n k:Nat) (h1:n<2 ^ k) (h2:k=0∨2 ^ (k - 1)≤n):k=if n=0 then 0 else Nat.log2 n+1:=by
 by_cases hn:n=0
 ·subst hn
  rw [if_pos rfl]
  rcases h2 with h | h
  ·exact h
  ·have:=Nat.pow_pos (n:=k - 1) (show 0<2 by decide);omega
 ·rw [if_neg hn]
  rcases h2 with h | h
  ·subst h;simp at h1;omega
  ·have a1:k≠0:=by rintro rfl;simp at h1;omega
   have a2:Nat.log2 n<k:=(Nat.log2_lt hn).2 h1
   have a3:k - 1≤Nat.log2 n:=(Nat.le_log2 hn).2 h
   omega
def blen (n:Nat):Nat:=if n=0 then 0 else Nat.log2 n+1
theorem pow_split (p:Nat):4294967296 ^ (p / 32) * 2 ^ (p % 32)=2 ^ p:=by
 rw [show (4294967296:Nat)=2 ^ 32 from rfl,← Nat.pow_mul,← Nat.pow_add];congr 1;omega
end Go.Proofs.YtpbjkgpdkopgmaaGreatDoor
namespace Go.Proofs.YtpbjkgpdkopgmaaGreatDoor
open Go.RowKit
def IsNum (w:World) (v:Value) (n:Nat):Prop:=∃ A c ys,v = .slice A ys.length c∧Rd uv w A ys∧ys.length≤c∧c≤maxLen∧Hid (ys=limbs n)
theorem IsNum.below {w w':World} {v:Value} {n:Nat} (h:IsNum w v n) (hb:Below w.heap.size w w'):IsNum w' v n:=by
 obtain ⟨A,c,ys,h1,h2,h3⟩:=h
 exact ⟨A,c,ys,h1,h2.below hb,h3⟩
theorem IsNum.cast {w:World} {v:Value} {n m:Nat} (h:IsNum w v n) (e:n=m):IsNum w v m:=e ▸ h
theorem IsNum.zero (w:World):IsNum w (.slice none 0 0) 0:=⟨none,0,[],rfl,Rd.nil,Nat.le_refl _,Nat.zero_le _,rfl⟩
theorem IsNum.open_ {w:World} {v:Value} {n:Nat} (h:IsNum w v n) (k:Nat) (hk:n<4294967296 ^ k):∃ A c ys,v = .slice A ys.length c∧Rd uv w A ys∧ys.length≤c∧c≤maxLen∧ys.length≤k∧Hid (ys=limbs n)∧Hid (val ys=n):=by
 obtain ⟨A,c,ys,h1,h2,h3,h4,h5⟩:=h
 refine ⟨A,c,ys,h1,h2,h3,h4,?_,h5,?_⟩
 ·rw [h5.out];exact limbs_len _ _ hk
 ·unfold Hid;rw [h5.out,val_limbs]
def Num (w:World) (v:Value) (n K:Nat):Prop:=∃ A c ys,v = .slice A ys.length c∧Rd uv w A ys∧ys.length≤c∧c≤maxLen∧ys.length≤K∧val ys=n
theorem Num.below {w w':World} {v:Value} {n K:Nat} (h:Num w v n K) (hb:Below w.heap.size w w'):Num w' v n K:=by
 obtain ⟨A,c,ys,h1,h2,h3⟩:=h
 exact ⟨A,c,ys,h1,h2.below hb,h3⟩
theorem IsNum.num {w:World} {v:Value} {n K:Nat} (h:IsNum w v n) (hk:n<4294967296 ^ K):Num w v n K:=by
 obtain ⟨A,c,ys,h1,h2,h3,h4,h5,h6,h7⟩:=h.open_ K hk
 exact ⟨A,c,ys,h1,h2,h3,h4,h5,h7⟩
theorem Num.of {w:World} {A:Option Addr} {xs:List UInt32} {c K:Nat} (hr:Rd uv w A xs) (hc:xs.length≤c) (hm:c≤maxLen) (hl:xs.length≤K):Num w (.slice A xs.length c) (val xs) K:=⟨A,c,xs,rfl,hr,hc,hm,hl,rfl⟩
theorem Num.lt {w:World} {v:Value} {n K:Nat} (h:Num w v n K):n<4294967296 ^ K:=by
 obtain ⟨A,c,ys,h1,h2,h3,h4,h5,rfl⟩:=h
 exact Nat.lt_of_lt_of_le (val_lt ys) (Nat.pow_le_pow_right (by decide) h5)
def shV (V:Nat) (n:Int):Nat:=if 0≤n then V * 2 ^ n.toNat else V / 2 ^ (-n).toNat
def DivN (w':World) (x y:Nat) (q r:Value) (ok:Bool):Prop :=
 if y=0 then q = .slice none 0 0∧r = .slice none 0 0∧ok=false
 else IsNum w' q (x / y)∧IsNum w' r (x % y)∧ok=true
end Go.Proofs.YtpbjkgpdkopgmaaGreatDoor
namespace Go.Proofs.YtpbjkgpdkopgmaaGreatDoor
open Go.RowKit
set_option maxHeartbeats 400000 in
theorem elem_any (A:Option Addr) (xs:List UInt32) (c:Nat) (i:Nat) (w:World) (hr:Rd uv w A xs) (hc:xs.length≤c) (hl:(xs.length:Int)≤1000000) (hi:(i:Int)≤1000000000) :
  Calls Tryz.prog 262 #[.slice A xs.length c,.int .i64 i] w fun e w'=>e = .returned (.int .u64 (ent xs i:Nat))∧w=w':=by
 by_cases hlt:i<xs.length
 ·obtain ⟨b,off,rfl,hb,hcell⟩:=hr.at_ (k:=i) hlt
  unfold uv at hcell
  have he:Hid (ent xs i=xs[i].toNat):=by unfold Hid ent;rw [List.getD,List.getElem?_eq_getElem hlt];rfl
  have hx:(xs[i].toNat:Int)≤4294967295:=by have:=xs[i].toNat_lt;omega
  have hd:decide (xs.length≤i)=false:=decide_eq_false (by omega)
  go_enter Tryz.func262,Tryz.ntmps262
  go_wp2
  go_ret
  refine ⟨?_,rfl⟩
  rw [he.out]
  rfl
 ·have he:Hid (ent xs i=0):=by unfold Hid ent;rw [List.getD,List.getElem?_eq_none (by omega)];rfl
  have hd:decide (xs.length≤i)=true:=decide_eq_true (by omega)
  go_enter Tryz.func262,Tryz.ntmps262
  go_wp2
  go_ret
  refine ⟨?_,rfl⟩
  rw [he.out]
  rfl
set_option maxHeartbeats 800000 in
theorem length_any (v:Nat) (w:World) (hv:(v:Int)≤4294967295) :
  Calls Tryz.prog 263 #[.int .u32 v] w fun e w'=>e = .returned (.int .i64 (blen v:Nat))∧w=w':=by
 go_enter Tryz.func263,Tryz.ntmps263
 go_wp2_with fail
 go_loop [0,3] (fun x k=>∃ n u:Nat,k = .int .i64 n∧n≤32∧x = .int .u32 u∧(u:Int)≤4294967295∧Hid (v / 2 ^ n=u)∧Hid (n=0∨2 ^ (n - 1)≤v)) (fun x _=>(intOf x).toNat)
 case atStart=>exact ⟨0,v,rfl,by omega,rfl,hv,by unfold Hid;simp,.inl rfl⟩
 case round =>
  obtain ⟨n,u,rfl,hn,rfl,hu,HU,HN⟩:=hrel
  by_cases h0:0<u
  ·have hd:decide (0<u)=true:=decide_eq_true h0
   have hp:2 ^ n≤v:=by
    rcases Nat.lt_or_ge v (2 ^ n) with h | h
    ·have:=HU.out;rw [Nat.div_eq_of_lt h] at this;omega
    ·exact h
   have hn31:n≤31:=by
    rcases Nat.lt_or_ge 31 n with h | h
    ·have:2 ^ 32≤2 ^ n:=Nat.pow_le_pow_right (by decide) h
     omega
    ·exact h
   have HP:=Lib.hid hp
   clear hp
   go_wp2_with fail
   go_round
   case rel =>
    refine ⟨n+1,u / 2,by go_num,by omega,by go_num,by omega,?_,.inr HP.out⟩
    unfold Hid
    rw [Nat.pow_succ,← Nat.div_div_eq_div_mul,HU.out]
   case measure=>simp [intOf];omega
  ·obtain rfl:u=0:=by omega
   have hfin:Hid (blen v=n):=by
    have h:=HU.out
    have hlt:v<2 ^ n:=(Nat.div_eq_zero_iff_lt (Nat.pow_pos (by decide))).1 h
    exact (bits_unique _ _ hlt HN.out).symm
   go_wp2_with fail
   go_ret
   refine ⟨?_,rfl⟩
   rw [hfin.out]
   rfl
def lenV:Value→Nat | .slice _ n _=>n | _=>0
set_option maxHeartbeats 1600000 in
theorem trim_any (A:Option Addr) (xs:List UInt32) (c:Nat) (w:World) (hr:Rd uv w A xs) (hc:xs.length≤c) (hm:c≤maxLen) (hl:(xs.length:Int)≤1000000) :
  Calls Tryz.prog 251 #[.slice A xs.length c] w fun e w'=>∃ v',e = .returned v'∧IsNum w v' (val xs)∧w=w':=by
 unfold maxLen at hm
 go_enter Tryz.func251,Tryz.ntmps251
 go_wp2_with fail
 go_loop [0] (fun v=>∃ A' c' n,v = .slice A' n c'∧n≤xs.length∧n≤c'∧c'≤c∧Rd uv w A' (xs.take n)∧Hid (∀ j,n≤j→xs.getD j 0=0)) (fun v=>lenV v)
 case atStart =>
  refine ⟨A,c,xs.length,rfl,Nat.le_refl _,hc,Nat.le_refl _,?_,fun j hj=>by rw [List.getD,List.getElem?_eq_none hj];rfl⟩
  rw [List.take_length];exact hr
 case round =>
  obtain ⟨A1,c1,n,rfl,hn,hnc,hcc,hr1,HZ⟩:=hrel
  have fin:(n=0∨xs.getD (n - 1) 0≠0)→IsNum w (.slice A1 n c1) (val xs):=fun h=>by
   have e:(xs.take n).length=n:=by rw [List.length_take];omega
   refine ⟨A1,c1,xs.take n,by rw [e],hr1,by omega,by unfold maxLen;omega,take_limbs xs n hn HZ.out h⟩
  rcases n with _ | m
  ·have hz:=Lib.hid (fin (.inl rfl))
   clear fin
   go_wp2_with fail
   go_ret
   exact ⟨_,rfl,hz.out,rfl⟩
  ·have hml:m<xs.length:=by omega
   obtain ⟨b,off,rfl,hb,hcell⟩:∃ b off,A1=some ⟨b,off,none⟩∧b<w.heap.size∧w.cell? ⟨b,off+m,none⟩=some (.int .u32 (xs[m].toNat:Int)):=by
    obtain ⟨b,off,h1,h2,h3⟩:=hr1.at_ (k:=m) (by rw [List.length_take];omega)
    rw [List.getElem_take] at h3
    exact ⟨b,off,h1,h2,h3⟩
   have HG:Hid (xs.getD m 0=xs[m]):=by unfold Hid;rw [List.getD,List.getElem?_eq_getElem (by omega)];rfl
   have HL:Hid ((xs.take (m+1)).length=m+1):=by unfold Hid;rw [List.length_take];omega
   by_cases hx:xs[m]=0
   ·have hb0:((xs[m].toNat:Int) == 0)=true:=by rw [hx];rfl
    have HX:=Lib.hid hx
    clear hx fin
    go_wp2_with (refine wpList_sl (f:=uv) _ uT rfl _ _ _ rfl _ (xs.take (m+1)) c1 (by rw [HL.out];rfl) hr1 (by rw [HL.out];omega) 0 (m:Int) (.inl ⟨rfl,rfl⟩) (.inr ⟨_,_,rfl,rfl⟩) (by omega) (by omega) (by rw [HL.out];omega) ?_;intro A2 ys c2 hcut hc1 hc2;obtain ⟨hr2,HY,hlo,hhi⟩:=hcut)
    go_round
    case rel =>
     have e:ys.length=m:=by omega
     refine ⟨A2,c2,ys.length,rfl,by omega,hc1,by omega,hr2.cast ?_,fun j hj=>?_⟩
     ·rw [e,HY.out];simp [List.take_take]
     ·by_cases hjm:j=m
      ·subst hjm;rw [HG.out,HX.out]
      ·exact HZ.out j (by omega)
    case measure=>simp [lenV];omega
   ·have hb0:((xs[m].toNat:Int) == 0)=false:=by
     rw [beq_eq_false_iff_ne]
     intro h
     exact hx (UInt32.toNat_inj.1 (by simpa using h))
    have hz:=Lib.hid (fin (.inr (by rw [Nat.add_sub_cancel,HG.out];exact hx)))
    clear hx fin
    go_wp2_with fail
    go_ret
    exact ⟨_,rfl,hz.out,rfl⟩
def cmpZ (a b:Int):Int:=if a<b then -1 else if b<a then 1 else 0
set_option maxHeartbeats 400000 in
theorem nanInt_any (a:Int) (w:World):Calls Tryz.prog 281 #[.int .i64 a] w fun e w'=>e = .returned (.bool false)∧w=w':=by
 have g0:(a != a)=false:=by simp
 go_enter Tryz.func281,Tryz.ntmps281
 go_wp2_with fail
 go_ret
 exact ⟨rfl,rfl⟩
set_option maxHeartbeats 400000 in
theorem nanU32_any (a:Int) (w:World):Calls Tryz.prog 282 #[.int .u32 a] w fun e w'=>e = .returned (.bool false)∧w=w':=by
 have g0:(a != a)=false:=by simp
 go_enter Tryz.func282,Tryz.ntmps282
 go_wp2_with fail
 go_ret
 exact ⟨rfl,rfl⟩
set_option maxHeartbeats 800000 in
theorem cmpInt_any (a b:Int) (w:World):Calls Tryz.prog 276 #[.int .i64 a,.int .i64 b] w fun e w'=>e = .returned (.int .i64 (cmpZ a b))∧w=w':=by
 rcases (by omega:a<b∨(¬ a<b∧b<a)∨(¬ a<b∧¬ b<a)) with h | ⟨h1,h2⟩ | ⟨h1,h2⟩
 ·have hz:Hid (cmpZ a b = -1):=by unfold Hid cmpZ;rw [if_pos h]
  go_enter Tryz.func276,Tryz.ntmps276
  go_wp2_with fail
  refine (nanInt_any a _).mono ?_;rintro e w' ⟨rfl,rfl⟩
  go_wp2_with fail
  refine (nanInt_any b _).mono ?_;rintro e w' ⟨rfl,rfl⟩
  go_wp2_with fail
  go_ret
  exact ⟨by rw [hz.out];rfl,rfl⟩
 ·have hz:Hid (cmpZ a b=1):=by unfold Hid cmpZ;rw [if_neg h1,if_pos h2]
  go_enter Tryz.func276,Tryz.ntmps276
  go_wp2_with fail
  refine (nanInt_any a _).mono ?_;rintro e w' ⟨rfl,rfl⟩
  go_wp2_with fail
  refine (nanInt_any b _).mono ?_;rintro e w' ⟨rfl,rfl⟩
  go_wp2_with fail
  go_ret
  exact ⟨by rw [hz.out];rfl,rfl⟩
 ·have hz:Hid (cmpZ a b=0):=by unfold Hid cmpZ;rw [if_neg h1,if_neg h2]
  go_enter Tryz.func276,Tryz.ntmps276
  go_wp2_with fail
  refine (nanInt_any a _).mono ?_;rintro e w' ⟨rfl,rfl⟩
  go_wp2_with fail
  refine (nanInt_any b _).mono ?_;rintro e w' ⟨rfl,rfl⟩
  go_wp2_with fail
  go_ret
  exact ⟨by rw [hz.out];rfl,rfl⟩
set_option maxHeartbeats 800000 in
theorem cmpU32_any (a b:Int) (w:World):Calls Tryz.prog 277 #[.int .u32 a,.int .u32 b] w fun e w'=>e = .returned (.int .i64 (cmpZ a b))∧w=w':=by
 rcases (by omega:a<b∨(¬ a<b∧b<a)∨(¬ a<b∧¬ b<a)) with h | ⟨h1,h2⟩ | ⟨h1,h2⟩
 ·have hz:Hid (cmpZ a b = -1):=by unfold Hid cmpZ;rw [if_pos h]
  go_enter Tryz.func277,Tryz.ntmps277
  go_wp2_with fail
  refine (nanU32_any a _).mono ?_;rintro e w' ⟨rfl,rfl⟩
  go_wp2_with fail
  refine (nanU32_any b _).mono ?_;rintro e w' ⟨rfl,rfl⟩
  go_wp2_with fail
  go_ret
  exact ⟨by rw [hz.out];rfl,rfl⟩
 ·have hz:Hid (cmpZ a b=1):=by unfold Hid cmpZ;rw [if_neg h1,if_pos h2]
  go_enter Tryz.func277,Tryz.ntmps277
  go_wp2_with fail
  refine (nanU32_any a _).mono ?_;rintro e w' ⟨rfl,rfl⟩
  go_wp2_with fail
  refine (nanU32_any b _).mono ?_;rintro e w' ⟨rfl,rfl⟩
  go_wp2_with fail
  go_ret
  exact ⟨by rw [hz.out];rfl,rfl⟩
 ·have hz:Hid (cmpZ a b=0):=by unfold Hid cmpZ;rw [if_neg h1,if_neg h2]
  go_enter Tryz.func277,Tryz.ntmps277
  go_wp2_with fail
  refine (nanU32_any a _).mono ?_;rintro e w' ⟨rfl,rfl⟩
  go_wp2_with fail
  refine (nanU32_any b _).mono ?_;rintro e w' ⟨rfl,rfl⟩
  go_wp2_with fail
  go_ret
  exact ⟨by rw [hz.out];rfl,rfl⟩
theorem or_lo (a b:Nat) (ha:(a:Int)≤4294967295) (hb:(b:Int)≤4294967295):bits .or .u64 ((b:Int) * 4294967296) (a:Int)=((a+b * 4294967296:Nat):Int):=by
 have h0:((b:Int) * 4294967296)=((b * 4294967296:Nat):Int):=by omega
 have hl:b * 4294967296<18446744073709551616:=by omega
 have hl2:a<18446744073709551616:=by omega
 have ha':a<2 ^ 32:=by omega
 rw [h0,bits_or_u64_nat _ a hl hl2]
 have:=Nat.two_pow_add_eq_or_of_lt (i:=32) (b:=a) ha' b
 rw [Nat.mul_comm b,show (4294967296:Nat)=2 ^ 32 from rfl,← this,Nat.add_comm]
set_option maxHeartbeats 400000 in
theorem low_any (A:Option Addr) (xs:List UInt32) (c:Nat) (w:World) (hr:Rd uv w A xs) (hc:xs.length≤c) (hl:(xs.length:Int)≤1000000) :
  Calls Tryz.prog 267 #[.slice A xs.length c] w fun e w'=>e = .returned (.int .u64 (val xs % 18446744073709551616:Nat))∧w=w':=by
 go_enter Tryz.func267,Tryz.ntmps267
 go_wp2_with fail
 refine (elem_any A xs c 1 _ hr hc hl (by omega)).mono ?_;rintro e w' ⟨rfl,rfl⟩
 have l1:=ent_le xs 1
 go_wp2_with fail
 refine (elem_any A xs c 0 _ hr hc hl (by omega)).mono ?_;rintro e w' ⟨rfl,rfl⟩
 have l0:=ent_le xs 0
 have hv:Hid (val xs % 18446744073709551616=ent xs 0+ent xs 1 * 4294967296):=by
  unfold Hid
  rw [ent_val,ent_val]
  generalize val xs=V
  omega
 go_wp2_with fail
 go_ret
 refine ⟨?_,rfl⟩
 rw [hv.out,← or_lo (ent xs 0) (ent xs 1) l0 l1]
 rfl
set_option maxHeartbeats 400000 in
theorem of_any (n:Nat) (w:World) (hn:(n:Int)≤18446744073709551615) :
  Calls Tryz.prog 225 #[.int .u64 n] w fun e w'=>∃ v',e = .returned v'∧IsNum w' v' n∧Below w.heap.size w w':=by
 have hv:Hid (val [UInt32.ofNat n,UInt32.ofNat (n / 4294967296)]=n):=by
  unfold Hid
  simp only [val,UInt32.toNat_ofNat']
  omega
 have h1:Hid (Value.int .u32 ((n:Int) % 4294967296)=uv (UInt32.ofNat n)):=uv_ofNat _ _ (by omega)
 have h2:Hid (Value.int .u32 ((n:Int) / 4294967296)=uv (UInt32.ofNat (n / 4294967296))):=uv_ofNat _ _ (by omega)
 go_enter Tryz.func225,Tryz.ntmps225
 go_wp2_with fail
 refine (trim_any (some ⟨w.heap.size,0,none⟩) [UInt32.ofNat n,UInt32.ofNat (n / 4294967296)] 2 _ ?_ (by simp) (by simp [maxLen]) (by simp)).mono ?_
 ·rw [h1.out,h2.out]
  exact Rd.litsU [UInt32.ofNat n,UInt32.ofNat (n / 4294967296)] rfl
 rintro e w1 ⟨v1,rfl,hown1,rfl⟩
 rw [hv.out] at hown1
 go_wp2_with fail
 go_ret
 exact ⟨_,rfl,hown1,nx0 w _⟩
theorem blen_top (l:List UInt32) (t:Nat) (hl:l.length=t+1) (h0:ent l t≠0):blen (val l)=32 * t+blen (ent l t):=by
 have hlt:=val_lt l
 rw [hl] at hlt
 have he:ent l t=val l / 4294967296 ^ t:=by
  rw [ent_val]
  exact Nat.mod_eq_of_lt (Nat.div_lt_of_lt_mul (by rw [← Nat.pow_succ];exact hlt))
 have hB:(4294967296:Nat) ^ t=2 ^ (32 * t):=by rw [Nat.pow_mul]
 rw [hB] at he
 generalize ent l t=e at *
 have hP:0<2 ^ (32 * t):=Nat.pow_pos (by decide)
 have hb:blen e=Nat.log2 e+1:=by unfold blen;rw [if_neg h0]
 have h1:2 ^ Nat.log2 e≤e:=Nat.log2_self_le h0
 have h2:e<2 ^ (Nat.log2 e+1):=(Nat.log2_lt h0).1 (Nat.lt_succ_self _)
 have hv0:val l≠0:=by
  intro h
  rw [h,Nat.zero_div] at he
  exact h0 he
 unfold blen at *
 rw [if_neg hv0,if_neg h0]
 refine ((bits_unique (val l) (32 * t+(Nat.log2 e+1)) ?_ (.inr ?_)).trans (by rw [if_neg hv0])).symm
 ·rw [Nat.pow_add,Nat.mul_comm]
  rw [he] at h2 ⊢
  exact (Nat.div_lt_iff_lt_mul hP).1 h2
 ·rw [show 32 * t+(Nat.log2 e+1) - 1=Nat.log2 e+32 * t from by omega,Nat.pow_add]
  exact Nat.le_trans (Nat.mul_le_mul_right _ h1) (by rw [he];exact Nat.div_mul_le_self _ _)
theorem limbs_top (n t:Nat) (h:(limbs n).length=t+1):ent (limbs n) t≠0:=by
 have hne:limbs n≠[]:=by intro e;rw [e] at h;simp at h
 have hc:=canon_limbs n hne
 intro h0
 apply hc
 rw [List.getLast_eq_getElem]
 unfold ent at h0
 rw [List.getD,List.getElem?_eq_getElem (by omega)] at h0
 simp only [h,Nat.add_sub_cancel]
 exact UInt32.toNat_inj.1 h0
set_option maxHeartbeats 800000 in
theorem bits_any (A:Option Addr) (xs:List UInt32) (c:Nat) (w:World) (hr:Rd uv w A xs) (hc:xs.length≤c) (hm:c≤maxLen) (hl:(xs.length:Int)≤200000) :
  Calls Tryz.prog 252 #[.slice A xs.length c] w fun e w'=>e = .returned (.int .i64 (blen (val xs):Nat))∧w=w':=by
 go_enter Tryz.func252,Tryz.ntmps252
 go_wp2_with fail
 refine (trim_any A xs c _ hr hc hm (by omega)).mono ?_;rintro e w1 ⟨v1,rfl,hn1,rfl⟩
 obtain ⟨A1,c1,ys,rfl,hr1,hc1,hm1,hl1,HY,HV⟩:=hn1.open_ xs.length (val_lt xs)
 have hyl:(ys.length:Int)≤200000:=by omega
 by_cases h0:ys.length=0
 ·have hfin:Hid (blen (val xs)=0):=by
   unfold Hid
   rw [← HV.out,List.eq_nil_of_length_eq_zero h0];rfl
  have hd:((ys.length:Int) == 0)=true:=by rw [h0];rfl
  have H0:=Lib.hid h0
  clear h0 hl1
  go_wp2_with fail
  go_ret
  refine ⟨?_,rfl⟩
  rw [hfin.out]
  rfl
 ·obtain ⟨t,ht⟩:∃ t,ys.length=t+1:=⟨ys.length - 1,by omega⟩
  have hd:((ys.length:Int) == 0)=false:=by rw [beq_eq_false_iff_ne];omega
  obtain ⟨b,off,rfl,hb,hcell⟩:=hr1.at_ (k:=t) (by omega)
  obtain ⟨x,HX⟩:∃ x,Hid (ent ys t=x):=⟨_,rfl⟩
  have vx:uv (ys[t]'(by omega)) = .int .u32 (x:Int):=by rw [← HX.out,uv,ent,List.getD,List.getElem?_eq_getElem (by omega)];rfl
  rw [vx] at hcell
  have lx:(x:Int)≤4294967295:=by rw [← HX.out];exact ent_le ys t
  have hfin:Hid (blen (val xs)=32 * t+blen x):=by
   unfold Hid
   rw [← HV.out,← HX.out]
   exact blen_top ys t ht (by rw [HY.out];exact limbs_top _ _ (by rw [← HY.out];exact ht))
  have hbx:(blen x:Int)≤32:=by
   unfold blen
   split
   ·decide
   ·rename_i hx0
    have:Nat.log2 x<32:=(Nat.log2_lt hx0).2 (by omega)
    omega
  have i1:((ys.length:Int) - 1)=(t:Int):=by omega
  have ht1:(t:Int)≤200000:=by omega
  have ht2:t<ys.length:=by omega
  have HT:=Lib.hid ht
  clear ht vx h0
  go_wp2_with fail
  refine (length_any x _ lx).mono ?_;rintro e w' ⟨rfl,rfl⟩
  go_wp2_with fail
  go_ret
  refine ⟨?_,rfl⟩
  rw [hfin.out]
  congr 2
theorem limbs_less (x y:Nat) (h:(limbs x).length<(limbs y).length):x<y:=by
 rcases Nat.lt_or_ge x y with h' | h'
 ·exact h'
 ·exfalso
  obtain ⟨t,ht⟩:∃ t,(limbs y).length=t+1:=⟨(limbs y).length - 1,by omega⟩
  have h1:=limbs_top y t ht
  rw [ent_val,val_limbs] at h1
  have h2:x<4294967296 ^ (limbs x).length:=by have:=val_lt (limbs x);rwa [val_limbs] at this
  have h3:4294967296 ^ (limbs x).length≤4294967296 ^ t:=Nat.pow_le_pow_right (by decide) (by omega)
  rw [Nat.div_eq_of_lt (by omega)] at h1
  exact h1 rfl
end Go.Proofs.YtpbjkgpdkopgmaaGreatDoor
