/- The contracts of big: a multiple taken from a row, a number added to a row. The contract of big: one digit of a quotient. The contract of big: quotients. -/
import Derived.Test.YtjggghfekakogaaGreatDoorG02
import Derived.Laws.CopyOwn
set_option linter.unusedVariables false
set_option linter.unusedSimpArgs false
set_option linter.unnecessarySimpa false
namespace Go.Proofs.YtjggghfekakogaaGreatDoor
open Go.RowKit
structure Only (g lo hi:Nat) (w w':World):Prop where
 os:w'.os=w.os
 tape:w'.tape=w.tape
 output:w'.output=w.output
 size:w.heap.size≤w'.heap.size
 block:∀ k,k≠g→k<w.heap.size→w'.heap[k]? = w.heap[k]?
 cell:∀ j,j<lo∨hi≤j→w'.cell? ⟨g,j,none⟩=w.cell? ⟨g,j,none⟩
 isSome:∀ j,(w.cell? ⟨g,j,none⟩).isSome=true→(w'.cell? ⟨g,j,none⟩).isSome=true
 frozen:∀ j,w'.frozen? ⟨g,j,none⟩=w.frozen? ⟨g,j,none⟩
theorem Only.refl (g lo hi:Nat) (w:World):Only g lo hi w w:=⟨rfl,rfl,rfl,Nat.le_refl _,fun _ _ _=>rfl,fun _ _=>rfl,fun _ h=>h,fun _=>rfl⟩
theorem Only.trans {g lo hi:Nat} {a b c:World} (h:Only g lo hi a b) (k:Only g lo hi b c):Only g lo hi a c :=
 ⟨k.os.trans h.os,k.tape.trans h.tape,k.output.trans h.output,Nat.le_trans h.size k.size,fun i h1 h2=>(k.block i h1 (Nat.lt_of_lt_of_le h2 h.size)).trans (h.block i h1 h2),fun j hj=>(k.cell j hj).trans (h.cell j hj),fun j hj=>k.isSome j (h.isSome j hj),fun j=>(k.frozen j).trans (h.frozen j)⟩
theorem Only.nx {g lo hi:Nat} {a b c:World} (h:Only g lo hi a b) (hg:g<b.heap.size) (k:Below b.heap.size b c):Only g lo hi a c :=
 h.trans ⟨k.os,k.tape,k.output,k.size,fun i _ h2=>k.block i h2,fun j _=>k.cell (p:=⟨g,j,none⟩) hg,fun j hj=>by rw [k.cell (p:=⟨g,j,none⟩) hg];exact hj,fun j=>k.frozen (p:=⟨g,j,none⟩) hg⟩
theorem Only.setCell {g lo hi i:Nat} {a b:World} (h:Only g lo hi a b) (h1:lo≤i) (h2:i<hi) (v:Value):Only g lo hi a (b.setCell ⟨g,i,none⟩ v):=by
 refine h.trans ⟨rfl,rfl,rfl,by simp [World.setCell],fun k hk _=>Below.heap_setCell _ _ _ _ hk,fun j hj=>?_,fun j hj=>?_,fun j=>World.frozen?_setCell ..⟩
 ·exact World.cell?_setCell_other _ _ _ _ (by simp only [ne_eq,Addr.mk.injEq];omega)
 ·by_cases hji:j=i
  ·subst hji
   obtain ⟨u,hu⟩:=Option.isSome_iff_exists.1 hj
   rw [World.cell?_setCell_same _ _ _ hu];rfl
  ·rw [World.cell?_setCell_other _ _ _ _ (by simp only [ne_eq,Addr.mk.injEq];omega)];exact hj
theorem Only.below {g lo hi B:Nat} {w w':World} (h:Only g lo hi w w') (hB:B≤g) (hs:B≤w.heap.size):Below B w w' :=
 ⟨h.os,h.tape,h.output,h.size,fun k hk=>h.block k (by omega) (by omega)⟩
theorem Only.other {g lo hi:Nat} {w w':World} (h:Only g lo hi w w') {p:Addr} (hp:p.block≠g) (hs:p.block<w.heap.size):w'.cell? p=w.cell? p :=
 World.cell?_of_block (w:=w) (h.block p.block hp hs)
theorem Only.otherF {g lo hi:Nat} {w w':World} (h:Only g lo hi w w') {p:Addr} (hp:p.block≠g) (hs:p.block<w.heap.size):w'.frozen? p=w.frozen? p :=
 World.frozen?_of_block (w:=w) (h.block p.block hp hs)
theorem Row.only {w w':World} {B g off cap g' lo hi:Nat} {xs:List UInt32} (h:Row w B g off cap xs) (ho:Only g' lo hi w w') (hne:g≠g'):Row w' B g off cap xs :=
 ⟨h.hB,Nat.lt_of_lt_of_le h.hg ho.size,h.hn,h.hm,fun j hj=>by rw [ho.other (p:=⟨g,off+j,none⟩) hne h.hg,ho.otherF (p:=⟨g,off+j,none⟩) hne h.hg];exact h.hs j hj,fun j hj=>by rw [ho.other (p:=⟨g,off+j,none⟩) hne h.hg];exact h.hc j hj⟩
def Rdx (g:Nat) (w:World) (A:Option Addr) (xs:List UInt32):Prop :=
 0<xs.length→∃ b off,A=some ⟨b,off,none⟩∧b≠g∧b<w.heap.size∧∀ j (h:j<xs.length),w.cell? ⟨b,off+j,none⟩=some (uv xs[j])
theorem Rdx.rd {g:Nat} {w:World} {A:Option Addr} {xs:List UInt32} (h:Rdx g w A xs):Rd uv w A xs:=fun hn=>by
 obtain ⟨b,off,h1,_,h2,h3⟩:=h hn
 exact ⟨b,off,h1,h2,h3⟩
theorem Rdx.only {g lo hi:Nat} {w w':World} {A:Option Addr} {xs:List UInt32} (h:Rdx g w A xs) (ho:Only g lo hi w w'):Rdx g w' A xs:=fun hn=>by
 obtain ⟨b,off,h1,h0,h2,h3⟩:=h hn
 exact ⟨b,off,h1,h0,Nat.lt_of_lt_of_le h2 ho.size,fun j hj=>by rw [ho.other (p:=⟨b,off+j,none⟩) h0 h2];exact h3 j hj⟩
theorem Rd.rdx {g:Nat} {w w':World} {A:Option Addr} {xs:List UInt32} (h:Rd uv w A xs) (hb:Below w.heap.size w w') (hg:w.heap.size≤g):Rdx g w' A xs:=fun hn=>by
 obtain ⟨b,off,h1,h2,h3⟩:=h hn
 exact ⟨b,off,h1,by omega,Nat.lt_of_lt_of_le h2 hb.size,fun j hj=>by rw [hb.cell (p:=⟨b,off+j,none⟩) h2];exact h3 j hj⟩
theorem take_word (r p:Nat) (hr:(r:Int)≤4294967295) (hp:(p:Int)≤18446744069414584321) :
  IntKind.u64.wrap ((r:Int) - (p:Int) % 4294967296) % 4294967296=(((r+4294967296 - p % 4294967296) % 4294967296:Nat):Int) ∧
  IntKind.u64.wrap ((p:Int) / 4294967296+IntKind.u64.wrap ((r:Int) - (p:Int) % 4294967296) / 9223372036854775808)=((p / 4294967296+(1 - (r+4294967296 - p % 4294967296) / 4294967296):Nat):Int):=by
 have e:∀ x:Int,IntKind.u64.wrap x=x % 18446744073709551616:=fun x=>by simp [IntKind.wrap,IntKind.bits,IntKind.signed]
 obtain ⟨m,hm⟩:∃ m,p % 4294967296=m:=⟨_,rfl⟩
 obtain ⟨q,hq⟩:∃ q,p / 4294967296=q:=⟨_,rfl⟩
 have hmI:(p:Int) % 4294967296=(m:Int):=by omega
 have hqI:(p:Int) / 4294967296=(q:Int):=by omega
 have hm':m<4294967296:=by omega
 have hq':q≤4294967295:=by omega
 rw [e,e,hm,hq,hmI,hqI]
 clear hm hq hmI hqI hp
 refine ⟨by omega,?_⟩
 by_cases h:r<m
 ·have h1:((r:Int) - m) % 18446744073709551616 / 9223372036854775808=1:=by omega
  have h2:(r+4294967296 - m) / 4294967296=0:=by omega
  rw [h1,h2];omega
 ·have h1:((r:Int) - m) % 18446744073709551616 / 9223372036854775808=0:=by omega
  have h2:(r+4294967296 - m) / 4294967296=1:=by omega
  rw [h1,h2];omega
theorem take_last (r bo:Nat) (hr:(r:Int)≤4294967295) (hb:(bo:Int)≤4294967296) :
  IntKind.u64.wrap ((r:Int) - (bo:Int)) % 4294967296=(((r+4294967296 - bo) % 4294967296:Nat):Int) ∧
  ((IntKind.u64.wrap ((r:Int) - (bo:Int)) / 9223372036854775808) == (1:Int))=decide (r<bo):=by
 have e:∀ x:Int,IntKind.u64.wrap x=x % 18446744073709551616:=fun x=>by simp [IntKind.wrap,IntKind.bits,IntKind.signed]
 rw [e]
 refine ⟨by omega,?_⟩
 by_cases h:r<bo
 ·rw [decide_eq_true h]
  have:((r:Int) - bo) % 18446744073709551616 / 9223372036854775808=1:=by omega
  rw [this];rfl
 ·rw [decide_eq_false h]
  have:((r:Int) - bo) % 18446744073709551616 / 9223372036854775808=0:=by omega
  rw [this];rfl
theorem take_end (V V' P U T bo r:Nat) (hr:r≤4294967295) (hb:bo≤4294967296) (hV:V'+P * r=V+P * ((r+4294967296 - bo) % 4294967296)) (h:V+T=U+bo * P) :
  V'+T=U+(if r<bo then P * 4294967296 else 0):=by
 have e6:bo * P=P * bo:=Nat.mul_comm _ _
 by_cases hlt:r<bo
 ·rw [if_pos hlt]
  have e1:P * bo+P * ((r+4294967296 - bo) % 4294967296)=P * r+P * 4294967296:=by rw [← Nat.mul_add,← Nat.mul_add];congr 1;omega
  generalize P * ((r+4294967296 - bo) % 4294967296)=x3 at *
  omega
 ·rw [if_neg hlt]
  have e1:P * bo+P * ((r+4294967296 - bo) % 4294967296)=P * r:=by rw [← Nat.mul_add];congr 1;omega
  generalize P * ((r+4294967296 - bo) % 4294967296)=x3 at *
  omega
theorem take_step (V V' P U D t d bo r p:Nat) (hp:p=t * d+bo) (hd:d=D / P % 4294967296) (hr:r≤4294967295) (hV:V'+P * r=V+P * ((r+4294967296 - p % 4294967296) % 4294967296)) (h:V+t * (D % P)=U+bo * P) :
  V'+t * (D % (P * 4294967296))=U+(p / 4294967296+(1 - (r+4294967296 - p % 4294967296) / 4294967296)) * (P * 4294967296):=by
 rw [Nat.mod_mul,← hd]
 obtain ⟨L,hL⟩:∃ L,r+4294967296 - p % 4294967296=L:=⟨_,rfl⟩
 rw [hL] at hV ⊢
 have e1:p % 4294967296+L % 4294967296=r+4294967296 * (1 - L / 4294967296):=by omega
 have e2:P * (p % 4294967296)+P * (L % 4294967296)=P * r+P * (4294967296 * (1 - L / 4294967296)):=by rw [← Nat.mul_add,e1,Nat.mul_add]
 have e3:t * (D % P+P * d)=t * (D % P)+P * (t * d):=by rw [Nat.mul_add,Nat.mul_left_comm]
 have e4:P * (t * d)+P * bo=P * (4294967296 * (p / 4294967296))+P * (p % 4294967296):=by
  rw [← Nat.mul_add,← Nat.mul_add,← hp];congr 1;omega
 have e5:(p / 4294967296+(1 - L / 4294967296)) * (P * 4294967296)=P * (4294967296 * (p / 4294967296))+P * (4294967296 * (1 - L / 4294967296)):=by
  rw [Nat.add_mul,← Nat.mul_assoc P,← Nat.mul_assoc P,Nat.mul_comm (p / 4294967296),Nat.mul_comm (1 - L / 4294967296)]
 have e6:bo * P=P * bo:=Nat.mul_comm _ _
 rw [e3,e5]
 generalize P * (4294967296 * (p / 4294967296))=x1 at *
 generalize P * (4294967296 * (1 - L / 4294967296))=x2 at *
 generalize P * (L % 4294967296)=x3 at *
 generalize P * (p % 4294967296)=x4 at *
 generalize P * (t * d)=x5 at *
 omega
def Taken (us us':List UInt32) (t D:Nat) (be:Bool):Prop:=val us'+t * D=val us+(if be then 4294967296 ^ us.length else 0)
set_option maxRecDepth 100000 in
set_option maxHeartbeats 1600000 in
theorem takeTimes_any (B g off L cap:Nat) (us:List UInt32) (D:Option Addr) (ds:List UInt32) (dc t:Nat) (w:World) (hrow:Row w B g off cap us) (hL:Hid (us.length=L)) (hL1:L≤ds.length+1) (hL2:ds.length+1≤L)
  (hr:Rdx g w D ds) (hd:ds.length≤dc) (hl:(ds.length:Int)≤100000) (ht:(t:Int)≤4294967295) :
  Calls Tryz.prog 307 #[.slice (some ⟨g,off,none⟩) L cap,.slice D ds.length dc,.int .u64 t] w fun e w'=>∃ us' be,e = .returned (.bool be)∧Hid (us'.length=L)∧Row w' B g off cap us'∧Only g off (off+L) w w'∧Hid (Taken us us' t (val ds) be):=by
 go_enter Tryz.func307,Tryz.ntmps307
 go_wp2_with fail
 have HR:=Lib.hid hrow
 clear hrow
 go_loopw [7,15] (fun v i wr=>∃ (k bo:Nat) (ts:List UInt32),i = .int .i64 k∧v = .int .u64 bo∧(bo:Int)≤4294967296∧k≤ds.length∧Hid (ts.length=L) ∧
  Hid (val ts+t * (val ds % 4294967296 ^ k)=val us+bo * 4294967296 ^ k)∧Row wr B g off cap ts∧Only g off (off+L) w wr) (fun _ i _=>ds.length - (intOf i).toNat)
 case atStart=>exact ⟨0,0,us,rfl,rfl,by omega,by omega,hL,by unfold Hid;simp [Nat.mod_one],HR.out,Only.refl _ _ _ _⟩
 case round =>
  obtain ⟨k,bo,ts,rfl,rfl,hbo,hk,HL,HV,hrow,honly⟩:=hrel
  have hTL:ts.length≤L:=by have:=HL.out;omega
  have hTL2:L≤ts.length:=by have:=HL.out;omega
  by_cases hlt:k<ds.length
  ·obtain ⟨d,HX⟩:∃ d,Hid (ent ds k=d):=⟨_,rfl⟩
   obtain ⟨r,HY⟩:∃ r,Hid (ent ts k=r):=⟨_,rfl⟩
   have ld:(d:Int)≤4294967295:=by rw [← HX.out];exact ent_le ds k
   have lr:(r:Int)≤4294967295:=by rw [← HY.out];exact ent_le ts k
   have b1:decide (k<ds.length)=true:=decide_eq_true hlt
   obtain ⟨bx,offx,rfl,hbx,hcx⟩:=rd_cell (hr.only honly).rd hlt HX
   have hco:=hrow.cell (i:=k) (by omega) HY
   have hf1:=hrow.free (i:=k) (by omega)
   have lab:(t:Int) * (d:Int)≤18446744065119617025:=by
    have:=Int.mul_le_mul ht ld (by omega) (by omega)
    omega
   have lab0:0≤(t:Int) * (d:Int):=Int.mul_nonneg (by omega) (by omega)
   have hkL:k<L:=by omega
   have hc:(t:Int) * d+bo=((t * d+bo:Nat):Int):=by rw [Int.natCast_add,Int.natCast_mul]
   obtain ⟨p,HP⟩:∃ p,Hid (t * d+bo=p):=⟨_,rfl⟩
   rw [HP.out] at hc
   have lp:(p:Int)≤18446744069414584321:=by omega
   have HC:=Lib.hid hc
   have HW:=Lib.hid (take_word r p lr lp)
   have HST:=Lib.hid (hrow.put (i:=k) (by omega) (r+4294967296 - p % 4294967296))
   have HBS:=Lib.hid (honly.setCell (i:=off+k) (by omega) (by omega) (uv (UInt32.ofNat (r+4294967296 - p % 4294967296))))
   clear hrow hc
   go_wp2_with fail
   rw [HC.out,HW.out.1,HW.out.2]
   go_roundw
   case rel =>
    rw [uv_ofNat (r+4294967296 - p % 4294967296) _ rfl]
    refine ⟨k+1,_,ts.set k (UInt32.ofNat (r+4294967296 - p % 4294967296)),by go_num,rfl,by omega,by omega,by unfold Hid;simpa using HL.out,?_,HST.out,HBS.out⟩
    unfold Hid
    have hset:=val_set ts k (by omega) (UInt32.ofNat (r+4294967296 - p % 4294967296))
    have ho:(ts.getD k 0).toNat=r:=HY.out
    rw [ho,UInt32.toNat_ofNat'] at hset
    rw [Nat.pow_succ]
    exact take_step _ _ _ _ _ _ _ _ _ _ HP.out.symm (by rw [← HX.out,ent_val]) (by omega) hset HV.out
   case measure=>simp [intOf];omega
  ·obtain rfl:k=ds.length:=by omega
   have b1:decide (ds.length<ds.length)=false:=decide_eq_false (by omega)
   obtain ⟨r,HY⟩:∃ r,Hid (ent ts ds.length=r):=⟨_,rfl⟩
   have lr:(r:Int)≤4294967295:=by rw [← HY.out];exact ent_le ts _
   have hco:=hrow.cell (i:=ds.length) (by omega) HY
   have hf1:=hrow.free (i:=ds.length) (by omega)
   have hkL:ds.length<L:=by omega
   have HW:=Lib.hid (take_last r bo lr hbo)
   have HST:=Lib.hid (hrow.put (i:=ds.length) (by omega) (r+4294967296 - bo))
   have HBS:=Lib.hid (honly.setCell (i:=off+ds.length) (by omega) (by omega) (uv (UInt32.ofNat (r+4294967296 - bo))))
   have HT:Hid (Taken us (ts.set ds.length (UInt32.ofNat (r+4294967296 - bo))) t (val ds) (decide (r<bo))):=by
    unfold Hid Taken
    have hset:=val_set ts ds.length (by omega) (UInt32.ofNat (r+4294967296 - bo))
    have ho:(ts.getD ds.length 0).toNat=r:=HY.out
    rw [ho,UInt32.toNat_ofNat'] at hset
    have hV:=HV.out
    rw [Nat.mod_eq_of_lt (val_lt ds)] at hV
    have:=take_end _ _ _ _ _ _ _ (by omega) (by omega) hset hV
    rw [this,hL.out,show L=ds.length+1 from by omega,Nat.pow_succ]
    by_cases h:r<bo
    ·rw [if_pos h,if_pos (decide_eq_true h)]
    ·rw [if_neg h,if_neg (by rw [decide_eq_false h];simp)]
   clear hrow
   go_wp2_with fail
   go_ret
   refine ⟨ts.set ds.length (UInt32.ofNat (r+4294967296 - bo)),decide (r<bo),?_,?_,?_,?_,HT⟩
   ·have:=HW.out.2
    rw [← this];rfl
   ·unfold Hid;simpa using HL.out
   ·rw [HW.out.1,uv_ofNat (r+4294967296 - bo) _ rfl];exact HST.out
   ·rw [HW.out.1,uv_ofNat (r+4294967296 - bo) _ rfl];exact HBS.out
def Added (us us':List UInt32) (D:Nat) (be:Bool):Prop:=val us'+(if be then 4294967296 ^ us.length else 0)=val us+D
theorem back_step (V V' P U D cc r d S:Nat) (hS:S=r+d+cc) (hd:d=D / P % 4294967296) (hV:V'+P * r=V+P * (S % 4294967296)) (h:V+cc * P=U+D % P) :
  V'+S / 4294967296 * (P * 4294967296)=U+D % (P * 4294967296):=by
 rw [Nat.mod_mul,← hd]
 have h1:P * S=P * (S % 4294967296)+S / 4294967296 * (P * 4294967296):=by
  have:=Nat.div_add_mod S 4294967296
  have h2:P * S=P * (4294967296 * (S / 4294967296)+S % 4294967296):=by rw [this]
  rw [h2,Nat.mul_add,Nat.add_comm,← Nat.mul_assoc,Nat.mul_comm (P * 4294967296)]
 have h3:P * S=P * r+P * d+P * cc:=by rw [hS,Nat.mul_add,Nat.mul_add]
 have h4:P * cc=cc * P:=Nat.mul_comm _ _
 omega
set_option maxRecDepth 100000 in
set_option maxHeartbeats 1600000 in
theorem addBack_any (B g off L cap:Nat) (us:List UInt32) (D:Option Addr) (ds:List UInt32) (dc:Nat) (w:World) (hrow:Row w B g off cap us) (hL:Hid (us.length=L)) (hL1:L≤ds.length+1) (hL2:ds.length+1≤L)
  (hr:Rdx g w D ds) (hd:ds.length≤dc) (hl:(ds.length:Int)≤100000) :
  Calls Tryz.prog 308 #[.slice (some ⟨g,off,none⟩) L cap,.slice D ds.length dc] w fun e w'=>∃ us' be,e = .returned (.bool be)∧Hid (us'.length=L)∧Row w' B g off cap us'∧Only g off (off+L) w w'∧Hid (Added us us' (val ds) be):=by
 go_enter Tryz.func308,Tryz.ntmps308
 go_wp2_with fail
 have HR:=Lib.hid hrow
 clear hrow
 go_loopw [5,10] (fun v i wr=>∃ (k cc:Nat) (ts:List UInt32),i = .int .i64 k∧v = .int .u64 cc∧cc≤1∧k≤L∧Hid (ts.length=L) ∧
  Hid (val ts+cc * 4294967296 ^ k=val us+val ds % 4294967296 ^ k)∧Row wr B g off cap ts∧Only g off (off+L) w wr) (fun _ i _=>L - (intOf i).toNat)
 case atStart=>exact ⟨0,0,us,rfl,rfl,by omega,by omega,hL,by unfold Hid;simp [Nat.mod_one],HR.out,Only.refl _ _ _ _⟩
 case round =>
  obtain ⟨k,cc,ts,rfl,rfl,hcc,hk,HL,HV,hrow,honly⟩:=hrel
  have hTL:ts.length≤L:=by have:=HL.out;omega
  have hTL2:L≤ts.length:=by have:=HL.out;omega
  by_cases hlt:k<L
  ·obtain ⟨d,HX⟩:∃ d,Hid (ent ds k=d):=⟨_,rfl⟩
   obtain ⟨r,HY⟩:∃ r,Hid (ent ts k=r):=⟨_,rfl⟩
   have ld:(d:Int)≤4294967295:=by rw [← HX.out];exact ent_le ds k
   have lr:(r:Int)≤4294967295:=by rw [← HY.out];exact ent_le ts k
   have b1:decide (k<L)=true:=decide_eq_true hlt
   have hrx:=hr.only honly
   have hco:=hrow.cell (i:=k) (by omega) HY
   have hf1:=hrow.free (i:=k) (by omega)
   have hgl:=hrow.hg
   have f1:∀ x:Gr wr,x.1.cell? ⟨g,off+k,none⟩=some (.int .u32 (r:Int)):=fun x=>(x.2.cell (by exact hgl)).trans hco
   go_upto_region 5 with (fail)
   refine wp_region_hyb [(0,true),(1,true),(2,true),(3,true),(4,true),(5,true),(6,true),(9,true),(7,false),(8,true),(10,true),(11,true)] (by kernel_rfl) (by kernel_rfl) ?_
   iterate 8 (refine hyb_calm rfl (fun K hK=>?_);go_simp;refine hK _ ?_;clear hK K)
   refine hyb_alone rfl (fun w3 hn3 K hK=>?_)
   go_simp
   refine (elem_any D ds dc k _ (hrx.rd.below hn3) hd (by omega) (by omega)).mono ?_;rintro e w' ⟨rfl,rfl⟩
   rw [HX.out]
   refine hK _ _ (Nx.refl _) ?_
   clear hK K
   iterate 3 (refine hyb_calm rfl (fun K hK=>?_);go_simp;refine hK _ ?_;clear hK K)
   refine hyb_nil (fun w4 hn4=>?_)
   have hrow4:=(hrow.below hn3).below hn4
   have honly4:=(honly.nx hgl hn3).nx (Nat.lt_of_lt_of_le hgl hn3.size) hn4
   clear f1 hco hf1 hrow honly hrx
   have hco:=hrow4.cell (i:=k) (by omega) HY
   have hf1:=hrow4.free (i:=k) (by omega)
   have HST:=Lib.hid (hrow4.put (i:=k) (by omega) (r+d+cc))
   have HBS:=Lib.hid (honly4.setCell (i:=off+k) (by omega) (by omega) (uv (UInt32.ofNat (r+d+cc))))
   clear hrow4 honly4
   go_wp2_with fail
   go_roundw
   case rel =>
    have hu:Value.int .u32 (((r:Int)+d+cc) % 4294967296)=uv (UInt32.ofNat (r+d+cc)):=uv_ofNat _ _ (by omega)
    rw [hu]
    refine ⟨k+1,(r+d+cc) / 4294967296,ts.set k (UInt32.ofNat (r+d+cc)),by go_num,by go_num,by omega,by omega,by unfold Hid;simpa using HL.out,?_,HST.out,HBS.out⟩
    unfold Hid
    have hset:=val_set ts k (by omega) (UInt32.ofNat (r+d+cc))
    have ho:(ts.getD k 0).toNat=r:=HY.out
    rw [ho,UInt32.toNat_ofNat'] at hset
    rw [Nat.pow_succ]
    exact back_step _ _ _ _ _ _ _ _ _ rfl (by rw [← HX.out,ent_val]) hset HV.out
   case measure=>simp [intOf];omega
  ·obtain rfl:k=L:=by omega
   have b1:decide (k<k)=false:=decide_eq_false (by omega)
   have hbe:((cc:Int) == (1:Int))=decide (cc=1):=by
    rcases (by omega:cc=0∨cc=1) with rfl | rfl <;> rfl
   have HT:Hid (Added us ts (val ds) (decide (cc=1))):=by
    unfold Hid Added
    have hV:=HV.out
    have h1:=val_lt ds
    rw [Nat.mod_eq_of_lt (Nat.lt_of_lt_of_le h1 (Nat.pow_le_pow_right (by decide) (by omega)))] at hV
    rw [hL.out,← hV]
    rcases (by omega:cc=0∨cc=1) with rfl | rfl <;> simp
   have HBE:=Lib.hid hbe
   clear hbe
   go_wp2_with fail
   go_ret
   refine ⟨ts,decide (cc=1),?_,HL,hrow,honly,HT⟩
   rw [← HBE.out];rfl
end Go.Proofs.YtjggghfekakogaaGreatDoor
namespace Go.Proofs.YtjggghfekakogaaGreatDoor
open Go.RowKit
theorem digit_guess (us ds:List UInt32) (m hi dt qh G:Nat) (hU:us.length=m+2) (hD:ds.length=m+1) (hhi:ent us m+ent us (m+1) * 4294967296=hi) (hdt:ent ds m=dt) (hdt0:0<dt) (hq:hi / dt=qh)
  (hlt:val us<4294967296 * val ds) (hG:qh≤G∨4294967295≤G):val us / val ds≤G:=by
 rcases hG with hG | hG
 ·have hP:0<4294967296 ^ m:=Nat.pow_pos (by decide)
  have h1:=val_lt us
  have h2:=val_lt ds
  rw [hU,show m+2=m+1+1 from rfl,Nat.pow_succ,Nat.pow_succ] at h1
  rw [hD,Nat.pow_succ] at h2
  have h3:val us / 4294967296 ^ m<4294967296 * 4294967296:=Nat.div_lt_of_lt_mul (by rw [← Nat.mul_assoc];exact h1)
  have h4:val ds / 4294967296 ^ m<4294967296:=Nat.div_lt_of_lt_mul h2
  have h5:val us / 4294967296 ^ m=hi:=by
   rw [← hhi,ent_val,ent_val,Nat.pow_succ,← Nat.div_div_eq_div_mul]
   generalize val us / 4294967296 ^ m=W at *
   omega
  have h6:val ds / 4294967296 ^ m=dt:=by
   rw [← hdt,ent_val,Nat.mod_eq_of_lt h4]
  refine Nat.le_trans ?_ hG
  rw [← hq,Nat.le_div_iff_mul_le hdt0,← h5,Nat.le_div_iff_mul_le hP,Nat.mul_assoc]
  refine Nat.le_trans (Nat.mul_le_mul_left _ ?_) (Nat.div_mul_le_self (val us) (val ds))
  rw [← h6];exact Nat.div_mul_le_self _ _
 ·have:val us / val ds<4294967296:=Nat.div_lt_of_lt_mul (by rw [Nat.mul_comm];exact hlt)
  omega
set_option maxRecDepth 100000 in
set_option maxHeartbeats 1600000 in
theorem digit_any (B g off L cap m:Nat) (us:List UInt32) (D:Option Addr) (ds:List UInt32) (dc:Nat) (w:World) (hrow:Row w B g off cap us) (hL:Hid (us.length=L)) (hL1:L≤ds.length+1) (hL2:ds.length+1≤L)
  (hr:Rdx g w D ds) (hd:ds.length≤dc) (hl:(ds.length:Int)≤90000) (hm1:ds.length≤m+1) (hm2:m+1≤ds.length) (htop:Hid (ent ds m≠0)) (hlt:Hid (val us<4294967296 * val ds)) :
  Calls Tryz.prog 289 #[.slice (some ⟨g,off,none⟩) L cap,.slice D ds.length dc] w fun e w'=>∃ us',e = .returned (.int .u32 (val us / val ds:Nat))∧Hid (us'.length=L)∧Row w' B g off cap us'∧Only g off (off+L) w w'∧Hid (val us'=val us % val ds):=by
 obtain ⟨u1,HU1⟩:∃ u,Hid (ent us ds.length=u):=⟨_,rfl⟩
 obtain ⟨u0,HU0⟩:∃ u,Hid (ent us m=u):=⟨_,rfl⟩
 obtain ⟨dt,HD⟩:∃ u,Hid (ent ds m=u):=⟨_,rfl⟩
 have lu1:(u1:Int)≤4294967295:=by rw [← HU1.out];exact ent_le us _
 have lu0:(u0:Int)≤4294967295:=by rw [← HU0.out];exact ent_le us _
 have ld:(dt:Int)≤4294967295:=by rw [← HD.out];exact ent_le ds _
 have ld0:0<dt:=by have:=htop.out;rw [HD.out] at this;omega
 have hUL:us.length=ds.length+1:=by have:=hL.out;omega
 have hc1:=hrow.cell (i:=ds.length) (by omega) HU1
 have hc0:=hrow.cell (i:=m) (by omega) HU0
 obtain ⟨bx,offx,rfl,hbx,hcx⟩:=rd_cell hr.rd (i:=m) (by omega) HD
 clear hUL
 have hgl:=hrow.hg
 have i1:IntKind.i64.wrap ((ds.length:Int) - 1)=(m:Int):=by rw [IntKind.wrap_i64];omega
 have i2:m<L:=by omega
 have i3:ds.length<L:=by omega
 have i4:m<ds.length:=by omega
 obtain ⟨hi,HH⟩:∃ hi,Hid (u0+u1 * 4294967296=hi):=⟨_,rfl⟩
 have hor:bits .or .u64 (IntKind.u64.wrap (IntKind.u64.wrap (u1:Int) * 4294967296)) (IntKind.u64.wrap (u0:Int))=(hi:Int):=by
  have e:∀ x:Int,IntKind.u64.wrap x=x % 18446744073709551616:=fun x=>by simp [IntKind.wrap,IntKind.bits,IntKind.signed]
  have e1:(u1:Int) % 18446744073709551616=u1:=by omega
  have e0:(u0:Int) % 18446744073709551616=u0:=by omega
  have e2:(u1:Int) * 4294967296 % 18446744073709551616=u1 * 4294967296:=by omega
  rw [e,e,e,e1,e2,e0,or_lo u0 u1 lu0 lu1,HH.out]
 have lhi:(hi:Int)≤18446744073709551615:=by have:=HH.out;omega
 go_enter Tryz.func289,Tryz.ntmps289
 go_upto_region 2 with (fail)
 have f1:∀ x:Gr w,x.1.cell? ⟨g,off+ds.length,none⟩=some (.int .u32 (u1:Int)):=fun x=>(x.2.cell (by exact hgl)).trans hc1
 have f0:∀ x:Gr w,x.1.cell? ⟨g,off+m,none⟩=some (.int .u32 (u0:Int)):=fun x=>(x.2.cell (by exact hgl)).trans hc0
 refine wp_region_hyb [(0,true),(1,true),(2,true),(3,true),(4,true),(5,true),(6,true),(7,true),(8,true),(9,true),(10,true),(11,true),(12,true),(13,true)] (by kernel_rfl) (by kernel_rfl) ?_
 iterate 14 (refine hyb_calm rfl (fun K hK=>?_);go_simp;refine hK _ ?_;clear hK K)
 clear f1 f0
 refine hyb_nil (fun w1 hn1=>?_)
 have hrow1:=hrow.below hn1
 have honly1:=(Only.refl g off (off+L) w).nx hgl hn1
 have hrx1:=hr.only honly1
 have hcx1:w1.cell? ⟨bx,offx+m,none⟩=some (.int .u32 (dt:Int)):=(hn1.cell (by exact hbx)).trans hcx
 clear hrow hcx hc1 hc0 i1 hor
 have i1:((ds.length:Int) - 1)=(m:Int):=by omega
 obtain ⟨qh,HQ⟩:∃ qh,Hid (hi / dt=qh):=⟨_,rfl⟩
 have hqh:qh≤hi:=by rw [← HQ.out];exact Nat.div_le_self _ _
 have hdv:IntKind.u64.wrap ((hi:Int) / (dt:Int))=(qh:Int):=by
  have e:∀ x:Int,IntKind.u64.wrap x=x % 18446744073709551616:=fun x=>by simp [IntKind.wrap,IntKind.bits,IntKind.signed]
  have e2:(hi:Int) / (dt:Int)=(qh:Int):=by rw [← HQ.out];rfl
  rw [e,e2];omega
 obtain ⟨G,hG,hG1,hG2,hG3,hGm,hGn⟩:∃ G:Nat,(if (4294967295:Int)<(qh:Int) then (4294967295:Int) else (qh:Int))=(G:Int)∧G≤4294967295∧G≤qh∧(qh≤G∨4294967295≤G)∧min (4294967295:Int) (qh:Int)=(G:Int)∧min (qh:Int) (4294967295:Int)=(G:Int):=by
  by_cases h:(4294967295:Int)<(qh:Int)
  ·exact ⟨4294967295,by rw [if_pos h];rfl,by omega,by omega,by omega,by omega,by omega⟩
  ·exact ⟨qh,by rw [if_neg h],by omega,by omega,by omega,by omega,by omega⟩
 have hguess:Hid (val us / val ds≤G):=digit_guess us ds m hi dt qh G (by have:=hL.out;omega) (by omega) (by have:=HH.out;rw [HU0.out,show m+1=ds.length from by omega,HU1.out];exact this) HD.out ld0 HQ.out hlt.out (by omega)
 go_wp2_with fail
 clear hG hG2 hG3 hGm hGn hqh hdv
 refine (takeTimes_any B g off L cap us _ ds dc G _ hrow1 hL hL1 hL2 hrx1 hd (by omega) (by omega)).mono ?_;rintro e w2 ⟨us2,be2,rfl,hL2',hrow2,honly2,HT2⟩
 have honly12:=honly1.trans honly2
 have HR2:=Lib.hid hrow2
 clear hrow1 hrow2 honly1 honly2 hrx1 hcx1 i1
 have hD0:Hid (0<val ds):=by
  unfold Hid
  rcases Nat.eq_zero_or_pos (val ds) with h | h
  ·have:=hlt.out;rw [h] at this;omega
  ·exact h
 go_wp2_with fail
 go_loopw [7,8] (fun gv bv wr=>∃ (gq:Nat) (be:Bool) (ts:List UInt32),gv = .int .u64 gq∧bv = .bool be∧gq≤4294967295∧Hid (val us / val ds≤gq)∧Hid (ts.length=L) ∧
  Hid (val ts+gq * val ds=val us+(if be then 4294967296 ^ L else 0))∧Row wr B g off cap ts∧Only g off (off+L) w wr) (fun gv _ _=>(intOf gv).toNat)
 case atStart =>
  refine ⟨G,be2,us2,rfl,rfl,hG1,hguess,hL2',?_,HR2.out,honly12⟩
  have:=HT2.out;unfold Taken at this;rw [hL.out] at this;exact this
 case round =>
  obtain ⟨gq,be,ts,rfl,rfl,hgq,HQ1,HL,HV,hrow,honly⟩:=hrel
  cases be
  ·have hfin:Hid (val us / val ds=gq∧val ts=val us % val ds):=by
    have h:=HV.out
    simp only [Bool.false_eq_true,if_false,Nat.add_zero] at h
    have h1:gq≤val us / val ds:=(Nat.le_div_iff_mul_le hD0.out).2 (by omega)
    have h2:=HQ1.out
    have h3:gq=val us / val ds:=by omega
    have h4:=Nat.div_add_mod (val us) (val ds)
    rw [← h3,Nat.mul_comm] at h4
    exact ⟨h3.symm,by omega⟩
   go_wp2_with fail
   go_ret
   refine ⟨ts,?_,HL,hrow,honly,hfin.out.2⟩
   rw [hfin.out.1]
   rfl
  ·have hgt:val us<gq * val ds:=by
    have h:=HV.out
    have h1:=val_lt ts
    rw [HL.out] at h1
    simp only [if_true] at h
    omega
   have hg1:1≤gq:=by
    rcases Nat.eq_zero_or_pos gq with h | h
    ·rw [h,Nat.zero_mul] at hgt;omega
    ·exact h
   have HGT:=Lib.hid hgt
   clear hgt
   have hrx:=hr.only honly
   go_wp2_with fail
   refine (addBack_any B g off L cap ts _ ds dc _ hrow HL hL1 hL2 hrx hd (by omega)).mono ?_;rintro e w3 ⟨us3,be3,rfl,hL3,hrow3,honly3,HA3⟩
   clear hrow hrx
   go_wp2_with fail
   go_roundw
   case rel =>
    refine ⟨gq - 1,!be3,us3,by go_num,rfl,by omega,?_,hL3,?_,hrow3,honly.trans honly3⟩
    ·have:val us / val ds<gq:=(Nat.div_lt_iff_lt_mul hD0.out).2 HGT.out
     unfold Hid;omega
    ·have h:=HV.out
     have h3:=HA3.out
     unfold Added at h3
     rw [HL.out] at h3
     have h4:gq * val ds=(gq - 1) * val ds+val ds:=by
      rw [← Nat.succ_mul];congr 1;omega
     unfold Hid
     cases be3 <;> simp at h h3 ⊢ <;> omega
   case measure=>simp [intOf];omega
end Go.Proofs.YtjggghfekakogaaGreatDoor
namespace Go.Proofs.YtjggghfekakogaaGreatDoor
open Go.RowKit
theorem Row.of_block {w:World} {B g:Nat} {xs:List UInt32} (h:w.heap[g]? = some (.cells (xs.map uv).toArray 202 (0,0))) (hB:B≤g) (hm:xs.length≤maxLen):Row w B g 0 xs.length xs:=by
 have hlt:g<w.heap.size:=by
  rcases Nat.lt_or_ge g w.heap.size with h' | h'
  ·exact h'
  ·rw [Array.getElem?_eq_none h'] at h;cases h
 refine ⟨hB,hlt,Nat.le_refl _,hm,fun j hj=>⟨?_,?_⟩,fun j hj=>?_⟩
 ·rw [Nat.zero_add,cell_of_row w g j _ _ (0,0) h];simp [hj]
 ·simp [World.frozen?,h]
 ·rw [Nat.zero_add,cell_of_row w g j _ _ (0,0) h];simp [hj]
section
variable {P:Program} (w:World) {ops:Array Oper} {rest:List Oper} {o:Oper} {a:Act} {Q:Exit→Act→World→Prop}
theorem wpList_mkw {t e:TypeId} {by_:Nat} (T:ElT P t e by_) (hz0:∀ i,P.info? e=some i→i.zero=some (uv 0)) (hgd:o.guard=none) (l c:Operand) (hop:o.op=Op.makeSlice t l c)
  (kl kc:IntKind) (N:Int) (hl:a.eval l = .int kl N) (hc:a.eval c = .int kc N) (h0:0≤N) (hby:by_ * N≤281474976710656) (hm:N≤281474976710656)
  (h:∀ g off w' (zs:List UInt32),Hid (off=0∧w'.heap[g]? = some (.cells (zs.map uv).toArray e (0,0)))→Hid (zs=List.replicate N.toNat 0)→(zs.length:Int)≤N→N≤(zs.length:Int)→Below w.heap.size w w'→w.heap.size≤g→wpList P ops Q rest (a.put o.dst (.slice (some ⟨g,off,none⟩) zs.length zs.length)) w'):wpList P ops Q (o :: rest) a w:=by
 obtain ⟨i,z,hi,hz,h1,h2,h3⟩:=T.inf
 obtain rfl:z=uv 0:=by have:=hz0 i hi;rw [hz] at this;injection this
 refine wpList_plain hgd fun K hK=>?_
 have hrun:=run_make (P:=P) w t e i (uv 0) T.ht hi hz kl kc N N h0 (Int.le_refl _) (by rw [h2];exact hby) (by omega)
 rw [h1,Nat.mul_one] at hrun
 have hmc:(madeCells (uv 0).cells N.toNat).toList=List.replicate N.toNat (uv 0):=by
  rw [show (uv 0).cells=#[uv 0] from rfl]
  apply List.ext_getElem
  ·simp [madeCells]
  ·intro j h1 h2
   simp [madeCells,Nat.mod_one]
 have hma:madeCells (uv 0).cells N.toNat=((List.replicate N.toNat (0:UInt32)).map uv).toArray:=by
  apply Array.toList_inj.1
  rw [hmc];simp
 have:=hK _ _ (h w.heap.size 0 (w.alloc (.cells (madeCells (uv 0).cells N.toNat) e)) (List.replicate N.toNat 0) ⟨rfl,by rw [← hma];exact heap_alloc_new w _⟩ rfl (by rw [List.length_replicate];omega) (by rw [List.length_replicate];omega) ((Below.refl _ w).alloc (Nat.le_refl _) _) (Nat.le_refl _))
 unfold Oper.wp execOp
 simp only [hop,Sem.run_bind,Sem.run_pure,Result.andThen_ok,hl,hc,hrun]
 simp only [List.length_replicate] at this
 exact this
theorem wpList_slR {t e:TypeId} {by_:Nat} (T:ElT P t e by_) (hgd:o.guard=none) (x pl ph:Operand) (ho:o.op = .slice t x (some pl) (some ph) none)
  (g off n c:Nat) (hx:a.eval x = .slice (some ⟨g,off,none⟩) n c) (hc:n≤c) (l m:Nat) (kl kh:IntKind) (li hi:Int) (hlo:a.eval pl = .int kl li) (hhi:a.eval ph = .int kh hi)
  (e1:li=l) (e2:hi=((l+m:Nat):Int)) (h0:0<m) (h2:l+m≤n)
  (hK:wpList P ops Q rest (a.put o.dst (.slice (some ⟨g,off+l,none⟩) m (c - l))) w):wpList P ops Q (o :: rest) a w:=by
 refine wpList_plain hgd fun K hK'=>?_
 subst e1 e2
 have hrun:=run_sl (P:=P) w T (A:=some ⟨g,off,none⟩) (n:=n) (c:=c) hc (some (a.eval pl)) (some (a.eval ph)) l (l+m:Nat) (by omega) (by omega) (by omega) (.inr ⟨kl,by rw [hlo]⟩) (.inr ⟨kh,by rw [hhi]⟩)
 have hs:Go.sliced (some ⟨g,off,none⟩) (l:Int).toNat ((l+m:Nat):Int).toNat c 1 = .slice (some ⟨g,off+l,none⟩) m (c - l):=by
  have:¬ c=l:=by omega
  simp only [Int.toNat_natCast]
  have e3:l+m - l=m:=by omega
  by_cases h0:l=0 <;> simp [Go.sliced,this,Addr.add,e3,h0]
  all_goals omega
 rw [hs] at hrun
 have:=hK' _ _ hK
 unfold Oper.wp execOp
 simp only [ho,Sem.run_bind,Sem.run_pure,Result.andThen_ok,hx]
 rw [show Option.map a.eval (some pl)=some (a.eval pl) from rfl,show Option.map a.eval (some ph)=some (a.eval ph) from rfl,show Option.map a.eval (none:Option Operand)=none from rfl,run_sliceAt_slice w t _ _ _ _ (by simp [Program.elem,T.ht]),hrun]
 exact this
end
end Go.Proofs.YtjggghfekakogaaGreatDoor
