/- Slices of one-cell elements as lists: what a call owns, what it reads, and how they last. Plain lemmas over any program. Numbers without end as lists of 32 bits each: what they are worth, and the one list that has no noughts behind. Plain lemmas. What a call owns at any offset of a block, and append onto it. Numbers as lists of words: plain lemmas that big and the document's answer share. A number that is read: the words in which contracts of big speak. -/
import Derived.WalkKit
import Derived.Lib.Hide
import Derived.Lib.ConvBytes
import Derived.Lib.AppendStr
import Derived.Maps.AppendAt
import Derived.Laws.BytesArg
import Derived.Deep.Draws
import Derived.OwnWalk
import Derived.Lib.SlBytesConst
import Derived.ArgAppend
import Derived.Lib.AppendZeros
import Derived.Lib.AppendZerosOnto
import Derived.Test.YtjggghfekakogaaGreatDoorProg
import Derived.WalkSpells
import Derived.Deep.DeepCutAuto
import Derived.Deep.QuietTactic
import Derived.BigQuiet
import Derived.RegionTactic
set_option linter.unusedVariables false
set_option linter.unusedSimpArgs false
set_option linter.unnecessarySimpa false
namespace Go.Proofs.YtjggghfekakogaaGreatDoor
open Go.RowKit
def bv (u:UInt8):Value:=.int .u8 (u.toNat:Int)
structure ElT (P:Program) (t e:TypeId) (bytes:Nat):Prop where
 ht:P.underlying t=some (.slice e)
 inf:∃ i z,P.info? e=some i∧i.zero=some z∧i.size=1∧i.bytes=bytes∧z.cells.size=1
section rows
variable {α:Type} {f:α→Value} {e:TypeId} {w w':World} {B B':Nat} {v:Value} {A:Option Addr} {xs ys:List α}
def Own (f:α→Value) (e:TypeId) (w:World) (B:Nat) (v:Value) (xs:List α):Prop:=w.ownsRow B e 1 v xs.length (xs.map f)
def Rd (f:α→Value) (w:World) (A:Option Addr) (xs:List α):Prop :=
 0<xs.length→∃ b off,A=some ⟨b,off,none⟩∧b<w.heap.size∧∀ j (h:j<xs.length),w.cell? ⟨b,off+j,none⟩=some (f xs[j])
theorem Rd.nil:Rd f w A ([]:List α):=fun h=>absurd h (by simp)
theorem Rd.keep (h:Rd f w A xs) (hs:w.heap.size≤w'.heap.size) (hk:∀ p:Addr,p.block<w.heap.size→w'.cell? p=w.cell? p):Rd f w' A xs:=fun hn=>by
 obtain ⟨b,off,e,hb,hc⟩:=h hn
 exact ⟨b,off,e,by omega,fun j hj=>(hk _ hb).trans (hc j hj)⟩
theorem Rd.below (h:Rd f w A xs) (hb:Below w.heap.size w w'):Rd f w' A xs:=h.keep hb.size fun _ hp=>hb.cell hp
theorem Rd.alloc (h:Rd f w A xs) (o:Obj):Rd f (w.alloc o) A xs:=h.below ((Below.refl _ _).alloc (Nat.le_refl _) o)
theorem Rd.at_ {k:Nat} (h:Rd f w A xs) (hk:k<xs.length):∃ b off,A=some ⟨b,off,none⟩∧b<w.heap.size∧w.cell? ⟨b,off+k,none⟩=some (f xs[k]):=by
 obtain ⟨b,off,e,hb,hc⟩:=h (by omega)
 exact ⟨b,off,e,hb,hc k hk⟩
theorem Rd.cast {xs':List α} (h:Rd f w A xs) (he:xs=xs'):Rd f w A xs':=he ▸ h
theorem Rd.cut {l h cap:Nat} (hr:Rd f w A xs) (hl:l≤h) (hh:h≤xs.length) (hc:xs.length≤cap) :
  Rd f w (if cap=l then A else A.map (·.add (l * 1))) ((xs.take h).drop l):=by
 intro hn
 simp only [List.length_drop,List.length_take] at hn
 obtain ⟨b,off,rfl,hb,hcell⟩:=hr (by omega)
 rw [if_neg (by omega)]
 refine ⟨b,off+l,?_,hb,fun j hj=>?_⟩
 ·by_cases h0:l=0 <;> simp [Addr.add,h0]
 ·simp only [List.length_drop,List.length_take] at hj
  rw [List.getElem_drop,List.getElem_take,Nat.add_assoc]
  exact hcell (l+j) (by omega)
theorem Rd.sliced {l h cap:Nat} (hr:Rd f w A xs) (hl:l≤h) (hh:h≤xs.length) (hc:xs.length≤cap) :
  ∃ A',sliced A l h cap 1 = .slice A' ((xs.take h).drop l).length (cap - l)∧Rd f w A' ((xs.take h).drop l):=by
 have e:((xs.take h).drop l).length=h - l:=by simp [List.length_drop,List.length_take];omega
 rcases A with _ | a
 ·refine ⟨none,?_,?_⟩
  ·simp [Go.sliced,e]
  ·intro hn;obtain ⟨b,off,h,_⟩:=hr (by omega);cases h
 ·have hc:=hr.cut hl hh hc
  by_cases hcl:cap=l
  ·rw [if_pos hcl] at hc
   refine ⟨_,?_,hc⟩
   simp [Go.sliced,e,hcl]
  ·rw [if_neg hcl] at hc
   refine ⟨_,?_,hc⟩
   simp [Go.sliced,e,hcl]
theorem Own.nil_:Own f e w B (.slice none 0 0) ([]:List α):=World.ownsRow_nil w B e 1
theorem Own.empty (w:World):Own f e (w.alloc (.cells #[] e)) w.heap.size (.slice (some ⟨w.heap.size,0,none⟩) 0 0) ([]:List α) :=
 World.ownsRow_made w #[] 0 (Nat.le_refl _) (Nat.zero_le _) rfl
theorem Own.alloc (h:Own f e w B v xs) (o:Obj):Own f e (w.alloc o) B v xs:=World.ownsRow.alloc h o
theorem Own.cast {xs':List α} (h:Own f e w B v xs) (he:xs=xs'):Own f e w B v xs':=he ▸ h
theorem Own.sl (h:Own f e w B v xs):∃ A c,v = .slice A xs.length c∧xs.length≤c∧c≤maxLen∧Rd f w A xs:=by
 obtain ⟨h1,h2⟩:=h
 rcases h2 with ⟨rfl,h0⟩ | ⟨g,cap,cur,rfl,hg,hh,hn,hm,hs,ht⟩
 ·have:xs=[]:=List.eq_nil_of_length_eq_zero h0
  subst this
  exact ⟨none,0,rfl,Nat.le_refl _,Nat.zero_le _,Rd.nil⟩
 ·refine ⟨_,cap,rfl,hn,hm,fun _=>⟨g,0,rfl,?_,fun j hj=>?_⟩⟩
  ·rcases Nat.lt_or_ge g w.heap.size with h | h
   ·exact h
   ·rw [Array.getElem?_eq_none h] at hh;cases hh
  ·have hj':(xs.map f)[j]? = some (f xs[j]):=by simp [hj]
   have hcj:cur[j]? = some (f xs[j]):=by
    rw [← ht,List.getElem?_take] at hj'
    split at hj'
    ·simpa using hj'
    ·cases hj'
   rw [Nat.zero_add]
   rw [cell_of_row w g j cur e (0,0) hh]
   exact hcj
theorem Own.below (h:Own f e w B v xs) (hb:Below w.heap.size w w'):Own f e w' B v xs:=by
 obtain ⟨h1,h2⟩:=h
 refine ⟨h1,?_⟩
 rcases h2 with h2 | ⟨g,cap,cur,hv,hg,hh,r⟩
 ·exact .inl h2
 ·refine .inr ⟨g,cap,cur,hv,hg,?_,r⟩
  rw [hb.block g ?_];exact hh
  rcases Nat.lt_or_ge g w.heap.size with h | h
  ·exact h
  ·rw [Array.getElem?_eq_none h] at hh;cases hh
end rows
section laws
variable {α:Type} {f:α→Value} {P:Program} (w:World) {ops:Array Oper} {rest:List Oper} {o:Oper} {a:Act} {Q:Exit→Act→World→Prop}
theorem strCells_bv (s:ByteArray):Lib.strCells s=s.data.toList.map bv:=rfl
structure Cut (f:α→Value) (w:World) (xs:List α) (l h:Int) (A:Option Addr) (ys:List α):Prop where
 rd:Rd f w A ys
 eq:Hid (ys=(xs.take h.toNat).drop l.toNat)
 lo:(ys.length:Int)≤h - l
 hi:h - l≤(ys.length:Int)
theorem run_sl {t e:TypeId} {by_:Nat} {A:Option Addr} {n c:Nat} (T:ElT P t e by_) (hc:n≤c) (lo hi:Option Value) (l h:Int) (h0:0≤l) (h1:l≤h) (h2:h≤n)
  (hlo:lo=none∧l=0∨∃ k,lo=some (.int k l)) (hhi:hi=none∧h=n∨∃ k,hi=some (.int k h)) :
  (Instr.slice t (.slice A n c) lo hi none).run P w = .ok (Go.sliced A l.toNat h.toNat c 1) w:=by
 obtain ⟨i,z,hi',hz,h3,h4,h5⟩:=T.inf
 have hsz:(sizeOf (P.elem t)).run P w = .ok 1 w:=by simp [sizeOf,typeInfo,Program.elem,T.ht,hi',h3]
 have ht':P.underlying t=some (.slice (P.elem t)):=by simp [Program.elem,T.ht]
 rcases hlo with ⟨rfl,rfl⟩ | ⟨kl,rfl⟩ <;> rcases hhi with ⟨rfl,rfl⟩ | ⟨kh,rfl⟩
 ·rw [run_slice_all (ht:=ht')];simp [hsz]
 ·rw [run_slice_h (ht:=ht') (h0:=by omega) (h2:=by omega)];simp [hsz]
 ·rw [run_slice_l (ht:=ht') (h0:=by omega) (h1:=by omega)];simp [hsz]
 ·rw [run_slice_lh (ht:=ht') (h0:=by omega) (h1:=by omega) (h2:=by omega)];simp [hsz]
theorem cut_of {t e:TypeId} {by_:Nat} {A:Option Addr} {xs:List α} {c:Nat} (T:ElT P t e by_) (hr:Rd f w A xs) (hc:xs.length≤c) (lo hi:Option Value) (l h:Int) (h0:0≤l) (h1:l≤h) (h2:h≤xs.length)
  (hlo:lo=none∧l=0∨∃ k,lo=some (.int k l)) (hhi:hi=none∧h=xs.length∨∃ k,hi=some (.int k h)) :
  ∃ A' ys c',(Instr.slice t (.slice A xs.length c) lo hi none).run P w = .ok (.slice A' ys.length c') w∧Cut f w xs l h A' ys∧(ys.length:Int)≤c'∧(c':Int)≤c:=by
 obtain ⟨i,z,hi',hz,h3,h4,h5⟩:=T.inf
 have hlen:((xs.take h.toNat).drop l.toNat).length=h.toNat - l.toNat:=by simp [List.length_drop,List.length_take];omega
 obtain ⟨A',e1,hr'⟩:=hr.sliced (l:=l.toNat) (h:=h.toNat) (cap:=c) (by omega) (by omega) (by omega)
 refine ⟨A',(xs.take h.toNat).drop l.toNat,c - l.toNat,?_,⟨hr',rfl,by omega,by omega⟩,by omega,by omega⟩
 rw [← e1]
 exact run_sl w T hc lo hi l h h0 h1 h2 hlo hhi
theorem wpList_sl {t e:TypeId} {by_:Nat} (T:ElT P t e by_) (hgd:o.guard=none) (x:Operand) (lo hi:Option Operand) (ho:o.op = .slice t x lo hi none)
  (A:Option Addr) (xs:List α) (c:Nat) (hx:a.eval x = .slice A xs.length c) (hr:Rd f w A xs) (hc:xs.length≤c)
  (l h:Int) (hlo:lo=none∧l=0∨∃ k p,lo=some p∧a.eval p = .int k l) (hhi:hi=none∧h=xs.length∨∃ k p,hi=some p∧a.eval p = .int k h)
  (h0:0≤l) (h1:l≤h) (h2:h≤xs.length)
  (h:∀ A' ys c',Cut f w xs l h A' ys→ys.length≤c'→c'≤c→wpList P ops Q rest (a.put o.dst (.slice A' ys.length c')) w):wpList P ops Q (o :: rest) a w:=by
 refine wpList_plain hgd fun K hK=>?_
 obtain ⟨A',ys,c',hrun,hcut,h3,h4⟩:=cut_of (P:=P) w T hr hc (lo.map a.eval) (hi.map a.eval) l _ h0 h1 h2
  (by
    rcases hlo with ⟨rfl,e⟩ | ⟨k,p,rfl,e⟩
    ·exact .inl ⟨rfl,e⟩
    ·exact .inr ⟨k,by simp [e]⟩)
  (by
    rcases hhi with ⟨rfl,e⟩ | ⟨k,p,rfl,e⟩
    ·exact .inl ⟨rfl,e⟩
    ·exact .inr ⟨k,by simp [e]⟩)
 have:=hK _ _ (h A' ys c' hcut (by omega) (by omega))
 unfold Oper.wp execOp
 simp only [ho,Sem.run_bind,Sem.run_pure,Result.andThen_ok,hx]
 rw [show (Option.map a.eval (none:Option Operand))=none from rfl,run_sliceAt_slice w t _ _ _ _ (by simp [Program.elem,T.ht]),hrun]
 exact this
theorem conv_str {A:Option Addr} {xs:List UInt8} (src dst e:TypeId) (hs:P.underlying src=some (.slice e)) (he:P.underlying e=some (.int .u8)) (hd:P.underlying dst=some .string)
  (hr:Rd bv w A xs) (c:Nat):(convert src dst (.slice A xs.length c)).run P w = .ok (.string ⟨xs.toArray⟩) w:=by
 rcases A with _ | a
 ·have h0:xs=[]:=by
   rcases Nat.eq_zero_or_pos xs.length with h | h
   ·exact List.eq_nil_of_length_eq_zero h
   ·obtain ⟨_,_,h,_⟩:=hr h;cases h
  subst h0
  exact run_convert_bytes_nil w src e hs he _ _ dst hd
 ·by_cases h0:xs.length=0
  ·have:xs=[]:=List.eq_nil_of_length_eq_zero h0
   subst this
   rw [run_convert_bytes_string w src dst e _ _ c hs he hd]
   simp [Conv.bytesToString,loadCells,loadCellsFrom]
   rfl
  ·obtain ⟨b,off,hA,hb,hc⟩:=hr (by omega)
   injection hA with hA
   subst hA
   have:=run_convert_bytes_arg w src e hs he b off xs.length c (xs.map fun u=>(u.toNat:Int)) (by simp) (fun i hi=>by
    rw [hc i hi];simp [List.getD,hi,bv]) dst hd
   rw [this]
   congr 2
   simp [strOfNums,Function.comp_def]
theorem wpList_str {src dst e:TypeId} (hgd:o.guard=none) (x:Operand) (ho:o.op = .convert src dst x) (hs:P.underlying src=some (.slice e)) (he:P.underlying e=some (.int .u8)) (hd:P.underlying dst=some .string)
  (A:Option Addr) (xs:List UInt8) (c:Nat) (hx:a.eval x = .slice A xs.length c) (hr:Rd bv w A xs)
  (h:∀ s:ByteArray,Hid (s=⟨xs.toArray⟩)→s.size≤xs.length→xs.length≤s.size→wpList P ops Q rest (a.put o.dst (.string s)) w):wpList P ops Q (o :: rest) a w:=by
 refine wpList_plain hgd fun K hK=>?_
 have hrun:=conv_str (P:=P) w src dst e hs he hd hr c
 have:=hK _ _ (h ⟨xs.toArray⟩ rfl (by simp [ByteArray.size]) (by simp [ByteArray.size]))
 unfold Oper.wp execOp
 simp only [ho,Sem.run_bind,Sem.run_pure,Result.andThen_ok,hx,hrun]
 exact this
end laws
theorem nx {a b c:World} (h:Below a.heap.size a b) (k:Below b.heap.size b c):Below a.heap.size a c:=h.trans (k.mono h.size)
theorem nxa {a b:World} (h:Below a.heap.size a b) (o:Obj):Below a.heap.size a (b.alloc o):=h.alloc h.size o
theorem nx0 (a:World) (o:Obj):Below a.heap.size a (a.alloc o):=(Below.refl _ _).alloc (Nat.le_refl _) o
theorem Rd.one {α:Type} {f:α→Value} {w:World} {e:TypeId} {V:Value} {x:α} {g:Nat} (h:V=f x) (hg:g=w.heap.size):Rd f (w.alloc (.cells #[V] e)) (some ⟨g,0,none⟩) [x]:=by
 subst hg
 intro _
 refine ⟨_,_,rfl,by simp,fun j hj=>?_⟩
 have:j=0:=by simpa using hj
 subst this
 rw [World.cell?_alloc_at _ _ _ _ (by simp)]
 simp [h]
end Go.Proofs.YtjggghfekakogaaGreatDoor
namespace Go.Proofs.YtjggghfekakogaaGreatDoor
open Go.RowKit
def uv (x:UInt32):Value:=.int .u32 (x.toNat:Int)
theorem uv_ofNat (n:Nat) (k:Int) (h:k=((n % 4294967296:Nat):Int)):Value.int .u32 k=uv (UInt32.ofNat n):=by
 subst h;simp [uv,UInt32.toNat_ofNat]
def val:List UInt32→Nat
 | []=>0
 | x :: l=>x.toNat+4294967296 * val l
theorem val_cons (x:UInt32) (l:List UInt32):val (x :: l)=x.toNat+4294967296 * val l:=rfl
theorem val_append (l m:List UInt32):val (l++m)=val l+4294967296 ^ l.length * val m:=by
 induction l with
 | nil=>simp [val]
 | cons x l ih =>
  rw [List.cons_append,val_cons,ih,val_cons,List.length_cons,Nat.pow_succ,Nat.mul_add,Nat.mul_comm (4294967296 ^ l.length) 4294967296,Nat.mul_assoc]
  omega
theorem val_lt (l:List UInt32):val l<4294967296 ^ l.length:=by
 induction l with
 | nil=>simp [val]
 | cons x l ih =>
  have hx:x.toNat<4294967296:=x.toNat_lt
  rw [val_cons,List.length_cons,Nat.pow_succ]
  generalize 4294967296 ^ l.length=P at *
  omega
theorem val_zeros (n:Nat):val (List.replicate n 0)=0:=by
 induction n with
 | zero=>rfl
 | succ n ih=>rw [List.replicate_succ,val_cons,ih];rfl
theorem val_entry (l:List UInt32) (i:Nat):(l.getD i 0).toNat=val l / 4294967296 ^ i % 4294967296:=by
 induction l generalizing i with
 | nil=>simp [val]
 | cons x l ih =>
  have hx:x.toNat<4294967296:=x.toNat_lt
  cases i with
  | zero=>rw [val_cons];simp
  | succ i =>
   rw [val_cons,Nat.pow_succ,Nat.mul_comm (4294967296 ^ i),← Nat.div_div_eq_div_mul]
   have:(x.toNat+4294967296 * val l) / 4294967296=val l:=by omega
   rw [this,← ih];rfl
def Canon (l:List UInt32):Prop:=∀ h:l≠[],l.getLast h≠0
theorem canon_nil:Canon []:=fun h=>absurd rfl h
theorem canon_tail {x:UInt32} {l:List UInt32} (h:Canon (x :: l)):Canon l:=fun hl=>by
 have:=h (by simp)
 rwa [List.getLast_cons hl] at this
theorem canon_zero {l:List UInt32} (h:Canon l) (h0:val l=0):l=[]:=by
 induction l with
 | nil=>rfl
 | cons x l ih =>
  rw [val_cons] at h0
  have h1:=ih (canon_tail h) (by omega)
  subst h1
  exfalso
  apply h (by simp)
  have hx:x.toNat=0:=by omega
  exact UInt32.toNat_inj.1 hx
theorem canon_one:∀ (l m:List UInt32),Canon l→Canon m→val l=val m→l=m
 | [],m,_,hm,h=>(canon_zero hm h.symm).symm
 | l,[],hl,_,h=>canon_zero hl h
 | x :: l,y :: m,hl,hm,h=>by
  have hx:x.toNat<4294967296:=x.toNat_lt
  have hy:y.toNat<4294967296:=y.toNat_lt
  rw [val_cons,val_cons] at h
  have h1:x.toNat=y.toNat:=by omega
  rw [UInt32.toNat_inj.1 h1,canon_one l m (canon_tail hl) (canon_tail hm) (by omega)]
def limbsF:Nat→Nat→List UInt32
 | 0,_=>[]
 | f+1,n=>if n=0 then [] else UInt32.ofNat n :: limbsF f (n / 4294967296)
def limbs (n:Nat):List UInt32:=limbsF n n
theorem limbsF_spec (f n:Nat) (h:n≤f):val (limbsF f n)=n∧Canon (limbsF f n):=by
 induction f generalizing n with
 | zero =>
   obtain rfl:n=0:=by omega
   exact ⟨rfl,canon_nil⟩
 | succ f ih =>
  unfold limbsF
  by_cases h0:n=0
  ·rw [if_pos h0];exact ⟨h0.symm,canon_nil⟩
  ·rw [if_neg h0]
   obtain ⟨h1,h2⟩:=ih (n / 4294967296) (by omega)
   have hn:(UInt32.ofNat n).toNat=n % 4294967296:=UInt32.toNat_ofNat'
   refine ⟨by rw [val_cons,h1,hn];omega,fun hne=>?_⟩
   by_cases hl:limbsF f (n / 4294967296)=[]
   ·simp only [hl,List.getLast_singleton]
    rw [hl] at h1
    have h1':n / 4294967296=0:=h1.symm
    intro e
    have:=congrArg UInt32.toNat e
    rw [hn] at this
    have:n % 4294967296=0:=this
    omega
   ·rw [List.getLast_cons hl];exact h2 hl
theorem val_limbs (n:Nat):val (limbs n)=n:=(limbsF_spec n n (Nat.le_refl _)).1
theorem canon_limbs (n:Nat):Canon (limbs n):=(limbsF_spec n n (Nat.le_refl _)).2
theorem limbs_val {l:List UInt32} (h:Canon l):l=limbs (val l):=canon_one _ _ h (canon_limbs _) (val_limbs _).symm
theorem limbs_zero:limbs 0=[]:=rfl
theorem take_limbs (l:List UInt32) (n:Nat) (hn:n≤l.length) (hz:∀ j,n≤j→l.getD j 0=0) (hl:n=0∨l.getD (n - 1) 0≠0):l.take n=limbs (val l):=by
 have hv:val (l.take n)=val l:=by
  have h1:l=l.take n++l.drop n:=(List.take_append_drop n l).symm
  have h2:l.drop n=List.replicate (l.length - n) 0:=by
   apply List.ext_getElem
   ·simp
   ·intro i h3 h4
    rw [List.getElem_drop,List.getElem_replicate]
    have:=hz (n+i) (by omega)
    rw [List.length_drop] at h3
    rw [List.getD,List.getElem?_eq_getElem (by omega)] at this
    exact this
  rw [h2] at h1
  have h3:=congrArg val h1
  rw [val_append,val_zeros] at h3
  omega
 rw [← hv]
 refine limbs_val fun hne=>?_
 rcases hl with rfl | hl
 ·simp at hne
 ·have h0:0<n:=by
   rcases Nat.eq_zero_or_pos n with h | h
   ·subst h;simp at hne
   ·exact h
  rw [List.getLast_eq_getElem,List.getElem_take]
  rw [List.getD,List.getElem?_eq_getElem (by omega)] at hl
  simpa [List.length_take,Nat.min_eq_left hn] using hl
theorem limbs_len (n k:Nat) (h:n<4294967296 ^ k):(limbs n).length≤k:=by
 rcases Nat.lt_or_ge k (limbs n).length with hlt | hge
 ·exfalso
  have hne:limbs n≠[]:=by intro e;rw [e] at hlt;simp at hlt
  have hc:=canon_limbs n hne
  have he:=val_entry (limbs n) ((limbs n).length - 1)
  rw [val_limbs,List.getD,List.getElem?_eq_getElem (by omega)] at he
  have hp:n / 4294967296 ^ ((limbs n).length - 1)=0:=Nat.div_eq_of_lt (Nat.lt_of_lt_of_le h (Nat.pow_le_pow_right (by decide) (by omega)))
  rw [hp] at he
  apply hc
  rw [List.getLast_eq_getElem]
  have he':((limbs n)[(limbs n).length - 1]'(by omega)).toNat=0:=he
  exact UInt32.toNat_inj.1 he'
 ·exact hge
end Go.Proofs.YtjggghfekakogaaGreatDoor
namespace Go.Proofs.YtjggghfekakogaaGreatDoor
open Go.RowKit
section rows
variable {α:Type} {f:α→Value} {e:TypeId} {w w':World} {B:Nat} {v:Value} {xs ys:List α}
def OwnG (f:α→Value) (w:World) (B:Nat) (v:Value) (xs:List α):Prop :=
 (v = .slice none 0 0∧xs=[]) ∨
 ∃ g off cap,v = .slice (some ⟨g,off,none⟩) xs.length cap∧B≤g∧g<w.heap.size∧xs.length≤cap∧cap≤maxLen ∧
  (∀ j,j<cap→(w.cell? ⟨g,off+j,none⟩).isSome=true∧w.frozen? ⟨g,off+j,none⟩=false) ∧
  ∀ j (h:j<xs.length),w.cell? ⟨g,off+j,none⟩=some (f xs[j])
theorem Own.gen (h:Own f e w B v xs):OwnG f w B v xs:=by
 have h':=h
 obtain ⟨h1,h2⟩:=h
 rcases h2 with ⟨rfl,h0⟩ | ⟨g,cap,cur,rfl,hg,hh,hn,hm,hs,ht⟩
 ·exact .inl ⟨rfl,List.eq_nil_of_length_eq_zero h0⟩
 ·have hlt:g<w.heap.size:=by
   rcases Nat.lt_or_ge g w.heap.size with h | h
   ·exact h
   ·rw [Array.getElem?_eq_none h] at hh;cases hh
  refine .inr ⟨g,0,cap,rfl,hg,hlt,hn,hm,fun j hj=>⟨?_,?_⟩,fun j hj=>?_⟩
  ·rw [Nat.zero_add,cell_of_row w g j cur e (0,0) hh]
   have:j<cur.size:=by omega
   simp [this]
  ·simp [World.frozen?,hh]
  ·have hj':(xs.map f)[j]? = some (f xs[j]):=by simp [hj]
   have hcj:cur[j]? = some (f xs[j]):=by
    rw [← ht,List.getElem?_take] at hj'
    split at hj'
    ·simpa using hj'
    ·cases hj'
   rw [Nat.zero_add,cell_of_row w g j cur e (0,0) hh]
   exact hcj
theorem OwnG.sl (h:OwnG f w B v xs):∃ A c,v = .slice A xs.length c∧xs.length≤c∧c≤maxLen∧Rd f w A xs:=by
 rcases h with ⟨rfl,rfl⟩ | ⟨g,off,cap,rfl,hB,hg,hn,hm,hs,hc⟩
 ·exact ⟨none,0,rfl,Nat.le_refl _,Nat.zero_le _,Rd.nil⟩
 ·exact ⟨_,cap,rfl,hn,hm,fun _=>⟨g,off,rfl,hg,hc⟩⟩
theorem OwnG.below (h:OwnG f w B v xs) (hb:Below w.heap.size w w'):OwnG f w' B v xs:=by
 rcases h with h | ⟨g,off,cap,rfl,hB,hg,hn,hm,hs,hc⟩
 ·exact .inl h
 ·refine .inr ⟨g,off,cap,rfl,hB,Nat.lt_of_lt_of_le hg hb.size,hn,hm,fun j hj=>?_,fun j hj=>?_⟩
  ·rw [hb.cell (p:=⟨g,off+j,none⟩) hg,hb.frozen (p:=⟨g,off+j,none⟩) hg];exact hs j hj
  ·rw [hb.cell (p:=⟨g,off+j,none⟩) hg];exact hc j hj
theorem OwnG.cast {xs':List α} (h:OwnG f w B v xs) (he:xs=xs'):OwnG f w B v xs':=he ▸ h
theorem OwnG.cut {A:Option Addr} {c:Nat} (h:OwnG f w B (.slice A xs.length c) xs) {l h':Nat} (hl:l≤h') (hh:h'≤xs.length) :
  ∃ A' c',Go.sliced A l h' c 1 = .slice A' ((xs.take h').drop l).length c'∧OwnG f w B (.slice A' ((xs.take h').drop l).length c') ((xs.take h').drop l):=by
 have e0:((xs.take h').drop l).length=h' - l:=by simp [List.length_drop,List.length_take];omega
 rcases h with ⟨h1,rfl⟩ | ⟨g,off,cap,h1,hB,hg,hn,hm,hs,hc⟩
 ·cases h1
  obtain rfl:h'=0:=by simpa using hh
  obtain rfl:l=0:=by omega
  exact ⟨none,0,by simp [Go.sliced],.inl ⟨rfl,rfl⟩⟩
 ·cases h1
  by_cases hcl:c=l
  ·have hz:(xs.take h').drop l=[]:=by
    apply List.eq_nil_of_length_eq_zero;omega
   refine ⟨some ⟨g,off,none⟩,0,by simp [Go.sliced,e0,hcl],.inr ⟨g,off,0,by simp,hB,hg,by simp [hz],by simp [maxLen],fun j hj=>by omega,fun j hj=>by simp [hz] at hj⟩⟩
  ·refine ⟨some ⟨g,off+l,none⟩,c - l,?_,.inr ⟨g,off+l,c - l,rfl,hB,hg,by omega,by omega,fun j hj=>?_,fun j hj=>?_⟩⟩
   ·simp [Go.sliced,e0,hcl,Addr.add]
   ·rw [Nat.add_assoc];exact hs (l+j) (by omega)
   ·rw [List.getElem_drop,List.getElem_take,Nat.add_assoc]
    exact hc (l+j) (by omega)
theorem OwnG.set_ {g off cap:Nat} {i:Nat} {y:α} (h:OwnG f w B (.slice (some ⟨g,off,none⟩) xs.length cap) xs) (hi:i<xs.length) :
  OwnG f (w.setCell ⟨g,off+i,none⟩ (f y)) B (.slice (some ⟨g,off,none⟩) (xs.set i y).length cap) (xs.set i y):=by
 rcases h with ⟨h1,_⟩ | ⟨g',off',cap',h1,hB,hg,hn,hm,hs,hc⟩
 ·cases h1
 ·cases h1
  refine .inr ⟨g,off,cap,rfl,hB,by simpa [World.setCell] using hg,by simpa using hn,hm,fun j hj=>⟨?_,?_⟩,fun j hj=>?_⟩
  ·by_cases hij:j=i
   ·subst hij
    obtain ⟨u,hu⟩:=Option.isSome_iff_exists.1 (hs j hj).1
    rw [World.cell?_setCell_same w _ _ hu];rfl
   ·rw [World.cell?_setCell_other _ _ _ _ (by simp only [ne_eq,Addr.mk.injEq];omega)];exact (hs j hj).1
  ·rw [World.frozen?_setCell];exact (hs j hj).2
  ·rw [List.length_set] at hj
   by_cases hij:j=i
   ·subst hij
    rw [World.cell?_setCell_same w _ _ (hc j hi)]
    simp
   ·rw [World.cell?_setCell_other _ _ _ _ (by simp only [ne_eq,Addr.mk.injEq];omega),hc j hj]
    rw [List.getElem_set_ne (by omega)]
end rows
section laws
variable {α:Type} {f:α→Value} {P:Program} (w:World) {ops:Array Oper} {rest:List Oper} {o:Oper} {a:Act} {Q:Exit→Act→World→Prop}
end laws
end Go.Proofs.YtjggghfekakogaaGreatDoor
namespace Go.Proofs.YtjggghfekakogaaGreatDoor
open Go.RowKit
theorem info_u32:(Tryz.prog.info? 202).map (fun i=>(i.zero,i.size,i.bytes))=some (some (.int .u32 0),1,4):=by kernel_rfl
theorem uT:ElT Tryz.prog 175 202 4:=by
 obtain ⟨i,h1,h2,h3,h4⟩:=info_parts info_u32
 exact ⟨Tryz.underlying175,i,_,h1,h2,h3,h4,rfl⟩
def ent (l:List UInt32) (i:Nat):Nat:=(l.getD i 0).toNat
theorem ent_le (l:List UInt32) (i:Nat):(ent l i:Int)≤4294967295:=by
 have:=(l.getD i 0).toNat_lt;unfold ent;omega
theorem ent_val (l:List UInt32) (i:Nat):ent l i=val l / 4294967296 ^ i % 4294967296:=val_entry l i
theorem Rd.litsU {w:World} {e:TypeId} {g:Nat} (xs:List UInt32) (hg:g=w.heap.size):Rd uv (w.alloc (.cells (xs.map uv).toArray e)) (some ⟨g,0,none⟩) xs:=by
 subst hg
 intro _
 refine ⟨_,_,rfl,by simp,fun j hj=>?_⟩
 rw [World.cell?_alloc_at _ _ _ _ rfl]
 simp [hj]
theorem digits_ext:∀ (k a b:Nat),a<4294967296 ^ k→b<4294967296 ^ k→(∀ j,a / 4294967296 ^ j % 4294967296=b / 4294967296 ^ j % 4294967296)→a=b
 | 0,a,b,ha,hb,_=>by simp at ha hb;omega
 | k+1,a,b,ha,hb,h=>by
  have h0:=h 0
  rw [Nat.pow_zero,Nat.div_one,Nat.div_one] at h0
  have h1:a / 4294967296=b / 4294967296:=by
   rw [Nat.pow_succ] at ha hb
   refine digits_ext k _ _ (Nat.div_lt_of_lt_mul (by omega)) (Nat.div_lt_of_lt_mul (by omega)) fun j=>?_
   have:=h (j+1)
   rw [Nat.pow_succ,Nat.mul_comm (4294967296 ^ j),← Nat.div_div_eq_div_mul,← Nat.div_div_eq_div_mul] at this
   exact this
  omega
theorem high_ext (xs ys:List UInt32) (m:Nat) (h:∀ j,m≤j→ent xs j=ent ys j):val xs / 4294967296 ^ m=val ys / 4294967296 ^ m:=by
 have hx:=val_lt xs
 have hy:=val_lt ys
 refine digits_ext (xs.length+ys.length) _ _ ?_ ?_ fun j=>?_
 ·exact Nat.lt_of_le_of_lt (Nat.div_le_self _ _) (Nat.lt_of_lt_of_le hx (Nat.pow_le_pow_right (by decide) (by omega)))
 ·exact Nat.lt_of_le_of_lt (Nat.div_le_self _ _) (Nat.lt_of_lt_of_le hy (Nat.pow_le_pow_right (by decide) (by omega)))
 ·have:=h (m+j) (by omega)
  rw [ent_val,ent_val,Nat.pow_add,← Nat.div_div_eq_div_mul,← Nat.div_div_eq_div_mul] at this
  exact this
theorem val_ext (xs ys:List UInt32) (h:∀ j,ent xs j=ent ys j):val xs=val ys:=by
 simpa using high_ext xs ys 0 fun j _=>h j
theorem val_less (xs ys:List UInt32) (m:Nat) (h:∀ j,m+1≤j→ent xs j=ent ys j) (hlt:ent xs m<ent ys m):val xs<val ys:=by
 have h1:=high_ext xs ys (m+1) h
 rw [ent_val,ent_val] at hlt
 rw [Nat.pow_succ,← Nat.div_div_eq_div_mul,← Nat.div_div_eq_div_mul] at h1
 have h2:val xs / 4294967296 ^ m<val ys / 4294967296 ^ m:=by
  generalize val xs / 4294967296 ^ m=a at *
  generalize val ys / 4294967296 ^ m=b at *
  omega
 rcases Nat.lt_or_ge (val xs) (val ys) with h | h
 ·exact h
 ·have:=Nat.div_le_div_right (c:=4294967296 ^ m) h
  omega
def cmpI (a b:Nat):Int:=if a<b then -1 else if b<a then 1 else 0
theorem val_snoc (l:List UInt32) (x:UInt32):val (l++[x])=val l+4294967296 ^ l.length * x.toNat:=by
 rw [val_append,val_cons];simp [val]
theorem uZ:∀ i,Tryz.prog.info? 202 = some i→i.zero=some (uv 0):=by
 obtain ⟨i,h1,h2,h3,h4⟩:=info_parts info_u32
 intro j hj
 rw [h1] at hj;cases hj;exact h2
theorem val_set (l:List UInt32) (i:Nat) (hi:i<l.length) (y:UInt32):val (l.set i y)+4294967296 ^ i * (l.getD i 0).toNat=val l+4294967296 ^ i * y.toNat:=by
 induction l generalizing i with
 | nil=>simp at hi
 | cons x l ih =>
  cases i with
  | zero=>simp [val];omega
  | succ i =>
   have:=ih i (by simpa using hi)
   simp only [List.set_cons_succ,val_cons,List.getD_cons_succ,Nat.pow_succ,Nat.mul_comm (4294967296 ^ i) 4294967296,Nat.mul_assoc]
   generalize 4294967296 ^ i * (l.getD i 0).toNat=p at *
   generalize 4294967296 ^ i * y.toNat=q at *
   omega
theorem mul_step (V V' cc P Pi T a b o S:Nat) (Y Pk:Nat) (hP:P=Pi * Pk) (hS:S=cc+o+a * b) (hb:b=Y / Pk % 4294967296) (hV:V'+P * o=V+P * (S % 4294967296)) (h:V+cc * P=T+a * (Y % Pk) * Pi) :
  V'+S / 4294967296 * (P * 4294967296)=T+a * (Y % (Pk * 4294967296)) * Pi:=by
 rw [Nat.mod_mul,← hb]
 have h1:P * S=P * (S % 4294967296)+S / 4294967296 * (P * 4294967296):=by
  have:=Nat.div_add_mod S 4294967296
  have h2:P * S=P * (4294967296 * (S / 4294967296)+S % 4294967296):=by rw [this]
  rw [h2,Nat.mul_add,Nat.add_comm,← Nat.mul_assoc,Nat.mul_comm (P * 4294967296)]
 have h3:P * S=cc * P+P * o+a * b * P:=by rw [hS,Nat.mul_add,Nat.mul_add,Nat.mul_comm P cc,Nat.mul_comm P (a * b)]
 have h4:a * (Y % Pk+Pk * b) * Pi=a * (Y % Pk) * Pi+a * b * P:=by
  rw [hP,Nat.mul_add,Nat.add_mul]
  congr 1
  rw [Nat.mul_comm Pk b,← Nat.mul_assoc,Nat.mul_assoc (a * b),Nat.mul_comm Pk Pi]
 omega
theorem bits_unique (n k:Nat) (h1:n<2 ^ k) (h2:k=0∨2 ^ (k - 1)≤n):k=if n=0 then 0 else Nat.log2 n+1:=by
 by_cases hn:n=0
 ·subst hn
  rw [if_pos rfl]
  rcases h2 with h | h
  ·exact h
  ·have:=Nat.pow_pos (n:=k - 1) (show 0<2 by decide);omega
 ·rw [if_neg hn]
  rcases h2 with h | h
  ·subst h;simp at h1;omega
  ·have a1:k≠0:=by rintro rfl;simp at h1;omega
   have a2:Nat.log2 n<k:=(Nat.log2_lt hn).2 h1
   have a3:k - 1≤Nat.log2 n:=(Nat.le_log2 hn).2 h
   omega
def blen (n:Nat):Nat:=if n=0 then 0 else Nat.log2 n+1
theorem pow_split (p:Nat):4294967296 ^ (p / 32) * 2 ^ (p % 32)=2 ^ p:=by
 rw [show (4294967296:Nat)=2 ^ 32 from rfl,← Nat.pow_mul,← Nat.pow_add];congr 1;omega
end Go.Proofs.YtjggghfekakogaaGreatDoor
namespace Go.Proofs.YtjggghfekakogaaGreatDoor
open Go.RowKit
def IsNum (w:World) (v:Value) (n:Nat):Prop:=∃ A c ys,v = .slice A ys.length c∧Rd uv w A ys∧ys.length≤c∧c≤maxLen∧Hid (ys=limbs n)
theorem IsNum.below {w w':World} {v:Value} {n:Nat} (h:IsNum w v n) (hb:Below w.heap.size w w'):IsNum w' v n:=by
 obtain ⟨A,c,ys,h1,h2,h3⟩:=h
 exact ⟨A,c,ys,h1,h2.below hb,h3⟩
theorem IsNum.cast {w:World} {v:Value} {n m:Nat} (h:IsNum w v n) (e:n=m):IsNum w v m:=e ▸ h
theorem IsNum.zero (w:World):IsNum w (.slice none 0 0) 0:=⟨none,0,[],rfl,Rd.nil,Nat.le_refl _,Nat.zero_le _,rfl⟩
theorem IsNum.open_ {w:World} {v:Value} {n:Nat} (h:IsNum w v n) (k:Nat) (hk:n<4294967296 ^ k):∃ A c ys,v = .slice A ys.length c∧Rd uv w A ys∧ys.length≤c∧c≤maxLen∧ys.length≤k∧Hid (ys=limbs n)∧Hid (val ys=n):=by
 obtain ⟨A,c,ys,h1,h2,h3,h4,h5⟩:=h
 refine ⟨A,c,ys,h1,h2,h3,h4,?_,h5,?_⟩
 ·rw [h5.out];exact limbs_len _ _ hk
 ·unfold Hid;rw [h5.out,val_limbs]
def Num (w:World) (v:Value) (n K:Nat):Prop:=∃ A c ys,v = .slice A ys.length c∧Rd uv w A ys∧ys.length≤c∧c≤maxLen∧ys.length≤K∧val ys=n
theorem Num.below {w w':World} {v:Value} {n K:Nat} (h:Num w v n K) (hb:Below w.heap.size w w'):Num w' v n K:=by
 obtain ⟨A,c,ys,h1,h2,h3⟩:=h
 exact ⟨A,c,ys,h1,h2.below hb,h3⟩
theorem IsNum.num {w:World} {v:Value} {n K:Nat} (h:IsNum w v n) (hk:n<4294967296 ^ K):Num w v n K:=by
 obtain ⟨A,c,ys,h1,h2,h3,h4,h5,h6,h7⟩:=h.open_ K hk
 exact ⟨A,c,ys,h1,h2,h3,h4,h5,h7⟩
theorem Num.of {w:World} {A:Option Addr} {xs:List UInt32} {c K:Nat} (hr:Rd uv w A xs) (hc:xs.length≤c) (hm:c≤maxLen) (hl:xs.length≤K):Num w (.slice A xs.length c) (val xs) K:=⟨A,c,xs,rfl,hr,hc,hm,hl,rfl⟩
theorem Num.lt {w:World} {v:Value} {n K:Nat} (h:Num w v n K):n<4294967296 ^ K:=by
 obtain ⟨A,c,ys,h1,h2,h3,h4,h5,rfl⟩:=h
 exact Nat.lt_of_lt_of_le (val_lt ys) (Nat.pow_le_pow_right (by decide) h5)
def shV (V:Nat) (n:Int):Nat:=if 0≤n then V * 2 ^ n.toNat else V / 2 ^ (-n).toNat
def DivN (w':World) (x y:Nat) (q r:Value) (ok:Bool):Prop :=
 if y=0 then q = .slice none 0 0∧r = .slice none 0 0∧ok=false
 else IsNum w' q (x / y)∧IsNum w' r (x % y)∧ok=true
end Go.Proofs.YtjggghfekakogaaGreatDoor
