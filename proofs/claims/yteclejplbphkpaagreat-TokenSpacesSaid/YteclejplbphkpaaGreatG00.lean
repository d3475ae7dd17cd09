/- Slices of one-cell elements as lists: what a call owns, what it reads, and how they last. Plain lemmas over any program. What a call owns at any offset of a block, and append onto it. The nearest binary64 to a fraction, as one number: which level, which nearest integer, that it rises, that it does not change where fraction and divisor are multiplied alike. Plain lemmas. Which texts are numbers, and which binary64 is nearest: as a function of the text's bytes. -/
import Derived.WalkKit
import Derived.Lib.Hide
import Derived.Lib.ConvBytes
import Derived.Lib.AppendStr
import Derived.Maps.AppendAt
import Derived.Laws.BytesArg
import Derived.Deep.Draws
import Derived.OwnWalk
import Derived.Lib.SlBytesConst
import Derived.ArgAppend
import Derived.Lib.AppendZeros
import Derived.Lib.AppendZerosOnto
set_option linter.unusedVariables false
set_option linter.unusedSimpArgs false
set_option linter.unnecessarySimpa false
namespace Go.Proofs.YteclejplbphkpaaGreat
open Go.RowKit
def bv (u:UInt8):Value:=.int .u8 (u.toNat:Int)
theorem bv_ofNat (n:Nat) (k:Int) (h:k=((n % 256:Nat):Int)):Value.int .u8 k=bv (UInt8.ofNat n):=by
 subst h;simp [bv,UInt8.toNat_ofNat]
structure ElT (P:Program) (t e:TypeId) (bytes:Nat):Prop where
 ht:P.underlying t=some (.slice e)
 inf:∃ i z,P.info? e=some i∧i.zero=some z∧i.size=1∧i.bytes=bytes∧z.cells.size=1
section rows
variable {α:Type} {f:α→Value} {e:TypeId} {w w':World} {B B':Nat} {v:Value} {A:Option Addr} {xs ys:List α}
def Own (f:α→Value) (e:TypeId) (w:World) (B:Nat) (v:Value) (xs:List α):Prop:=w.ownsRow B e 1 v xs.length (xs.map f)
def Rd (f:α→Value) (w:World) (A:Option Addr) (xs:List α):Prop :=
 0<xs.length→∃ b off,A=some ⟨b,off,none⟩∧b<w.heap.size∧∀ j (h:j<xs.length),w.cell? ⟨b,off+j,none⟩=some (f xs[j])
theorem Rd.nil:Rd f w A ([]:List α):=fun h=>absurd h (by simp)
theorem Rd.keep (h:Rd f w A xs) (hs:w.heap.size≤w'.heap.size) (hk:∀ p:Addr,p.block<w.heap.size→w'.cell? p=w.cell? p):Rd f w' A xs:=fun hn=>by
 obtain ⟨b,off,e,hb,hc⟩:=h hn
 exact ⟨b,off,e,by omega,fun j hj=>(hk _ hb).trans (hc j hj)⟩
theorem Rd.below (h:Rd f w A xs) (hb:Below w.heap.size w w'):Rd f w' A xs:=h.keep hb.size fun _ hp=>hb.cell hp
theorem Rd.alloc (h:Rd f w A xs) (o:Obj):Rd f (w.alloc o) A xs:=h.below ((Below.refl _ _).alloc (Nat.le_refl _) o)
theorem Rd.drew (h:Rd f w A xs):Rd f w.drew A xs:=h
theorem Rd.at_ {k:Nat} (h:Rd f w A xs) (hk:k<xs.length):∃ b off,A=some ⟨b,off,none⟩∧b<w.heap.size∧w.cell? ⟨b,off+k,none⟩=some (f xs[k]):=by
 obtain ⟨b,off,e,hb,hc⟩:=h (by omega)
 exact ⟨b,off,e,hb,hc k hk⟩
theorem Rd.cast {xs':List α} (h:Rd f w A xs) (he:xs=xs'):Rd f w A xs':=he ▸ h
theorem Rd.cut {l h cap:Nat} (hr:Rd f w A xs) (hl:l≤h) (hh:h≤xs.length) (hc:xs.length≤cap) :
  Rd f w (if cap=l then A else A.map (·.add (l * 1))) ((xs.take h).drop l):=by
 intro hn
 simp only [List.length_drop,List.length_take] at hn
 obtain ⟨b,off,rfl,hb,hcell⟩:=hr (by omega)
 rw [if_neg (by omega)]
 refine ⟨b,off+l,?_,hb,fun j hj=>?_⟩
 ·by_cases h0:l=0 <;> simp [Addr.add,h0]
 ·simp only [List.length_drop,List.length_take] at hj
  rw [List.getElem_drop,List.getElem_take,Nat.add_assoc]
  exact hcell (l+j) (by omega)
theorem Rd.sliced {l h cap:Nat} (hr:Rd f w A xs) (hl:l≤h) (hh:h≤xs.length) (hc:xs.length≤cap) :
  ∃ A',sliced A l h cap 1 = .slice A' ((xs.take h).drop l).length (cap - l)∧Rd f w A' ((xs.take h).drop l):=by
 have e:((xs.take h).drop l).length=h - l:=by simp [List.length_drop,List.length_take];omega
 rcases A with _ | a
 ·refine ⟨none,?_,?_⟩
  ·simp [Go.sliced,e]
  ·intro hn;obtain ⟨b,off,h,_⟩:=hr (by omega);cases h
 ·have hc:=hr.cut hl hh hc
  by_cases hcl:cap=l
  ·rw [if_pos hcl] at hc
   refine ⟨_,?_,hc⟩
   simp [Go.sliced,e,hcl]
  ·rw [if_neg hcl] at hc
   refine ⟨_,?_,hc⟩
   simp [Go.sliced,e,hcl]
theorem Own.nil_:Own f e w B (.slice none 0 0) ([]:List α):=World.ownsRow_nil w B e 1
theorem Own.empty (w:World):Own f e (w.alloc (.cells #[] e)) w.heap.size (.slice (some ⟨w.heap.size,0,none⟩) 0 0) ([]:List α) :=
 World.ownsRow_made w #[] 0 (Nat.le_refl _) (Nat.zero_le _) rfl
theorem Own.alloc (h:Own f e w B v xs) (o:Obj):Own f e (w.alloc o) B v xs:=World.ownsRow.alloc h o
theorem Own.drew (h:Own f e w B v xs):Own f e w.drew B v xs:=h
theorem Own.cast {xs':List α} (h:Own f e w B v xs) (he:xs=xs'):Own f e w B v xs':=he ▸ h
theorem Own.less (h:Own f e w B v xs) (hB:B'≤B):Own f e w B' v xs:=by
 obtain ⟨h1,h2⟩:=h
 refine ⟨h1,?_⟩
 rcases h2 with h2 | ⟨g,cap,cur,hv,hg,r⟩
 ·exact .inl h2
 ·exact .inr ⟨g,cap,cur,hv,by omega,r⟩
theorem Own.sl (h:Own f e w B v xs):∃ A c,v = .slice A xs.length c∧xs.length≤c∧c≤maxLen∧Rd f w A xs:=by
 obtain ⟨h1,h2⟩:=h
 rcases h2 with ⟨rfl,h0⟩ | ⟨g,cap,cur,rfl,hg,hh,hn,hm,hs,ht⟩
 ·have:xs=[]:=List.eq_nil_of_length_eq_zero h0
  subst this
  exact ⟨none,0,rfl,Nat.le_refl _,Nat.zero_le _,Rd.nil⟩
 ·refine ⟨_,cap,rfl,hn,hm,fun _=>⟨g,0,rfl,?_,fun j hj=>?_⟩⟩
  ·rcases Nat.lt_or_ge g w.heap.size with h | h
   ·exact h
   ·rw [Array.getElem?_eq_none h] at hh;cases hh
  ·have hj':(xs.map f)[j]? = some (f xs[j]):=by simp [hj]
   have hcj:cur[j]? = some (f xs[j]):=by
    rw [← ht,List.getElem?_take] at hj'
    split at hj'
    ·simpa using hj'
    ·cases hj'
   rw [Nat.zero_add]
   rw [cell_of_row w g j cur e (0,0) hh]
   exact hcj
theorem Own.name (h:Own f e w B v xs) (n:Nat) (hn:xs.length=n):∃ A c ys,v = .slice A ys.length c∧Hid (ys=xs)∧ys.length≤n∧n≤ys.length∧ys.length≤c∧c≤maxLen∧Rd f w A ys∧Own f e w B (.slice A ys.length c) ys:=by
 obtain ⟨A,c,rfl,h1,h2,h3⟩:=h.sl
 exact ⟨A,c,xs,rfl,rfl,by omega,by omega,h1,h2,h3,h⟩
theorem Own.below (h:Own f e w B v xs) (hb:Below w.heap.size w w'):Own f e w' B v xs:=by
 obtain ⟨h1,h2⟩:=h
 refine ⟨h1,?_⟩
 rcases h2 with h2 | ⟨g,cap,cur,hv,hg,hh,r⟩
 ·exact .inl h2
 ·refine .inr ⟨g,cap,cur,hv,hg,?_,r⟩
  rw [hb.block g ?_];exact hh
  rcases Nat.lt_or_ge g w.heap.size with h | h
  ·exact h
  ·rw [Array.getElem?_eq_none h] at hh;cases hh
end rows
section laws
variable {α:Type} {f:α→Value} {P:Program} (w:World) {ops:Array Oper} {rest:List Oper} {o:Oper} {a:Act} {Q:Exit→Act→World→Prop}
theorem below_grown {B:Nat} {v:Value} {xs:List α} {e:TypeId} {w w':World} (hown:Own f e w B v xs) (hg:w.grownBy w' v.ownBlock) (hB:B≤w.heap.size):Below B w w' :=
 (Below.refl B w).grown hg hB fun k hk=>(World.ownsRow.lt hown k hk).1
theorem wpList_app {t e:TypeId} {by_:Nat} (T:ElT P t e by_) (hgd:o.guard=none) (s x:Operand)
  (ho:o.op = .call { callee:=.builtin .append,args:=#[s,x],argTypes:=#[t,t] })
  (hf:∀ x:α,(f x).oneCell'=true)
  (B:Nat) (v:Value) (xs ys:List α) (hs:a.eval s=v) (hown:Own f e w B v xs)
  (A:Option Addr) (c:Nat) (hx:a.eval x = .slice A ys.length c) (hr:Rd f w A ys)
  (h63:xs.length+ys.length≤maxLen) (hby:(xs.length+ys.length) * by_≤140737488355328) (hB:B≤w.heap.size)
  (h:∀ v' w',Own f e w' B v' (xs++ys)→Below B w w'→wpList P ops Q rest (a.put o.dst v') w'):wpList P ops Q (o :: rest) a w:=by
 refine wpList_plain hgd fun K hK=>?_
 obtain ⟨i,z,hi,hz,h1,h2,h3⟩:=T.inf
 have key:∃ v' w',(Builtin.append_ #[t,t] o.type #[v,.slice A ys.length c]).run P w = .ok v' w'∧Own f e w' B v' (xs++ys)∧Below B w w':=by
  rcases A with _ | ad
  ·have h0:ys=[]:=by
    rcases Nat.eq_zero_or_pos ys.length with h | h
    ·exact List.eq_nil_of_length_eq_zero h
    ·obtain ⟨_,_,h,_⟩:=hr h;cases h
   subst h0
   refine ⟨v,w,?_,by simpa using hown,Below.refl _ _⟩
   rcases hown.2 with ⟨rfl,_⟩ | ⟨g,cap,cur,rfl,_,_,hnc,_⟩
   ·simp [Builtin.append_,run_underlying T.ht,sizeOf,typeInfo,hi,Builtin.lenOf,Builtin.firstCells]
   ·simp [Builtin.append_,run_underlying T.ht,sizeOf,typeInfo,hi,Builtin.lenOf,Builtin.firstCells,hnc,storeCells]
  ·have hl:(ys.map f).length=ys.length * 1:=by simp
   have hcells:∀ j u,(ys.map f)[j]? = some u→w.cell? (ad.add j)=some u:=by
    intro j u hu
    have hj:j<ys.length:=by
     rcases Nat.lt_or_ge j ys.length with h | h
     ·exact h
     ·rw [List.getElem?_eq_none (by simpa using h)] at hu;cases hu
    have hu':u=f ys[j]:=by simpa [hj] using hu.symm
    subst hu'
    obtain ⟨b,off,he,hb,hc⟩:=hr (by omega)
    injection he with he
    subst he
    have:=hc j hj
    by_cases j0:j=0
    ·subst j0;simpa [Addr.add] using this
    ·simpa [Addr.add,j0] using this
   have hone:∀ u ∈ ys.map f,u.oneCell'=true:=by
    intro u hu
    obtain ⟨y,_,rfl⟩:=List.mem_map.1 hu
    exact hf y
   obtain ⟨v',w',hrun,ho',hg,_⟩:=run_append_own_at (P:=P) w B t o.type e i z 1 by_ T.ht hi hz h1 h2 h3 (by decide) v xs.length (xs.map f) hown ad ys.length c (ys.map f) hl hcells hone h63 hby hB
   refine ⟨v',w',hrun,?_,below_grown hown hg hB⟩
   unfold Own
   rw [List.length_append,List.map_append]
   exact ho'
 obtain ⟨v',w',hrun,ho',hbel⟩:=key
 have:=hK _ _ (h v' w' ho' hbel)
 unfold Oper.wp execOp
 simp only [ho,resolve,invoke,builtin,Sem.run_bind,Sem.run_pure,Result.andThen_ok,List.map_toArray,List.map_cons,List.map_nil,hs,hx,hrun]
 exact this
structure Cut (f:α→Value) (w:World) (xs:List α) (l h:Int) (A:Option Addr) (ys:List α):Prop where
 rd:Rd f w A ys
 eq:Hid (ys=(xs.take h.toNat).drop l.toNat)
 lo:(ys.length:Int)≤h - l
 hi:h - l≤(ys.length:Int)
theorem run_sl {t e:TypeId} {by_:Nat} {A:Option Addr} {n c:Nat} (T:ElT P t e by_) (hc:n≤c) (lo hi:Option Value) (l h:Int) (h0:0≤l) (h1:l≤h) (h2:h≤n)
  (hlo:lo=none∧l=0∨∃ k,lo=some (.int k l)) (hhi:hi=none∧h=n∨∃ k,hi=some (.int k h)) :
  (Instr.slice t (.slice A n c) lo hi none).run P w = .ok (Go.sliced A l.toNat h.toNat c 1) w:=by
 obtain ⟨i,z,hi',hz,h3,h4,h5⟩:=T.inf
 have hsz:(sizeOf (P.elem t)).run P w = .ok 1 w:=by simp [sizeOf,typeInfo,Program.elem,T.ht,hi',h3]
 have ht':P.underlying t=some (.slice (P.elem t)):=by simp [Program.elem,T.ht]
 rcases hlo with ⟨rfl,rfl⟩ | ⟨kl,rfl⟩ <;> rcases hhi with ⟨rfl,rfl⟩ | ⟨kh,rfl⟩
 ·rw [run_slice_all (ht:=ht')];simp [hsz]
 ·rw [run_slice_h (ht:=ht') (h0:=by omega) (h2:=by omega)];simp [hsz]
 ·rw [run_slice_l (ht:=ht') (h0:=by omega) (h1:=by omega)];simp [hsz]
 ·rw [run_slice_lh (ht:=ht') (h0:=by omega) (h1:=by omega) (h2:=by omega)];simp [hsz]
theorem cut_of {t e:TypeId} {by_:Nat} {A:Option Addr} {xs:List α} {c:Nat} (T:ElT P t e by_) (hr:Rd f w A xs) (hc:xs.length≤c) (lo hi:Option Value) (l h:Int) (h0:0≤l) (h1:l≤h) (h2:h≤xs.length)
  (hlo:lo=none∧l=0∨∃ k,lo=some (.int k l)) (hhi:hi=none∧h=xs.length∨∃ k,hi=some (.int k h)) :
  ∃ A' ys c',(Instr.slice t (.slice A xs.length c) lo hi none).run P w = .ok (.slice A' ys.length c') w∧Cut f w xs l h A' ys∧(ys.length:Int)≤c'∧(c':Int)≤c:=by
 obtain ⟨i,z,hi',hz,h3,h4,h5⟩:=T.inf
 have hlen:((xs.take h.toNat).drop l.toNat).length=h.toNat - l.toNat:=by simp [List.length_drop,List.length_take];omega
 obtain ⟨A',e1,hr'⟩:=hr.sliced (l:=l.toNat) (h:=h.toNat) (cap:=c) (by omega) (by omega) (by omega)
 refine ⟨A',(xs.take h.toNat).drop l.toNat,c - l.toNat,?_,⟨hr',rfl,by omega,by omega⟩,by omega,by omega⟩
 rw [← e1]
 exact run_sl w T hc lo hi l h h0 h1 h2 hlo hhi
theorem wpList_sl {t e:TypeId} {by_:Nat} (T:ElT P t e by_) (hgd:o.guard=none) (x:Operand) (lo hi:Option Operand) (ho:o.op = .slice t x lo hi none)
  (A:Option Addr) (xs:List α) (c:Nat) (hx:a.eval x = .slice A xs.length c) (hr:Rd f w A xs) (hc:xs.length≤c)
  (l h:Int) (hlo:lo=none∧l=0∨∃ k p,lo=some p∧a.eval p = .int k l) (hhi:hi=none∧h=xs.length∨∃ k p,hi=some p∧a.eval p = .int k h)
  (h0:0≤l) (h1:l≤h) (h2:h≤xs.length)
  (h:∀ A' ys c',Cut f w xs l h A' ys→ys.length≤c'→c'≤c→wpList P ops Q rest (a.put o.dst (.slice A' ys.length c')) w):wpList P ops Q (o :: rest) a w:=by
 refine wpList_plain hgd fun K hK=>?_
 obtain ⟨A',ys,c',hrun,hcut,h3,h4⟩:=cut_of (P:=P) w T hr hc (lo.map a.eval) (hi.map a.eval) l _ h0 h1 h2
  (by
    rcases hlo with ⟨rfl,e⟩ | ⟨k,p,rfl,e⟩
    ·exact .inl ⟨rfl,e⟩
    ·exact .inr ⟨k,by simp [e]⟩)
  (by
    rcases hhi with ⟨rfl,e⟩ | ⟨k,p,rfl,e⟩
    ·exact .inl ⟨rfl,e⟩
    ·exact .inr ⟨k,by simp [e]⟩)
 have:=hK _ _ (h A' ys c' hcut (by omega) (by omega))
 unfold Oper.wp execOp
 simp only [ho,Sem.run_bind,Sem.run_pure,Result.andThen_ok,hx]
 rw [show (Option.map a.eval (none:Option Operand))=none from rfl,run_sliceAt_slice w t _ _ _ _ (by simp [Program.elem,T.ht]),hrun]
 exact this
theorem conv_str {A:Option Addr} {xs:List UInt8} (src dst e:TypeId) (hs:P.underlying src=some (.slice e)) (he:P.underlying e=some (.int .u8)) (hd:P.underlying dst=some .string)
  (hr:Rd bv w A xs) (c:Nat):(convert src dst (.slice A xs.length c)).run P w = .ok (.string ⟨xs.toArray⟩) w:=by
 rcases A with _ | a
 ·have h0:xs=[]:=by
   rcases Nat.eq_zero_or_pos xs.length with h | h
   ·exact List.eq_nil_of_length_eq_zero h
   ·obtain ⟨_,_,h,_⟩:=hr h;cases h
  subst h0
  exact run_convert_bytes_nil w src e hs he _ _ dst hd
 ·by_cases h0:xs.length=0
  ·have:xs=[]:=List.eq_nil_of_length_eq_zero h0
   subst this
   rw [run_convert_bytes_string w src dst e _ _ c hs he hd]
   simp [Conv.bytesToString,loadCells,loadCellsFrom]
   rfl
  ·obtain ⟨b,off,hA,hb,hc⟩:=hr (by omega)
   injection hA with hA
   subst hA
   have:=run_convert_bytes_arg w src e hs he b off xs.length c (xs.map fun u=>(u.toNat:Int)) (by simp) (fun i hi=>by
    rw [hc i hi];simp [List.getD,hi,bv]) dst hd
   rw [this]
   congr 2
   simp [strOfNums,Function.comp_def]
theorem wpList_str {src dst e:TypeId} (hgd:o.guard=none) (x:Operand) (ho:o.op = .convert src dst x) (hs:P.underlying src=some (.slice e)) (he:P.underlying e=some (.int .u8)) (hd:P.underlying dst=some .string)
  (A:Option Addr) (xs:List UInt8) (c:Nat) (hx:a.eval x = .slice A xs.length c) (hr:Rd bv w A xs)
  (h:∀ s:ByteArray,Hid (s=⟨xs.toArray⟩)→s.size≤xs.length→xs.length≤s.size→wpList P ops Q rest (a.put o.dst (.string s)) w):wpList P ops Q (o :: rest) a w:=by
 refine wpList_plain hgd fun K hK=>?_
 have hrun:=conv_str (P:=P) w src dst e hs he hd hr c
 have:=hK _ _ (h ⟨xs.toArray⟩ rfl (by simp [ByteArray.size]) (by simp [ByteArray.size]))
 unfold Oper.wp execOp
 simp only [ho,Sem.run_bind,Sem.run_pure,Result.andThen_ok,hx,hrun]
 exact this
end laws
theorem nx {a b c:World} (h:Below a.heap.size a b) (k:Below b.heap.size b c):Below a.heap.size a c:=h.trans (k.mono h.size)
theorem nxa {a b:World} (h:Below a.heap.size a b) (o:Obj):Below a.heap.size a (b.alloc o):=h.alloc h.size o
theorem nx0 (a:World) (o:Obj):Below a.heap.size a (a.alloc o):=(Below.refl _ _).alloc (Nat.le_refl _) o
theorem Rd.one {α:Type} {f:α→Value} {w:World} {e:TypeId} {V:Value} {x:α} {g:Nat} (h:V=f x) (hg:g=w.heap.size):Rd f (w.alloc (.cells #[V] e)) (some ⟨g,0,none⟩) [x]:=by
 subst hg
 intro _
 refine ⟨_,_,rfl,by simp,fun j hj=>?_⟩
 have:j=0:=by simpa using hj
 subst this
 rw [World.cell?_alloc_at _ _ _ _ (by simp)]
 simp [h]
def RowBytes (w:World) (A:Option Addr) (len cap:Nat):Prop:=∃ xs:List UInt8,len=xs.length∧Rd bv w A xs∧xs.length≤cap∧cap≤maxLen
theorem row_bytes_nil (w:World):RowBytes w none 0 0:=⟨[],rfl,Rd.nil,Nat.le_refl _,Nat.zero_le _⟩
def RowInts (k:IntKind) (w:World) (A:Option Addr) (len cap:Nat):Prop :=
 ∃ xs:List Int,len=xs.length∧Rd (Value.int k) w A xs∧xs.length≤cap∧cap≤maxLen∧∀ n ∈ xs,(Lit.int k n).wf=true
theorem row_ints {k:IntKind} (w:World) (x:Addr) (len cap:Nat) (zs:List Int) (hl:len≤cap) (hm:cap≤maxLen) (hz:zs.length=cap)
  (hcell:∀ i,i<zs.length→w.cell? (x.add i)=some (.int k (zs.getD i 0))) (hwz:∀ n ∈ zs,(Lit.int k n).wf=true):RowInts k w (some x) len cap:=by
 have hlen:(zs.take len).length=len:=by rw [List.length_take];omega
 refine ⟨zs.take len,hlen.symm,fun hn=>?_,by omega,hm,fun n h=>hwz n (List.mem_of_mem_take h)⟩
 rw [hlen] at hn
 obtain ⟨b,off,sp⟩:=x
 have h0:=hcell 0 (by omega)
 have hsp:sp=none:=by simpa [Addr.add] using World.cell?_spot h0
 subst hsp
 refine ⟨b,off,rfl,?_,fun j hj=>?_⟩
 ·have:=World.block_lt_of_cell? w _ h0
  simpa [Addr.add] using this
 ·rw [hlen] at hj
  have:=hcell j (by omega)
  rw [Addr.add_lit] at this
  rw [this,List.getElem_take]
  have hj':j<zs.length:=by omega
  simp [List.getD,hj']
theorem row_bytes (w:World) (x:Addr) (len cap:Nat) (zs:List Int) (hl:len≤cap) (hm:cap≤maxLen) (hz:zs.length=cap)
  (hcell:∀ i,i<zs.length→w.cell? (x.add i)=some (.int .u8 (zs.getD i 0))) (hwz:∀ n ∈ zs,(Lit.int .u8 n).wf=true):RowBytes w (some x) len cap:=by
 obtain ⟨xs,h1,h2,h3,h4,h5⟩:=row_ints (k:=.u8) w x len cap zs hl hm hz hcell hwz
 refine ⟨xs.map fun n=>UInt8.ofNat n.toNat,by simpa using h1,fun hn=>?_,by simpa using h3,h4⟩
 rw [List.length_map] at hn
 obtain ⟨b,off,e,hb,hc⟩:=h2 hn
 refine ⟨b,off,e,hb,fun j hj=>?_⟩
 rw [List.length_map] at hj
 rw [hc j hj,List.getElem_map]
 have hw:=h5 _ (List.getElem_mem hj)
 generalize xs[j]=n at hw
 have h01:0≤n∧n≤255:=by
  simp [Lit.wf,IntKind.min,IntKind.max,IntKind.signed,IntKind.bits] at hw
  omega
 rw [← bv_ofNat n.toNat n (by omega)]
end Go.Proofs.YteclejplbphkpaaGreat
namespace Go.Proofs.YteclejplbphkpaaGreat
open Go.RowKit
section rows
variable {α:Type} {f:α→Value} {e:TypeId} {w w':World} {B:Nat} {v:Value} {xs ys:List α}
def OwnG (f:α→Value) (w:World) (B:Nat) (v:Value) (xs:List α):Prop :=
 (v = .slice none 0 0∧xs=[]) ∨
 ∃ g off cap,v = .slice (some ⟨g,off,none⟩) xs.length cap∧B≤g∧g<w.heap.size∧xs.length≤cap∧cap≤maxLen ∧
  (∀ j,j<cap→(w.cell? ⟨g,off+j,none⟩).isSome=true∧w.frozen? ⟨g,off+j,none⟩=false) ∧
  ∀ j (h:j<xs.length),w.cell? ⟨g,off+j,none⟩=some (f xs[j])
theorem Own.gen (h:Own f e w B v xs):OwnG f w B v xs:=by
 have h':=h
 obtain ⟨h1,h2⟩:=h
 rcases h2 with ⟨rfl,h0⟩ | ⟨g,cap,cur,rfl,hg,hh,hn,hm,hs,ht⟩
 ·exact .inl ⟨rfl,List.eq_nil_of_length_eq_zero h0⟩
 ·have hlt:g<w.heap.size:=by
   rcases Nat.lt_or_ge g w.heap.size with h | h
   ·exact h
   ·rw [Array.getElem?_eq_none h] at hh;cases hh
  refine .inr ⟨g,0,cap,rfl,hg,hlt,hn,hm,fun j hj=>⟨?_,?_⟩,fun j hj=>?_⟩
  ·rw [Nat.zero_add,cell_of_row w g j cur e (0,0) hh]
   have:j<cur.size:=by omega
   simp [this]
  ·simp [World.frozen?,hh]
  ·have hj':(xs.map f)[j]? = some (f xs[j]):=by simp [hj]
   have hcj:cur[j]? = some (f xs[j]):=by
    rw [← ht,List.getElem?_take] at hj'
    split at hj'
    ·simpa using hj'
    ·cases hj'
   rw [Nat.zero_add,cell_of_row w g j cur e (0,0) hh]
   exact hcj
theorem OwnG.sl (h:OwnG f w B v xs):∃ A c,v = .slice A xs.length c∧xs.length≤c∧c≤maxLen∧Rd f w A xs:=by
 rcases h with ⟨rfl,rfl⟩ | ⟨g,off,cap,rfl,hB,hg,hn,hm,hs,hc⟩
 ·exact ⟨none,0,rfl,Nat.le_refl _,Nat.zero_le _,Rd.nil⟩
 ·exact ⟨_,cap,rfl,hn,hm,fun _=>⟨g,off,rfl,hg,hc⟩⟩
theorem OwnG.below (h:OwnG f w B v xs) (hb:Below w.heap.size w w'):OwnG f w' B v xs:=by
 rcases h with h | ⟨g,off,cap,rfl,hB,hg,hn,hm,hs,hc⟩
 ·exact .inl h
 ·refine .inr ⟨g,off,cap,rfl,hB,Nat.lt_of_lt_of_le hg hb.size,hn,hm,fun j hj=>?_,fun j hj=>?_⟩
  ·rw [hb.cell (p:=⟨g,off+j,none⟩) hg,hb.frozen (p:=⟨g,off+j,none⟩) hg];exact hs j hj
  ·rw [hb.cell (p:=⟨g,off+j,none⟩) hg];exact hc j hj
theorem OwnG.less {B':Nat} (h:OwnG f w B v xs) (hB:B'≤B):OwnG f w B' v xs:=by
 rcases h with h | ⟨g,off,cap,hv,hB',r⟩
 ·exact .inl h
 ·exact .inr ⟨g,off,cap,hv,Nat.le_trans hB hB',r⟩
theorem OwnG.name (h:OwnG f w B v xs) (n:Nat) (hn:xs.length=n):∃ A c ys,v = .slice A ys.length c∧Hid (ys=xs)∧ys.length≤n∧n≤ys.length∧ys.length≤c∧c≤maxLen∧Rd f w A ys∧OwnG f w B (.slice A ys.length c) ys:=by
 obtain ⟨A,c,rfl,h1,h2,h3⟩:=h.sl
 exact ⟨A,c,xs,rfl,rfl,by omega,by omega,h1,h2,h3,h⟩
theorem OwnG.drew (h:OwnG f w B v xs):OwnG f w.drew B v xs:=h
theorem OwnG.cast {xs':List α} (h:OwnG f w B v xs) (he:xs=xs'):OwnG f w B v xs':=he ▸ h
theorem OwnG.cut {A:Option Addr} {c:Nat} (h:OwnG f w B (.slice A xs.length c) xs) {l h':Nat} (hl:l≤h') (hh:h'≤xs.length) :
  ∃ A' c',Go.sliced A l h' c 1 = .slice A' ((xs.take h').drop l).length c'∧OwnG f w B (.slice A' ((xs.take h').drop l).length c') ((xs.take h').drop l):=by
 have e0:((xs.take h').drop l).length=h' - l:=by simp [List.length_drop,List.length_take];omega
 rcases h with ⟨h1,rfl⟩ | ⟨g,off,cap,h1,hB,hg,hn,hm,hs,hc⟩
 ·cases h1
  obtain rfl:h'=0:=by simpa using hh
  obtain rfl:l=0:=by omega
  exact ⟨none,0,by simp [Go.sliced],.inl ⟨rfl,rfl⟩⟩
 ·cases h1
  by_cases hcl:c=l
  ·have hz:(xs.take h').drop l=[]:=by
    apply List.eq_nil_of_length_eq_zero;omega
   refine ⟨some ⟨g,off,none⟩,0,by simp [Go.sliced,e0,hcl],.inr ⟨g,off,0,by simp,hB,hg,by simp [hz],by simp [maxLen],fun j hj=>by omega,fun j hj=>by simp [hz] at hj⟩⟩
  ·refine ⟨some ⟨g,off+l,none⟩,c - l,?_,.inr ⟨g,off+l,c - l,rfl,hB,hg,by omega,by omega,fun j hj=>?_,fun j hj=>?_⟩⟩
   ·simp [Go.sliced,e0,hcl,Addr.add]
   ·rw [Nat.add_assoc];exact hs (l+j) (by omega)
   ·rw [List.getElem_drop,List.getElem_take,Nat.add_assoc]
    exact hc (l+j) (by omega)
theorem OwnG.set_ {g off cap:Nat} {i:Nat} {y:α} (h:OwnG f w B (.slice (some ⟨g,off,none⟩) xs.length cap) xs) (hi:i<xs.length) :
  OwnG f (w.setCell ⟨g,off+i,none⟩ (f y)) B (.slice (some ⟨g,off,none⟩) (xs.set i y).length cap) (xs.set i y):=by
 rcases h with ⟨h1,_⟩ | ⟨g',off',cap',h1,hB,hg,hn,hm,hs,hc⟩
 ·cases h1
 ·cases h1
  refine .inr ⟨g,off,cap,rfl,hB,by simpa [World.setCell] using hg,by simpa using hn,hm,fun j hj=>⟨?_,?_⟩,fun j hj=>?_⟩
  ·by_cases hij:j=i
   ·subst hij
    obtain ⟨u,hu⟩:=Option.isSome_iff_exists.1 (hs j hj).1
    rw [World.cell?_setCell_same w _ _ hu];rfl
   ·rw [World.cell?_setCell_other _ _ _ _ (by simp only [ne_eq,Addr.mk.injEq];omega)];exact (hs j hj).1
  ·rw [World.frozen?_setCell];exact (hs j hj).2
  ·rw [List.length_set] at hj
   by_cases hij:j=i
   ·subst hij
    rw [World.cell?_setCell_same w _ _ (hc j hi)]
    simp
   ·rw [World.cell?_setCell_other _ _ _ _ (by simp only [ne_eq,Addr.mk.injEq];omega),hc j hj]
    rw [List.getElem_set_ne (by omega)]
end rows
section laws
variable {α:Type} {f:α→Value} {P:Program} (w:World) {ops:Array Oper} {rest:List Oper} {o:Oper} {a:Act} {Q:Exit→Act→World→Prop}
theorem wpList_mkz {t e:TypeId} {by_:Nat} (T:ElT P t e by_) (z0:α) (hz0:∀ i,P.info? e=some i→i.zero=some (f z0)) (hzc:(f z0).cells=#[f z0]) (hgd:o.guard=none) (l c:Operand) (hop:o.op=Op.makeSlice t l c)
  (B:Nat) (kl kc:IntKind) (N:Int) (hl:a.eval l = .int kl N) (hc:a.eval c = .int kc N) (h0:0≤N) (hby:by_ * N≤281474976710656) (hm:N≤281474976710656) (hB:B≤w.heap.size)
  (h:∀ v' w' (zs:List α),OwnG f w' B v' zs→Hid (zs=List.replicate N.toNat z0)→zs.length≤N.toNat→N.toNat≤zs.length→Below B w w'→wpList P ops Q rest (a.put o.dst v') w'):wpList P ops Q (o :: rest) a w:=by
 obtain ⟨i,z,hi,hz,h1,h2,h3⟩:=T.inf
 obtain rfl:z=f z0:=by have:=hz0 i hi;rw [hz] at this;injection this
 refine wpList_plain hgd fun K hK=>?_
 have hrun:=run_make (P:=P) w t e i (f z0) T.ht hi hz kl kc N N h0 (Int.le_refl _) (by rw [h2];exact hby) (by omega)
 rw [h1,Nat.mul_one] at hrun
 have hmc:(madeCells (f z0).cells N.toNat).toList=List.replicate N.toNat (f z0):=by
  rw [hzc]
  apply List.ext_getElem
  ·simp [madeCells]
  ·intro j h1 h2
   simp [madeCells,Nat.mod_one]
 have hsz:(madeCells (f z0).cells N.toNat).size=N.toNat:=by rw [← Array.length_toList,hmc];simp
 have hown:OwnG f (w.alloc (.cells (madeCells (f z0).cells N.toNat) e)) B (.slice (some ⟨w.heap.size,0,none⟩) (List.replicate N.toNat z0).length N.toNat) (List.replicate N.toNat z0) :=
  Own.gen (e:=e) ⟨by simp,.inr ⟨w.heap.size,N.toNat,_,rfl,hB,heap_alloc_new w _,by simp,by simp only [maxLen];omega,by omega,by rw [hmc];simp⟩⟩
 have:=hK _ _ (h _ _ _ hown rfl (by simp) (by simp) ((Below.refl B w).alloc hB _))
 unfold Oper.wp execOp
 simp only [hop,Sem.run_bind,Sem.run_pure,Result.andThen_ok,hl,hc,hrun]
 simp only [List.length_replicate] at this
 exact this
end laws
end Go.Proofs.YteclejplbphkpaaGreat
namespace Go.Proofs.YteclejplbphkpaaGreat
open Go.RowKit
def rnd (a b:Nat):Nat:=if 2 * (a % b) > b∨2 * (a % b)=b∧a / b % 2=1 then a / b+1 else a / b
theorem rnd_lo (a b:Nat):a / b≤rnd a b:=by unfold rnd;split <;> omega
theorem rnd_hi (a b:Nat):rnd a b≤a / b+1:=by unfold rnd;split <;> omega
theorem rnd_is (a b n:Nat) (h1:2 * a<(2 * n+1) * b) (h2:2 * n * b<2 * a+b):rnd a b=n:=by
 have hb:0<b:=by
  rcases Nat.eq_zero_or_pos b with h | h
  ·subst h;omega
  ·exact h
 have hdm:=Nat.div_add_mod a b
 have hm:=Nat.mod_lt a hb
 generalize hq:a / b=q at *
 generalize hr:a % b=r at *
 have e1:(2 * n+1) * b=2 * (n * b)+b:=by rw [Nat.add_mul,Nat.mul_assoc,Nat.one_mul]
 have e2:2 * n * b=2 * (n * b):=Nat.mul_assoc _ _ _
 have e3:b * q=q * b:=Nat.mul_comm _ _
 rw [e1] at h1
 rw [e2] at h2
 unfold rnd
 rw [hq,hr]
 rcases Nat.lt_trichotomy q n with h | h | h
 ·have h3:(q+1) * b≤n * b:=Nat.mul_le_mul_right _ h
  rw [Nat.add_mul,Nat.one_mul] at h3
  have h4:n=q+1:=by
   rcases Nat.lt_or_ge (q+1) n with h5 | h5
   ·have h6:(q+2) * b≤n * b:=Nat.mul_le_mul_right _ h5
    rw [Nat.add_mul] at h6;omega
   ·omega
  subst h4
  rw [Nat.add_mul,Nat.one_mul] at h2
  rw [if_pos (.inl (by omega))]
 ·subst h
  rw [if_neg (by omega)]
 ·have h3:(n+1) * b≤q * b:=Nat.mul_le_mul_right _ h
  rw [Nat.add_mul,Nat.one_mul] at h3
  omega
theorem rnd_exact (b n:Nat) (hb:0<b):rnd (n * b) b=n:=by
 unfold rnd
 rw [Nat.mul_mod_left,Nat.mul_div_cancel _ hb,if_neg (by omega)]
theorem rnd_mono (a c b:Nat) (h:a≤c):rnd a b≤rnd c b:=by
 have h1:a / b≤c / b:=Nat.div_le_div_right h
 rcases Nat.lt_or_ge (a / b) (c / b) with h2 | h2
 ·exact Nat.le_trans (rnd_hi a b) (Nat.le_trans h2 (rnd_lo c b))
 ·have h3:a / b=c / b:=by omega
  have h4:=Nat.div_add_mod a b
  have h5:=Nat.div_add_mod c b
  rw [h3] at h4
  unfold rnd
  rw [h3]
  split
  ·rename_i h6
   rw [if_pos (by omega)];exact Nat.le_refl _
  ·split <;> omega
theorem rnd_mul (a b k:Nat) (hk:0<k):rnd (a * k) (b * k)=rnd a b:=by
 unfold rnd
 rw [Nat.mul_div_mul_right _ _ hk,Nat.mul_mod_mul_right]
 have e1:(2 * (a % b * k) > b * k)↔(2 * (a % b) > b):=by
  rw [← Nat.mul_assoc];exact Nat.mul_lt_mul_right hk
 have e2:(2 * (a % b * k)=b * k)↔(2 * (a % b)=b):=by
  rw [← Nat.mul_assoc];exact ⟨fun h=>Nat.eq_of_mul_eq_mul_right hk h,fun h=>by rw [h]⟩
 simp only [e1,e2]
theorem rnd_le (a b n:Nat) (hb:0<b) (h:a≤n * b):rnd a b≤n:=by
 have:=rnd_mono a (n * b) b h
 rwa [rnd_exact b n hb] at this
theorem rnd_ge (a b n:Nat) (hb:0<b) (h:n * b≤a):n≤rnd a b:=by
 have:=rnd_mono (n * b) a b h
 rwa [rnd_exact b n hb] at this
def lev (X Y:Nat):Nat:=if X / Y=0 then 0 else Nat.log2 (X / Y) - 52
theorem lev_lt (X Y:Nat) (hY:0<Y):X<Y * 2 ^ (lev X Y+53):=by
 have h:X / Y<2 ^ (lev X Y+53):=by
  unfold lev
  by_cases h0:X / Y=0
  ·rw [if_pos h0,h0];exact Nat.pow_pos (by decide)
  ·rw [if_neg h0]
   exact Nat.lt_of_lt_of_le ((Nat.log2_lt h0).1 (Nat.lt_succ_self _)) (Nat.pow_le_pow_right (by decide) (by omega))
 rw [Nat.mul_comm]
 exact (Nat.div_lt_iff_lt_mul hY).1 h
theorem lev_ge (X Y:Nat) (hY:0<Y):lev X Y=0∨Y * 2 ^ (lev X Y+52)≤X:=by
 rcases Nat.eq_zero_or_pos (lev X Y) with h | h
 ·exact .inl h
 ·refine .inr ?_
  have h0:X / Y≠0:=by intro h0;unfold lev at h;rw [if_pos h0] at h;omega
  have h1:lev X Y+52=Nat.log2 (X / Y):=by unfold lev at h ⊢;rw [if_neg h0] at h ⊢;omega
  rw [h1,Nat.mul_comm,← Nat.le_div_iff_mul_le hY]
  exact Nat.log2_self_le h0
theorem lev_is (X Y E:Nat) (hY:0<Y) (h1:X<Y * 2 ^ (E+53)) (h2:E=0∨Y * 2 ^ (E+52)≤X):lev X Y=E:=by
 have h3:=lev_lt X Y hY
 have h4:=lev_ge X Y hY
 rcases Nat.lt_trichotomy (lev X Y) E with h | h | h
 ·have h5:Y * 2 ^ (lev X Y+53)≤Y * 2 ^ (E+52):=Nat.mul_le_mul_left _ (Nat.pow_le_pow_right (by decide) (by omega))
  omega
 ·exact h
 ·have h5:Y * 2 ^ (E+53)≤Y * 2 ^ (lev X Y+52):=Nat.mul_le_mul_left _ (Nat.pow_le_pow_right (by decide) (by omega))
  omega
theorem lev_mul (X Y k:Nat) (hk:0<k):lev (X * k) (Y * k)=lev X Y:=by
 unfold lev
 rw [Nat.mul_div_mul_right _ _ hk]
def near (X Y:Nat):Nat:=lev X Y * 4503599627370496+rnd X (Y * 2 ^ lev X Y)
theorem p53 (Y E:Nat):Y * 2 ^ (E+53)=9007199254740992 * (Y * 2 ^ E):=by
 rw [Nat.pow_add,← Nat.mul_assoc,Nat.mul_comm]
theorem p52 (Y E:Nat):Y * 2 ^ (E+52)=4503599627370496 * (Y * 2 ^ E):=by
 rw [Nat.pow_add,← Nat.mul_assoc,Nat.mul_comm]
theorem near_zero (Y:Nat) (hY:0<Y):near 0 Y=0:=by
 have h:lev 0 Y=0:=by unfold lev;rw [Nat.zero_div,if_pos rfl]
 unfold near
 rw [h]
 have:=rnd_exact (Y * 2 ^ 0) 0 (by omega)
 rw [Nat.zero_mul] at this
 rw [this]
theorem near_mul (X Y k:Nat) (hk:0<k):near (X * k) (Y * k)=near X Y:=by
 unfold near
 rw [lev_mul _ _ _ hk,Nat.mul_right_comm,rnd_mul _ _ _ hk]
theorem near_rnd (X Y:Nat) (hY:0<Y):rnd X (Y * 2 ^ lev X Y)≤9007199254740992∧(lev X Y=0∨4503599627370496≤rnd X (Y * 2 ^ lev X Y)):=by
 have hp:0<Y * 2 ^ lev X Y:=Nat.mul_pos hY (Nat.pow_pos (by decide))
 have h1:=lev_lt X Y hY
 rw [p53] at h1
 refine ⟨rnd_le _ _ _ hp (by omega),?_⟩
 rcases lev_ge X Y hY with h | h
 ·exact .inl h
 ·rw [p52] at h;exact .inr (rnd_ge _ _ _ hp h)
theorem near_by (X Y m E:Nat) (hY:0<Y) (h1:m<9007199254740992) (h2:E=0∨4503599627370496≤m)
  (hup:2 * X<(2 * m+1) * (Y * 2 ^ E)) (hlo:2 * m * (Y * 2 ^ E)<2 * X+Y * 2 ^ E) (hq:m=4503599627370496→4 * m * (Y * 2 ^ E)<4 * X+Y * 2 ^ E):near X Y=E * 4503599627370496+m:=by
 have hp:0<Y * 2 ^ E:=Nat.mul_pos hY (Nat.pow_pos (by decide))
 have e1:(2 * m+1) * (Y * 2 ^ E)=2 * (m * (Y * 2 ^ E))+Y * 2 ^ E:=by rw [Nat.add_mul,Nat.mul_assoc,Nat.one_mul]
 have e3:2 * m * (Y * 2 ^ E)=2 * (m * (Y * 2 ^ E)):=Nat.mul_assoc _ _ _
 have hrn:rnd X (Y * 2 ^ E)=m:=rnd_is _ _ _ hup hlo
 have hub:X<Y * 2 ^ (E+53):=by
  rw [p53]
  have:(m+1) * (Y * 2 ^ E)≤9007199254740992 * (Y * 2 ^ E):=Nat.mul_le_mul_right _ h1
  rw [Nat.add_mul,Nat.one_mul] at this
  rw [e1] at hup
  omega
 by_cases hlow:E=0∨Y * 2 ^ (E+52)≤X
 ·have h3:lev X Y=E:=lev_is _ _ _ hY hub hlow
  unfold near
  rw [h3,hrn]
 ·obtain ⟨E',rfl⟩:∃ E',E=E'+1:=⟨E - 1,by omega⟩
  have hmge:4503599627370496≤m:=by omega
  have hX:X<Y * 2 ^ (E'+1+52):=by omega
  rw [p52] at hX
  have hm:m=4503599627370496:=by
   rcases Nat.lt_or_ge 4503599627370496 m with h | h
   ·have h5:(4503599627370496+1) * (Y * 2 ^ (E'+1))≤m * (Y * 2 ^ (E'+1)):=Nat.mul_le_mul_right _ h
    rw [Nat.add_mul,Nat.one_mul] at h5
    rw [e3] at hlo
    omega
   ·omega
  have hq:=hq hm
  subst hm
  have e2:4 * 4503599627370496 * (Y * 2 ^ (E'+1))=4 * (4503599627370496 * (Y * 2 ^ (E'+1))):=Nat.mul_assoc _ _ _
  have e4:Y * 2 ^ (E'+1)=2 * (Y * 2 ^ E'):=by rw [Nat.pow_succ,← Nat.mul_assoc,Nat.mul_comm]
  rw [e4] at hX
  rw [e2,e4] at hq
  have hp':0<Y * 2 ^ E':=Nat.mul_pos hY (Nat.pow_pos (by decide))
  have h3:lev X Y=E':=by
   refine lev_is _ _ _ hY (by rw [p53];omega) (.inr ?_)
   rw [p52];omega
  have h4:rnd X (Y * 2 ^ E')=9007199254740992:=by
   refine rnd_is _ _ _ ?_ ?_
   ·omega
   ·omega
  unfold near
  rw [h3,h4];omega
def tz:Nat:=1074
theorem tz_eq:tz=1074:=rfl
theorem at_level (x y:Nat) (e:Int) (E:Nat) (hE:(E:Int)=e+tz):∃ c,0<c∧x * 2 ^ tz=x * 2 ^ (max (-e) 0).toNat * c∧y * 2 ^ E=y * 2 ^ (max e 0).toNat * c:=by
 rcases Int.le_total 0 e with h | h
 ·refine ⟨2 ^ tz,Nat.pow_pos (by decide),?_,?_⟩
  ·rw [show (max (-e) 0).toNat=0 from by omega,Nat.pow_zero,Nat.mul_one]
  ·rw [Nat.mul_assoc,← Nat.pow_add];congr 2;omega
 ·refine ⟨2 ^ E,Nat.pow_pos (by decide),?_,?_⟩
  ·rw [Nat.mul_assoc,← Nat.pow_add];congr 2;omega
  ·rw [show (max e 0).toNat=0 from by omega,Nat.pow_zero,Nat.mul_one]
end Go.Proofs.YteclejplbphkpaaGreat
namespace Go.Proofs.YteclejplbphkpaaGreat
open Go.RowKit
def isDig (c:UInt8):Bool:=decide (48≤c.toNat) && decide (c.toNat≤57)
def digV (c:UInt8):Nat:=c.toNat - 48
def scanS:Bool→List UInt8→List UInt8×Nat×Bool×List UInt8
 | p,[]=>([],0,p,[])
 | p,c :: s =>
  if isDig c then (c :: (scanS p s).1,(scanS p s).2.1+(if p then 1 else 0),(scanS p s).2.2)
  else if c.toNat=46∧p=false then scanS true s
  else ([],0,p,c :: s)
def expDigits:List UInt8→Nat→Option Nat
 | [],v=>some v
 | c :: s,v=>if isDig c then expDigits s (min (v * 10+digV c) 100000) else none
def signS:List UInt8→Bool×List UInt8
 | []=>(false,[])
 | c :: s=>if c.toNat=43 then (false,s) else if c.toNat=45 then (true,s) else (false,c :: s)
def expS:List UInt8→Option (Int×Bool)
 | []=>some (0,false)
 | c :: s =>
  if c.toNat=101∨c.toNat=69 then
   if (signS s).2=[] then none
   else match expDigits (signS s).2 0 with
    | none=>none
    | some v=>some (if (signS s).1 then -(v:Int) else (v:Int),decide (400<v))
  else none
def valS (ds:List UInt8):Nat:=ds.foldl (fun x c=>10 * x+digV c) 0
def numS (n:Nat) (k:Int):Nat:=if 0≤k then near (n * 10 ^ k.toNat * 2 ^ tz) 1 else near (n * 2 ^ tz) (10 ^ (-k).toNat)
def LIM:Nat:=9218868437227405312
def parseS (s:List UInt8):Nat×Nat :=
 let t:=(signS s).2
 let r:=scanS false t
 if r.1=[]∨r.2.2.1=true∧r.2.1=0 then (0,2)
 else match expS r.2.2.2 with
  | none=>(0,2)
  | some (v,big) =>
   if 60<r.1.length then (0,4)
   else if big then (0,5)
   else if numS (valS r.1) (v - r.2.1)<LIM then ((if (signS s).1 then 9223372036854775808 else 0)+numS (valS r.1) (v - r.2.1),0)
   else (0,5)
end Go.Proofs.YteclejplbphkpaaGreat
