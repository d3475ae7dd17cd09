/- Slices of one-cell elements as lists: what a call owns, what it reads, and how they last. Plain lemmas over any program. Values as trees, and how they are compared. Plain. Which values simple types have, and structs of such. Plain. What a call owns at any offset of a block, and append onto it. A region that draws its order, in which some operations read and others make memory: one walk serves every order, if at each step the operation taken either reads alone (and gives one value however memory has grown) or is the only one that can come up. Plain lemmas over any program. A block that the call made, with the values of its cells. Plain lemmas. Texts as lists of bytes. Plain lemmas. Rows of structs that the call owns, of any type: what the call reads and appends. Worlds that changed in one block alone. Plain lemmas. Rows of structs that the call owns last where one block alone changed. Values in memory, as they are read. Schemas in memory, of one struct or one enum; what value's functions are asked for. What value's functions are asked for. -/
import Derived.WalkKit
import Derived.Lib.Hide
import Derived.Lib.ConvBytes
import Derived.Lib.AppendStr
import Derived.Maps.AppendAt
import Derived.Laws.BytesArg
import Derived.Deep.Draws
import Derived.OwnWalk
import Derived.Lib.SlBytesConst
import Derived.ArgAppend
import Derived.Lib.AppendZeros
import Derived.Lib.AppendZerosOnto
import Derived.Still
import Derived.Deep.Quiet
import Derived.Deep.QuietTactic
import Derived.Test.YtnfelopknfdpfaaDoorProg
import Derived.WalkSpells
import Derived.BigQuiet
import Derived.Lib.Strings
import Derived.Deep.DeepCutAuto
set_option linter.unusedVariables false
set_option linter.unusedSimpArgs false
set_option linter.unnecessarySimpa false
namespace Go.Proofs.YtnfelopknfdpfaaDoor
open Go.RowKit
def bv (u:UInt8):Value:=.int .u8 (u.toNat:Int)
theorem bv_ofNat (n:Nat) (k:Int) (h:k=((n % 256:Nat):Int)):Value.int .u8 k=bv (UInt8.ofNat n):=by
 subst h;simp [bv,UInt8.toNat_ofNat]
structure ElT (P:Program) (t e:TypeId) (bytes:Nat):Prop where
 ht:P.underlying t=some (.slice e)
 inf:∃ i z,P.info? e=some i∧i.zero=some z∧i.size=1∧i.bytes=bytes∧z.cells.size=1
section rows
variable {α:Type} {f:α→Value} {e:TypeId} {w w':World} {B B':Nat} {v:Value} {A:Option Addr} {xs ys:List α}
def Own (f:α→Value) (e:TypeId) (w:World) (B:Nat) (v:Value) (xs:List α):Prop:=w.ownsRow B e 1 v xs.length (xs.map f)
def Rd (f:α→Value) (w:World) (A:Option Addr) (xs:List α):Prop :=
 0<xs.length→∃ b off,A=some ⟨b,off,none⟩∧b<w.heap.size∧∀ j (h:j<xs.length),w.cell? ⟨b,off+j,none⟩=some (f xs[j])
theorem Rd.nil:Rd f w A ([]:List α):=fun h=>absurd h (by simp)
theorem Rd.keep (h:Rd f w A xs) (hs:w.heap.size≤w'.heap.size) (hk:∀ p:Addr,p.block<w.heap.size→w'.cell? p=w.cell? p):Rd f w' A xs:=fun hn=>by
 obtain ⟨b,off,e,hb,hc⟩:=h hn
 exact ⟨b,off,e,by omega,fun j hj=>(hk _ hb).trans (hc j hj)⟩
theorem Rd.below (h:Rd f w A xs) (hb:Below w.heap.size w w'):Rd f w' A xs:=h.keep hb.size fun _ hp=>hb.cell hp
theorem Rd.alloc (h:Rd f w A xs) (o:Obj):Rd f (w.alloc o) A xs:=h.below ((Below.refl _ _).alloc (Nat.le_refl _) o)
theorem Rd.drew (h:Rd f w A xs):Rd f w.drew A xs:=h
theorem Rd.at_ {k:Nat} (h:Rd f w A xs) (hk:k<xs.length):∃ b off,A=some ⟨b,off,none⟩∧b<w.heap.size∧w.cell? ⟨b,off+k,none⟩=some (f xs[k]):=by
 obtain ⟨b,off,e,hb,hc⟩:=h (by omega)
 exact ⟨b,off,e,hb,hc k hk⟩
theorem Rd.cut {l h cap:Nat} (hr:Rd f w A xs) (hl:l≤h) (hh:h≤xs.length) (hc:xs.length≤cap) :
  Rd f w (if cap=l then A else A.map (·.add (l * 1))) ((xs.take h).drop l):=by
 intro hn
 simp only [List.length_drop,List.length_take] at hn
 obtain ⟨b,off,rfl,hb,hcell⟩:=hr (by omega)
 rw [if_neg (by omega)]
 refine ⟨b,off+l,?_,hb,fun j hj=>?_⟩
 ·by_cases h0:l=0 <;> simp [Addr.add,h0]
 ·simp only [List.length_drop,List.length_take] at hj
  rw [List.getElem_drop,List.getElem_take,Nat.add_assoc]
  exact hcell (l+j) (by omega)
theorem Rd.sliced {l h cap:Nat} (hr:Rd f w A xs) (hl:l≤h) (hh:h≤xs.length) (hc:xs.length≤cap) :
  ∃ A',sliced A l h cap 1 = .slice A' ((xs.take h).drop l).length (cap - l)∧Rd f w A' ((xs.take h).drop l):=by
 have e:((xs.take h).drop l).length=h - l:=by simp [List.length_drop,List.length_take];omega
 rcases A with _ | a
 ·refine ⟨none,?_,?_⟩
  ·simp [Go.sliced,e]
  ·intro hn;obtain ⟨b,off,h,_⟩:=hr (by omega);cases h
 ·have hc:=hr.cut hl hh hc
  by_cases hcl:cap=l
  ·rw [if_pos hcl] at hc
   refine ⟨_,?_,hc⟩
   simp [Go.sliced,e,hcl]
  ·rw [if_neg hcl] at hc
   refine ⟨_,?_,hc⟩
   simp [Go.sliced,e,hcl]
theorem Own.nil_:Own f e w B (.slice none 0 0) ([]:List α):=World.ownsRow_nil w B e 1
theorem Own.empty (w:World):Own f e (w.alloc (.cells #[] e)) w.heap.size (.slice (some ⟨w.heap.size,0,none⟩) 0 0) ([]:List α) :=
 World.ownsRow_made w #[] 0 (Nat.le_refl _) (Nat.zero_le _) rfl
theorem Own.alloc (h:Own f e w B v xs) (o:Obj):Own f e (w.alloc o) B v xs:=World.ownsRow.alloc h o
theorem Own.drew (h:Own f e w B v xs):Own f e w.drew B v xs:=h
theorem Own.less (h:Own f e w B v xs) (hB:B'≤B):Own f e w B' v xs:=by
 obtain ⟨h1,h2⟩:=h
 refine ⟨h1,?_⟩
 rcases h2 with h2 | ⟨g,cap,cur,hv,hg,r⟩
 ·exact .inl h2
 ·exact .inr ⟨g,cap,cur,hv,by omega,r⟩
theorem Own.sl (h:Own f e w B v xs):∃ A c,v = .slice A xs.length c∧xs.length≤c∧c≤maxLen∧Rd f w A xs:=by
 obtain ⟨h1,h2⟩:=h
 rcases h2 with ⟨rfl,h0⟩ | ⟨g,cap,cur,rfl,hg,hh,hn,hm,hs,ht⟩
 ·have:xs=[]:=List.eq_nil_of_length_eq_zero h0
  subst this
  exact ⟨none,0,rfl,Nat.le_refl _,Nat.zero_le _,Rd.nil⟩
 ·refine ⟨_,cap,rfl,hn,hm,fun _=>⟨g,0,rfl,?_,fun j hj=>?_⟩⟩
  ·rcases Nat.lt_or_ge g w.heap.size with h | h
   ·exact h
   ·rw [Array.getElem?_eq_none h] at hh;cases hh
  ·have hj':(xs.map f)[j]? = some (f xs[j]):=by simp [hj]
   have hcj:cur[j]? = some (f xs[j]):=by
    rw [← ht,List.getElem?_take] at hj'
    split at hj'
    ·simpa using hj'
    ·cases hj'
   rw [Nat.zero_add]
   rw [cell_of_row w g j cur e (0,0) hh]
   exact hcj
theorem Own.below (h:Own f e w B v xs) (hb:Below w.heap.size w w'):Own f e w' B v xs:=by
 obtain ⟨h1,h2⟩:=h
 refine ⟨h1,?_⟩
 rcases h2 with h2 | ⟨g,cap,cur,hv,hg,hh,r⟩
 ·exact .inl h2
 ·refine .inr ⟨g,cap,cur,hv,hg,?_,r⟩
  rw [hb.block g ?_];exact hh
  rcases Nat.lt_or_ge g w.heap.size with h | h
  ·exact h
  ·rw [Array.getElem?_eq_none h] at hh;cases hh
end rows
section laws
variable {α:Type} {f:α→Value} {P:Program} (w:World) {ops:Array Oper} {rest:List Oper} {o:Oper} {a:Act} {Q:Exit→Act→World→Prop}
theorem below_grown {B:Nat} {v:Value} {xs:List α} {e:TypeId} {w w':World} (hown:Own f e w B v xs) (hg:w.grownBy w' v.ownBlock) (hB:B≤w.heap.size):Below B w w' :=
 (Below.refl B w).grown hg hB fun k hk=>(World.ownsRow.lt hown k hk).1
theorem wpList_app {t e:TypeId} {by_:Nat} (T:ElT P t e by_) (hgd:o.guard=none) (s x:Operand)
  (ho:o.op = .call { callee:=.builtin .append,args:=#[s,x],argTypes:=#[t,t] })
  (hf:∀ x:α,(f x).oneCell'=true)
  (B:Nat) (v:Value) (xs ys:List α) (hs:a.eval s=v) (hown:Own f e w B v xs)
  (A:Option Addr) (c:Nat) (hx:a.eval x = .slice A ys.length c) (hr:Rd f w A ys)
  (h63:xs.length+ys.length≤maxLen) (hby:(xs.length+ys.length) * by_≤140737488355328) (hB:B≤w.heap.size)
  (h:∀ v' w',Own f e w' B v' (xs++ys)→Below B w w'→wpList P ops Q rest (a.put o.dst v') w'):wpList P ops Q (o :: rest) a w:=by
 refine wpList_plain hgd fun K hK=>?_
 obtain ⟨i,z,hi,hz,h1,h2,h3⟩:=T.inf
 have key:∃ v' w',(Builtin.append_ #[t,t] o.type #[v,.slice A ys.length c]).run P w = .ok v' w'∧Own f e w' B v' (xs++ys)∧Below B w w':=by
  rcases A with _ | ad
  ·have h0:ys=[]:=by
    rcases Nat.eq_zero_or_pos ys.length with h | h
    ·exact List.eq_nil_of_length_eq_zero h
    ·obtain ⟨_,_,h,_⟩:=hr h;cases h
   subst h0
   refine ⟨v,w,?_,by simpa using hown,Below.refl _ _⟩
   rcases hown.2 with ⟨rfl,_⟩ | ⟨g,cap,cur,rfl,_,_,hnc,_⟩
   ·simp [Builtin.append_,run_underlying T.ht,sizeOf,typeInfo,hi,Builtin.lenOf,Builtin.firstCells]
   ·simp [Builtin.append_,run_underlying T.ht,sizeOf,typeInfo,hi,Builtin.lenOf,Builtin.firstCells,hnc,storeCells]
  ·have hl:(ys.map f).length=ys.length * 1:=by simp
   have hcells:∀ j u,(ys.map f)[j]? = some u→w.cell? (ad.add j)=some u:=by
    intro j u hu
    have hj:j<ys.length:=by
     rcases Nat.lt_or_ge j ys.length with h | h
     ·exact h
     ·rw [List.getElem?_eq_none (by simpa using h)] at hu;cases hu
    have hu':u=f ys[j]:=by simpa [hj] using hu.symm
    subst hu'
    obtain ⟨b,off,he,hb,hc⟩:=hr (by omega)
    injection he with he
    subst he
    have:=hc j hj
    by_cases j0:j=0
    ·subst j0;simpa [Addr.add] using this
    ·simpa [Addr.add,j0] using this
   have hone:∀ u ∈ ys.map f,u.oneCell'=true:=by
    intro u hu
    obtain ⟨y,_,rfl⟩:=List.mem_map.1 hu
    exact hf y
   obtain ⟨v',w',hrun,ho',hg,_⟩:=run_append_own_at (P:=P) w B t o.type e i z 1 by_ T.ht hi hz h1 h2 h3 (by decide) v xs.length (xs.map f) hown ad ys.length c (ys.map f) hl hcells hone h63 hby hB
   refine ⟨v',w',hrun,?_,below_grown hown hg hB⟩
   unfold Own
   rw [List.length_append,List.map_append]
   exact ho'
 obtain ⟨v',w',hrun,ho',hbel⟩:=key
 have:=hK _ _ (h v' w' ho' hbel)
 unfold Oper.wp execOp
 simp only [ho,resolve,invoke,builtin,Sem.run_bind,Sem.run_pure,Result.andThen_ok,List.map_toArray,List.map_cons,List.map_nil,hs,hx,hrun]
 exact this
structure Cut (f:α→Value) (w:World) (xs:List α) (l h:Int) (A:Option Addr) (ys:List α):Prop where
 rd:Rd f w A ys
 eq:Hid (ys=(xs.take h.toNat).drop l.toNat)
 lo:(ys.length:Int)≤h - l
 hi:h - l≤(ys.length:Int)
theorem conv_str {A:Option Addr} {xs:List UInt8} (src dst e:TypeId) (hs:P.underlying src=some (.slice e)) (he:P.underlying e=some (.int .u8)) (hd:P.underlying dst=some .string)
  (hr:Rd bv w A xs) (c:Nat):(convert src dst (.slice A xs.length c)).run P w = .ok (.string ⟨xs.toArray⟩) w:=by
 rcases A with _ | a
 ·have h0:xs=[]:=by
   rcases Nat.eq_zero_or_pos xs.length with h | h
   ·exact List.eq_nil_of_length_eq_zero h
   ·obtain ⟨_,_,h,_⟩:=hr h;cases h
  subst h0
  exact run_convert_bytes_nil w src e hs he _ _ dst hd
 ·by_cases h0:xs.length=0
  ·have:xs=[]:=List.eq_nil_of_length_eq_zero h0
   subst this
   rw [run_convert_bytes_string w src dst e _ _ c hs he hd]
   simp [Conv.bytesToString,loadCells,loadCellsFrom]
   rfl
  ·obtain ⟨b,off,hA,hb,hc⟩:=hr (by omega)
   injection hA with hA
   subst hA
   have:=run_convert_bytes_arg w src e hs he b off xs.length c (xs.map fun u=>(u.toNat:Int)) (by simp) (fun i hi=>by
    rw [hc i hi];simp [List.getD,hi,bv]) dst hd
   rw [this]
   congr 2
   simp [strOfNums,Function.comp_def]
theorem wpList_str {src dst e:TypeId} (hgd:o.guard=none) (x:Operand) (ho:o.op = .convert src dst x) (hs:P.underlying src=some (.slice e)) (he:P.underlying e=some (.int .u8)) (hd:P.underlying dst=some .string)
  (A:Option Addr) (xs:List UInt8) (c:Nat) (hx:a.eval x = .slice A xs.length c) (hr:Rd bv w A xs)
  (h:∀ s:ByteArray,Hid (s=⟨xs.toArray⟩)→s.size≤xs.length→xs.length≤s.size→wpList P ops Q rest (a.put o.dst (.string s)) w):wpList P ops Q (o :: rest) a w:=by
 refine wpList_plain hgd fun K hK=>?_
 have hrun:=conv_str (P:=P) w src dst e hs he hd hr c
 have:=hK _ _ (h ⟨xs.toArray⟩ rfl (by simp [ByteArray.size]) (by simp [ByteArray.size]))
 unfold Oper.wp execOp
 simp only [ho,Sem.run_bind,Sem.run_pure,Result.andThen_ok,hx,hrun]
 exact this
end laws
theorem nx {a b c:World} (h:Below a.heap.size a b) (k:Below b.heap.size b c):Below a.heap.size a c:=h.trans (k.mono h.size)
theorem nxa {a b:World} (h:Below a.heap.size a b) (o:Obj):Below a.heap.size a (b.alloc o):=h.alloc h.size o
theorem nx0 (a:World) (o:Obj):Below a.heap.size a (a.alloc o):=(Below.refl _ _).alloc (Nat.le_refl _) o
theorem Rd.one {α:Type} {f:α→Value} {w:World} {e:TypeId} {V:Value} {x:α} {g:Nat} (h:V=f x) (hg:g=w.heap.size):Rd f (w.alloc (.cells #[V] e)) (some ⟨g,0,none⟩) [x]:=by
 subst hg
 intro _
 refine ⟨_,_,rfl,by simp,fun j hj=>?_⟩
 have:j=0:=by simpa using hj
 subst this
 rw [World.cell?_alloc_at _ _ _ _ (by simp)]
 simp [h]
def RowBytes (w:World) (A:Option Addr) (len cap:Nat):Prop:=∃ xs:List UInt8,len=xs.length∧Rd bv w A xs∧xs.length≤cap∧cap≤maxLen
theorem row_bytes_nil (w:World):RowBytes w none 0 0:=⟨[],rfl,Rd.nil,Nat.le_refl _,Nat.zero_le _⟩
def RowInts (k:IntKind) (w:World) (A:Option Addr) (len cap:Nat):Prop :=
 ∃ xs:List Int,len=xs.length∧Rd (Value.int k) w A xs∧xs.length≤cap∧cap≤maxLen∧∀ n ∈ xs,(Lit.int k n).wf=true
theorem row_ints {k:IntKind} (w:World) (x:Addr) (len cap:Nat) (zs:List Int) (hl:len≤cap) (hm:cap≤maxLen) (hz:zs.length=cap)
  (hcell:∀ i,i<zs.length→w.cell? (x.add i)=some (.int k (zs.getD i 0))) (hwz:∀ n ∈ zs,(Lit.int k n).wf=true):RowInts k w (some x) len cap:=by
 have hlen:(zs.take len).length=len:=by rw [List.length_take];omega
 refine ⟨zs.take len,hlen.symm,fun hn=>?_,by omega,hm,fun n h=>hwz n (List.mem_of_mem_take h)⟩
 rw [hlen] at hn
 obtain ⟨b,off,sp⟩:=x
 have h0:=hcell 0 (by omega)
 have hsp:sp=none:=by simpa [Addr.add] using World.cell?_spot h0
 subst hsp
 refine ⟨b,off,rfl,?_,fun j hj=>?_⟩
 ·have:=World.block_lt_of_cell? w _ h0
  simpa [Addr.add] using this
 ·rw [hlen] at hj
  have:=hcell j (by omega)
  rw [Addr.add_lit] at this
  rw [this,List.getElem_take]
  have hj':j<zs.length:=by omega
  simp [List.getD,hj']
theorem row_bytes (w:World) (x:Addr) (len cap:Nat) (zs:List Int) (hl:len≤cap) (hm:cap≤maxLen) (hz:zs.length=cap)
  (hcell:∀ i,i<zs.length→w.cell? (x.add i)=some (.int .u8 (zs.getD i 0))) (hwz:∀ n ∈ zs,(Lit.int .u8 n).wf=true):RowBytes w (some x) len cap:=by
 obtain ⟨xs,h1,h2,h3,h4,h5⟩:=row_ints (k:=.u8) w x len cap zs hl hm hz hcell hwz
 refine ⟨xs.map fun n=>UInt8.ofNat n.toNat,by simpa using h1,fun hn=>?_,by simpa using h3,h4⟩
 rw [List.length_map] at hn
 obtain ⟨b,off,e,hb,hc⟩:=h2 hn
 refine ⟨b,off,e,hb,fun j hj=>?_⟩
 rw [List.length_map] at hj
 rw [hc j hj,List.getElem_map]
 have hw:=h5 _ (List.getElem_mem hj)
 generalize xs[j]=n at hw
 have h01:0≤n∧n≤255:=by
  simp [Lit.wf,IntKind.min,IntKind.max,IntKind.signed,IntKind.bits] at hw
  omega
 rw [← bv_ofNat n.toNat n (by omega)]
end Go.Proofs.YtnfelopknfdpfaaDoor
namespace Go.Proofs.YtnfelopknfdpfaaDoor
inductive Val where
 | mk (k:Nat) (n:Int) (s:List UInt8) (l:List Val) (ids:List Int)
def leafV (k:Nat) (n:Int):Val:=.mk k n [] [] []
end Go.Proofs.YtnfelopknfdpfaaDoor
namespace Go.Proofs.YtnfelopknfdpfaaDoor
def baseT (t:List UInt8):Option Nat :=
 if t=[98,111,111,108] then some 2
 else if t=[105,56] then some 3
 else if t=[100,111,117,98,108,101] then some 4
 else if t=[105,49,54] then some 6
 else if t=[105,51,50] then some 8
 else if t=[105,54,52] then some 10
 else none
def rngB (k:Nat) (a:Int):Bool :=
 if k=2 then decide (a=0) || decide (a=1)
 else if k=3 then decide (-128≤a) && decide (a≤127)
 else if k=6 then decide (-32768≤a) && decide (a≤32767)
 else if k=8 then decide (-2147483648≤a) && decide (a≤2147483647)
 else true
def chkB (k:Nat):Val→Bool
 | .mk k' a _ _ _=>decide (k'=k) && rngB k a
def chkE (nums:List Int):Val→Bool
 | .mk k a _ _ _=>decide (k=17) && decide (a ∈ nums)
structure FldP where
 id:Int
 req:Int
 ty:List UInt8
def tyB (ty:List UInt8) (v:Val):Bool:=match baseT ty with
 | some k=>chkB k v
 | none=>false
def ascB (l:List Int):Bool:=decide (l.Pairwise (· < ·))
def eachB (fs:List FldP):List Int→List Val→Bool
 | i :: is,v :: vs=>(match fs.find? (fun f=>decide (f.id=i)) with | some f=>tyB f.ty v | none=>false) && eachB fs is vs
 | _,_=>true
def fldV (K:Int) (fs:List FldP):Val→Bool
 | .mk k _ _ l ids=>decide (k=12) && decide (ids.length=l.length) && ascB ids && eachB fs ids l && fs.all (fun f=>!decide (f.req=1) || decide (f.id ∈ ids)) && (!decide (K=5) || decide (ids.length=1)) && (!decide (K=8) || decide (ids.length≤1))
end Go.Proofs.YtnfelopknfdpfaaDoor
namespace Go.Proofs.YtnfelopknfdpfaaDoor
open Go.RowKit
section rows
variable {α:Type} {f:α→Value} {e:TypeId} {w w':World} {B:Nat} {v:Value} {xs ys:List α}
def OwnG (f:α→Value) (w:World) (B:Nat) (v:Value) (xs:List α):Prop :=
 (v = .slice none 0 0∧xs=[]) ∨
 ∃ g off cap,v = .slice (some ⟨g,off,none⟩) xs.length cap∧B≤g∧g<w.heap.size∧xs.length≤cap∧cap≤maxLen ∧
  (∀ j,j<cap→(w.cell? ⟨g,off+j,none⟩).isSome=true∧w.frozen? ⟨g,off+j,none⟩=false) ∧
  ∀ j (h:j<xs.length),w.cell? ⟨g,off+j,none⟩=some (f xs[j])
theorem OwnG.sl (h:OwnG f w B v xs):∃ A c,v = .slice A xs.length c∧xs.length≤c∧c≤maxLen∧Rd f w A xs:=by
 rcases h with ⟨rfl,rfl⟩ | ⟨g,off,cap,rfl,hB,hg,hn,hm,hs,hc⟩
 ·exact ⟨none,0,rfl,Nat.le_refl _,Nat.zero_le _,Rd.nil⟩
 ·exact ⟨_,cap,rfl,hn,hm,fun _=>⟨g,off,rfl,hg,hc⟩⟩
theorem OwnG.below (h:OwnG f w B v xs) (hb:Below w.heap.size w w'):OwnG f w' B v xs:=by
 rcases h with h | ⟨g,off,cap,rfl,hB,hg,hn,hm,hs,hc⟩
 ·exact .inl h
 ·refine .inr ⟨g,off,cap,rfl,hB,Nat.lt_of_lt_of_le hg hb.size,hn,hm,fun j hj=>?_,fun j hj=>?_⟩
  ·rw [hb.cell (p:=⟨g,off+j,none⟩) hg,hb.frozen (p:=⟨g,off+j,none⟩) hg];exact hs j hj
  ·rw [hb.cell (p:=⟨g,off+j,none⟩) hg];exact hc j hj
theorem OwnG.less {B':Nat} (h:OwnG f w B v xs) (hB:B'≤B):OwnG f w B' v xs:=by
 rcases h with h | ⟨g,off,cap,hv,hB',r⟩
 ·exact .inl h
 ·exact .inr ⟨g,off,cap,hv,Nat.le_trans hB hB',r⟩
theorem OwnG.drew (h:OwnG f w B v xs):OwnG f w.drew B v xs:=h
theorem OwnG.cut {A:Option Addr} {c:Nat} (h:OwnG f w B (.slice A xs.length c) xs) {l h':Nat} (hl:l≤h') (hh:h'≤xs.length) :
  ∃ A' c',Go.sliced A l h' c 1 = .slice A' ((xs.take h').drop l).length c'∧OwnG f w B (.slice A' ((xs.take h').drop l).length c') ((xs.take h').drop l):=by
 have e0:((xs.take h').drop l).length=h' - l:=by simp [List.length_drop,List.length_take];omega
 rcases h with ⟨h1,rfl⟩ | ⟨g,off,cap,h1,hB,hg,hn,hm,hs,hc⟩
 ·cases h1
  obtain rfl:h'=0:=by simpa using hh
  obtain rfl:l=0:=by omega
  exact ⟨none,0,by simp [Go.sliced],.inl ⟨rfl,rfl⟩⟩
 ·cases h1
  by_cases hcl:c=l
  ·have hz:(xs.take h').drop l=[]:=by
    apply List.eq_nil_of_length_eq_zero;omega
   refine ⟨some ⟨g,off,none⟩,0,by simp [Go.sliced,e0,hcl],.inr ⟨g,off,0,by simp,hB,hg,by simp [hz],by simp [maxLen],fun j hj=>by omega,fun j hj=>by simp [hz] at hj⟩⟩
  ·refine ⟨some ⟨g,off+l,none⟩,c - l,?_,.inr ⟨g,off+l,c - l,rfl,hB,hg,by omega,by omega,fun j hj=>?_,fun j hj=>?_⟩⟩
   ·simp [Go.sliced,e0,hcl,Addr.add]
   ·rw [Nat.add_assoc];exact hs (l+j) (by omega)
   ·rw [List.getElem_drop,List.getElem_take,Nat.add_assoc]
    exact hc (l+j) (by omega)
end rows
section laws
variable {α:Type} {f:α→Value} {P:Program} (w:World) {ops:Array Oper} {rest:List Oper} {o:Oper} {a:Act} {Q:Exit→Act→World→Prop}
end laws
end Go.Proofs.YtnfelopknfdpfaaDoor
namespace Go.Proofs.YtnfelopknfdpfaaDoor
open Go.RowKit
def Nx (w w':World):Prop:=Below w.heap.size w w'
theorem Nx.refl (w:World):Nx w w:=Below.refl _ _
theorem Nx.trans {a b c:World} (h:Nx a b) (k:Nx b c):Nx a c:=nx h k
theorem Nx.drawn (w:World):Nx w { w with drawn:=w.drawn+1 }:=⟨rfl,rfl,rfl,Nat.le_refl _,fun _ _=>rfl⟩
theorem Nx.drewN (w:World) (n:Nat):Nx w (w.drewN n):=⟨rfl,rfl,rfl,Nat.le_refl _,fun _ _=>rfl⟩
abbrev Gr (w:World):={ w':World // Nx w w' }
instance grNonempty (w:World):Nonempty (Gr w):=⟨⟨w,Nx.refl w⟩⟩
section
variable {P:Program} {ops:Array Oper} {md:Region.Mode}
def calm (P:Program) (o:Oper) (a:Act) (w:World) (next:Act→Prop):Prop :=
 ∃ v,(∀ x:Gr w,o.quietAt P a (fun w''=>w''=x.1) x.1 v)∧next (a.put o.dst v)
def gOp (P:Program) (ops:Array Oper) (i:Nat) (K:Act→World→Prop) (a:Act) (w:World):Prop :=
 match ops[i]? with
 | none=>K a w
 | some o=>if Region.wanted o (yielded ops a.tmps) then o.wp P a w K (fun _ _ _=>False) else K (a.put o.dst undef) w
def GA (P:Program) (md:Region.Mode) (ops:Array Oper) (Q:Act→World→Prop):Nat→Array Bool→Act→World→Prop
 | 0,listed,a,w=>Region.ready md ops listed=[]∧∀ w1,Nx w w1→Q a w1
 | f+1,listed,a,w=>∀ w1,Nx w w1→(Region.ready md ops listed=[]→Q a w1) ∧
   ∀ i ∈ Region.ready md ops listed,gOp P ops i (fun a' w'=>Nx w1 w'∧GA P md ops Q f (listed.setIfInBounds i true) a' w') a w1
theorem GA.grow {Q:Act→World→Prop} {f:Nat} {listed:Array Bool} {a:Act} {w w1:World} (h:GA P md ops Q f listed a w) (hn:Nx w w1):GA P md ops Q f listed a w1:=by
 cases f with
 | zero=>exact ⟨h.1,fun w2 h2=>h.2 w2 (hn.trans h2)⟩
 | succ f=>exact fun w2 h2=>h w2 (hn.trans h2)
theorem wp_mono_both {o:Oper} {a:Act} {w:World} {K K':Act→World→Prop} {Q:Exit→Act→World→Prop} (h:∀ a w,K a w→K' a w) (hh:o.wp P a w K (fun _ _ _=>False)) (hl:True):o.wp P a w K' Q:=by
 unfold Oper.wp at *
 generalize (execOp a.eval o).run P w=r at *
 cases r with
 | ok n w' =>
  cases n <;> simp only [Oper.upon] at hh ⊢
  case value v=>exact h _ _ hh
  case skip=>exact h _ _ hh
  case defer d=>exact h _ _ hh
  case enter f args =>
   refine hh.mono fun e w'' he=>?_
   cases e with
   | returned v=>exact h _ _ he
   | panicked c=>exact he.elim
   | outgrown=>exact absurd he (by simp [LetsOut])
  case row r args=>exact hh.mono fun v w'' he=>h _ _ he
 | halt x w'=>cases x <;> simp only [Oper.upon] at hh
theorem wpAny_of_GA {Q:Act→World→Prop} {Q':Exit→Act→World→Prop} (hQ:∀ a w,Q a w→Q' .normal a w):∀ (f:Nat) (listed:Array Bool) (a:Act) (w:World),
  GA P md ops Q f listed a w→wpAny P md ops Q' f listed a w
 | 0,_,_,w,h=>⟨h.1,hQ _ _ (h.2 w (Nx.refl w))⟩
 | f+1,listed,a,w,h=>by
  refine ⟨fun h0=>hQ _ _ ((h w (Nx.refl w)).1 h0),fun i hi=>?_⟩
  have:=(h w (Nx.refl w)).2 i hi
  unfold gOp at this
  unfold wpOp
  split
  ·rename_i ho;simp only [ho] at this;exact wpAny_of_GA hQ f _ _ _ this.2
  ·rename_i o ho
   simp only [ho] at this
   split
   ·rename_i hw;simp only [hw,if_true] at this;exact .inl (wp_mono_both (fun a' w' h'=>wpAny_of_GA hQ f _ _ _ h'.2) this trivial)
   ·rename_i hw;simp only [hw] at this;exact wpAny_of_GA hQ f _ _ _ this.2
def YG (P:Program) (ops:Array Oper) (w:World) (o:Oper) (v:Value) (a:Act):Prop :=
 (Region.wanted o (yielded ops a.tmps)=true∧∀ x:Gr w,o.quietAt P a (fun w''=>w''=x.1) x.1 v) ∨
 (Region.wanted o (yielded ops a.tmps)=false∧v=undef)
theorem YG.grow {w w1:World} {o:Oper} {v:Value} {a:Act} (h:YG P ops w o v a) (hn:Nx w w1):YG P ops w1 o v a:=by
 rcases h with ⟨h1,h2⟩ | h
 ·exact .inl ⟨h1,fun x=>h2 ⟨x.1,hn.trans x.2⟩⟩
 ·exact .inr h
theorem YG.gOp {i:Nat} {w:World} {o:Oper} {v:Value} {a:Act} (hi:ops[i]? = some o) (hy:YG P ops w o v a) {K:Act→World→Prop} (h:K (a.put o.dst v) w):gOp P ops i K a w:=by
 unfold Go.Proofs.YtnfelopknfdpfaaDoor.gOp
 simp only [hi]
 rcases hy with ⟨hw,hv⟩ | ⟨hw,rfl⟩
 ·simp only [hw,if_true]
  have h3:=hv ⟨w,Nx.refl w⟩
  unfold Oper.quietAt at h3
  unfold Oper.wp
  generalize (execOp a.eval o).run P w=r at *
  cases r with
  | ok n w' =>
   cases n <;> simp only [Oper.quietUpon] at h3 <;> simp only [Oper.upon]
   case value u=>obtain ⟨e1,e2⟩:=h3;rw [e1,e2];exact h
   case skip=>obtain ⟨e1,e2⟩:=h3;rw [e1,← e2];exact h
   case enter f args =>
    obtain ⟨e1,hc⟩:=h3
    rw [e1]
    exact hc.mono fun e w'' ⟨he,hw''⟩=>by subst he;rw [hw''];exact h
  | halt x w'=>simp only [Oper.quietUpon] at h3
 ·simp only [hw,Bool.false_eq_true,if_false];exact h
theorem YG.of_same {w:World} {o:Oper} {v:Value} {a a':Act} (hy:YG P ops w o v a) (he:execOp a'.eval o=execOp a.eval o)
  (hw:Region.wanted o (yielded ops a'.tmps)=Region.wanted o (yielded ops a.tmps)):YG P ops w o v a':=by
 unfold YG Oper.quietAt at *
 rw [he,hw]
 exact hy
theorem defers_put (a:Act) (ds:List Deferred) (x:Option Tmp) (v:Value):({ a with defers:=ds }:Act).put x v = { a.put x v with defers:=ds }:=by cases x <;> rfl
theorem gOp_put {j:Nat} {w:World} {oi oj:Oper} {v:Value} (hj:ops[j]? = some oj) (hap:oi.apart ops oj=true)
  (hsi:∀ cs b,oi.op≠.select cs b) (hsj:∀ cs b,oj.op≠.select cs b) {K:Act→World→Prop} {a:Act}
  (hy:YG P ops w oi v a) (h:gOp P ops j K (a.put oi.dst v) w) :
  gOp P ops j (fun a' w'=>YG P ops w oi v a'∧K (a'.put oi.dst v) w') a w:=by
 obtain ⟨h1,h2,h3⟩:=Oper.apart_spec hap
 have keep:∀ u,YG P ops w oi v (a.put oj.dst u):=fun u =>
  hy.of_same (execOp_put oi hsi a oj.dst u h3) (wanted_put oi a oj.dst u h3)
 have pc:∀ u,(a.put oi.dst v).put oj.dst u=(a.put oj.dst u).put oi.dst v:=fun u=>Act.put_comm a v u h2
 unfold Go.Proofs.YtnfelopknfdpfaaDoor.gOp at *
 simp only [hj] at *
 rw [wanted_put oj a oi.dst v h1] at h
 split
 ·rename_i hw
  simp only [hw,if_true] at h
  unfold Oper.wp at *
  rw [execOp_put oj hsj a oi.dst v h1] at h
  generalize (execOp a.eval oj).run P w=r at *
  cases r with
  | ok n w' =>
   cases n <;> simp only [Oper.upon] at h ⊢
   case value u=>exact ⟨keep u,by rw [← pc];exact h⟩
   case skip=>exact ⟨keep _,by rw [← pc];exact h⟩
   case defer d =>
    have hd:(a.put oi.dst v).defers=a.defers:=by cases oi.dst <;> rfl
    rw [hd,defers_put,pc] at h
    rw [defers_put]
    refine ⟨(keep undef).of_same rfl rfl,?_⟩
    rw [defers_put]
    exact h
   case enter f args =>
    refine h.mono fun e w'' he=>?_
    cases e with
    | returned u=>exact ⟨keep u,by rw [← pc];exact he⟩
    | panicked c=>exact he.elim
    | outgrown=>exact absurd he (by simp [LetsOut])
   case row r args=>exact h.mono fun u w'' he=>⟨keep u,by rw [← pc];exact he⟩
  | halt x w'=>cases x <;> simp only [Oper.upon] at h
 ·rename_i hw
  simp only [hw] at h
  exact ⟨keep _,by rw [← pc];exact h⟩
theorem gOp_mono {i:Nat} {a:Act} {w:World} {K K':Act→World→Prop} (h:∀ a w,K a w→K' a w) (hh:gOp P ops i K a w):gOp P ops i K' a w:=by
 unfold Go.Proofs.YtnfelopknfdpfaaDoor.gOp at *
 split
 ·exact h _ _ (by simpa [*] using hh)
 ·rename_i o ho
  simp only [ho] at hh
  split
  ·rename_i hw;simp only [hw,if_true] at hh;exact wp_mono_both h hh trivial
  ·rename_i hw;simp only [hw] at hh;exact h _ _ hh
theorem GA_first {Q:Act→World→Prop} {i:Nat} {oi:Oper} {v:Value} (hi:ops[i]? = some oi) (hsel:∀ (j:Nat) (o:Oper) cs b,ops[j]? = some o→o.op≠.select cs b) :
  ∀ (f:Nat) (listed:Array Bool) (a:Act) (w:World),
   (∀ j oj,ops[j]? = some oj→j≠i→listed.getD j true=false→(∀ e ∈ oj.after,Region.binds md e=true→e.on≠i)→oi.apart ops oj=true) →
   i ∈ Region.ready md ops listed→YG P ops w oi v a →
   GA P md ops Q f (listed.setIfInBounds i true) (a.put oi.dst v) w→GA P md ops Q (f+1) listed a w:=by
 intro f
 induction f with
 | zero =>
  intro listed a w _ hr hy H w1 hn
  refine ⟨fun h=>(by rw [h] at hr;cases hr),fun j hj=>?_⟩
  by_cases hji:j=i
  ·subst hji;exact (hy.grow hn).gOp hi ⟨Nx.refl _,H.grow hn⟩
  ·have:=ready_mono hj hji
   rw [H.1] at this
   cases this
 | succ f ih =>
  intro listed a w hfree hr hy H w1 hn
  refine ⟨fun h=>(by rw [h] at hr;cases hr),fun j hj=>?_⟩
  by_cases hji:j=i
  ·subst hji;exact (hy.grow hn).gOp hi ⟨Nx.refl _,H.grow hn⟩
  ·have h1:=(H w1 hn).2 j (ready_mono hj hji)
   obtain ⟨hjun,oj,hoj,hall⟩:=mem_ready.1 hj
   have hnot:∀ e ∈ oj.after,Region.binds md e=true→e.on≠i:=fun e he hb heq=>by
    have h1:=hall e he hb
    have h0:=(mem_ready.1 hr).1
    rw [heq] at h1
    rcases Nat.lt_or_ge i listed.size with h' | h'
    ·simp [h'] at h0 h1;rw [h0] at h1;cases h1
    ·simp [Array.getElem?_eq_none h'] at h1
   have h2:=gOp_put hoj (hfree j oj hoj hji hjun hnot) (fun cs b=>hsel i oi cs b hi) (fun cs b=>hsel j oj cs b hoj) (hy.grow hn) h1
   have hfree':∀ k ok,ops[k]? = some ok→k≠i→(listed.setIfInBounds j true).getD k true=false →
     (∀ e ∈ ok.after,Region.binds md e=true→e.on≠i)→oi.apart ops ok=true:=fun k ok hk hki hun hno=>by
    refine hfree k ok hk hki ?_ hno
    by_cases hjk:j=k
    ·subst hjk;exact hjun
    ·rw [getD_set_ne true hjk] at hun;exact hun
   refine gOp_mono (fun a' w' h3=>⟨h3.2.1,ih (listed.setIfInBounds j true) a' w' hfree' (ready_mono hr (Ne.symm hji)) (h3.1.grow h3.2.1) ?_⟩) h2
   rw [Array.setIfInBounds_comm _ _ hji]
   exact h3.2.2
def wpHyb (P:Program) (ops:Array Oper) (Q:Act→World→Prop):List (Nat×Bool)→Act→World→Prop
 | [],a,w=>∀ w1,Nx w w1→Q a w1
 | (k,true) :: rest,a,w=>match ops[k]? with
  | none=>False
  | some o=>if Region.wanted o (yielded ops a.tmps) then calm P o a w (fun a'=>wpHyb P ops Q rest a' w) else wpHyb P ops Q rest (a.put o.dst undef) w
 | (k,false) :: rest,a,w=>∀ w1,Nx w w1→match ops[k]? with
  | none=>False
  | some o=>if Region.wanted o (yielded ops a.tmps) then o.wp P a w1 (fun a' w'=>Nx w1 w'∧wpHyb P ops Q rest a' w') (fun _ _ _=>False) else wpHyb P ops Q rest (a.put o.dst undef) w1
def hybFrom (md:Region.Mode) (ops:Array Oper):List (Nat×Bool)→Array Bool→Bool
 | [],listed=>(Region.ready md ops listed).isEmpty
 | (k,true) :: rest,listed=>(Region.ready md ops listed).contains k && Region.free md ops listed k && hybFrom md ops rest (listed.setIfInBounds k true)
 | (k,false) :: rest,listed=>Region.ready md ops listed == [k] && hybFrom md ops rest (listed.setIfInBounds k true)
def hybB (md:Region.Mode) (ops:Array Oper) (s:List (Nat×Bool)):Bool:=Region.noSelect ops && s.length == ops.size && hybFrom md ops s (Array.replicate ops.size false)
theorem GA_hyb {Q:Act→World→Prop} (hs:Region.noSelect ops=true):∀ (s:List (Nat×Bool)) (listed:Array Bool) (a:Act) (w:World),
  hybFrom md ops s listed=true→wpHyb P ops Q s a w→GA P md ops Q s.length listed a w
 | [],listed,a,w,hB,h=>⟨by simpa [hybFrom] using hB,h⟩
 | (k,true) :: rest,listed,a,w,hB,h=>by
  simp only [hybFrom,Bool.and_eq_true] at hB
  obtain ⟨⟨hr,hf⟩,hB'⟩:=hB
  have hr':k ∈ Region.ready md ops listed:=by simpa using hr
  obtain ⟨_,o,ho,_⟩:=mem_ready.1 hr'
  simp only [wpHyb,ho] at h
  by_cases hw:Region.wanted o (yielded ops a.tmps)=true
  ·simp only [hw,if_true] at h
   obtain ⟨v,h1,h2⟩:=h
   exact GA_first ho (Region.noSelect_spec hs) rest.length listed a w (Region.free_spec ho hf) hr' (.inl ⟨hw,h1⟩) (GA_hyb hs rest _ _ _ hB' h2)
  ·simp only [hw] at h
   exact GA_first ho (Region.noSelect_spec hs) rest.length listed a w (Region.free_spec ho hf) hr' (.inr ⟨by simpa using hw,rfl⟩) (GA_hyb hs rest _ _ _ hB' h)
 | (k,false) :: rest,listed,a,w,hB,h=>by
  simp only [hybFrom,Bool.and_eq_true,beq_iff_eq] at hB
  obtain ⟨hr,hB'⟩:=hB
  intro w1 hn
  refine ⟨fun h0=>(by rw [hr] at h0;cases h0),fun i hi=>?_⟩
  rw [hr] at hi
  obtain rfl:i=k:=by simpa using hi
  have h:=h w1 hn
  unfold gOp
  cases ho:ops[i]? with
  | none=>rw [ho] at h;exact h.elim
  | some o =>
   rw [ho] at h
   simp only at h ⊢
   by_cases hw:Region.wanted o (yielded ops a.tmps)=true
   ·simp only [hw,if_true] at h ⊢
    exact wp_mono_both (fun a' w' h'=>⟨h'.1,GA_hyb hs rest _ _ _ hB' h'.2⟩) h trivial
   ·simp only [hw] at h ⊢
    exact ⟨Nx.refl _,GA_hyb hs rest _ _ _ hB' h⟩
structure Hyb (P:Program) (ops:Array Oper) (Q:Act→World→Prop) (s:List (Nat×Bool)) (a:Act) (w:World):Prop where
 out:wpHyb P ops Q s a w
theorem wp_region_hyb {id:Nat} {Q:Exit→Act→World→Prop} {a:Act} {w:World} {l:List Oper} (s:List (Nat×Bool)) (hm:P.follows .mixedOrders=true) (hB:hybB .any l.toArray s=true)
  (h:Hyb P l.toArray (fun a w=>Q .normal a w) s a w):(Code.region id l.toArray true).wp P Q a w:=by
 simp only [hybB,Bool.and_eq_true,beq_iff_eq] at hB
 obtain ⟨⟨h1,h2⟩,h3⟩:=hB
 refine wp_region_any hm (wpAny_of_GA (Q:=fun a w=>Q .normal a w) (fun _ _ h=>h) _ _ _ _ ?_)
 have:=GA_hyb (md:=.any) h1 s _ _ _ h3 h.out
 rw [h2] at this
 exact this.grow (Nx.drawn w)
theorem hyb_calm {Q:Act→World→Prop} {k:Nat} {o:Oper} {rest:List (Nat×Bool)} {a:Act} {w:World} (ho:ops[k]? = some o)
  (h:∀ K:Act→Prop,(∀ a,Hyb P ops Q rest a w→K a)→if Region.wanted o (yielded ops a.tmps) then calm P o a w K else K (a.put o.dst undef)):Hyb P ops Q ((k,true) :: rest) a w:=by
 refine ⟨?_⟩
 simp only [wpHyb,ho]
 exact h _ (fun _ h=>h.out)
theorem hyb_alone {Q:Act→World→Prop} {k:Nat} {o:Oper} {rest:List (Nat×Bool)} {a:Act} {w:World} (ho:ops[k]? = some o)
  (h:∀ w1,Nx w w1→∀ K:Act→World→Prop,(∀ a' w',Nx w1 w'→Hyb P ops Q rest a' w'→K a' w')→if Region.wanted o (yielded ops a.tmps) then o.wp P a w1 K (fun _ _ _=>False) else K (a.put o.dst undef) w1):Hyb P ops Q ((k,false) :: rest) a w:=by
 refine ⟨?_⟩
 intro w1 hn
 simp only [ho]
 have:=h w1 hn (fun a' w'=>Nx w1 w'∧wpHyb P ops Q rest a' w') (fun a' w' h1 h2=>⟨h1,h2.out⟩)
 split
 ·rename_i hw;simpa [hw] using this
 ·rename_i hw;simp [hw] at this;exact this.2
theorem hyb_nil {Q:Act→World→Prop} {a:Act} {w:World} (h:∀ w1,Nx w w1→Q a w1):Hyb P ops Q [] a w:=⟨h⟩
end
attribute [go_sem] calm
end Go.Proofs.YtnfelopknfdpfaaDoor
namespace Go.Proofs.YtnfelopknfdpfaaDoor
open Go.RowKit
def Blk (w:World) (B g:Nat) (cs:Array Value) (T:TypeId):Prop:=B≤g∧w.heap[g]? = some (.cells cs T (0,0))
theorem Blk.lt {w:World} {B g:Nat} {cs:Array Value} {T:TypeId} (h:Blk w B g cs T):g<w.heap.size:=by
 rcases Nat.lt_or_ge g w.heap.size with h1 | h1
 ·exact h1
 ·have:=h.2;rw [Array.getElem?_eq_none h1] at this;cases this
theorem Blk.new (w:World) (cs:Array Value) (T:TypeId):Blk (w.alloc (.cells cs T)) w.heap.size w.heap.size cs T:=⟨Nat.le_refl _,heap_alloc_new w _⟩
theorem Blk.less {w:World} {B B' g:Nat} {cs:Array Value} {T:TypeId} (h:Blk w B g cs T) (hB:B'≤B):Blk w B' g cs T:=⟨Nat.le_trans hB h.1,h.2⟩
theorem Blk.below {w w':World} {B g:Nat} {cs:Array Value} {T:TypeId} (h:Blk w B g cs T) (hb:Below w.heap.size w w'):Blk w' B g cs T:=⟨h.1,by rw [hb.block g h.lt];exact h.2⟩
theorem Blk.alloc {w:World} {B g:Nat} {cs:Array Value} {T:TypeId} (h:Blk w B g cs T) (o:Obj):Blk (w.alloc o) B g cs T:=h.below (nx0 w o)
theorem Blk.cell {w:World} {B g:Nat} {cs:Array Value} {T:TypeId} (h:Blk w B g cs T) (i:Nat):w.cell? ⟨g,i,none⟩=cs[i]?:=by
 unfold World.cell?;rw [h.2];rfl
theorem Blk.free {w:World} {B g:Nat} {cs:Array Value} {T:TypeId} (h:Blk w B g cs T) (i:Nat):w.frozen? ⟨g,i,none⟩=false:=by
 unfold World.frozen?;rw [h.2];simp
theorem Blk.put {w:World} {B g:Nat} {cs:Array Value} {T:TypeId} (h:Blk w B g cs T) (i:Nat) (v:Value):Blk (w.setCell ⟨g,i,none⟩ v) B g (cs.setIfInBounds i v) T:=by
 refine ⟨h.1,?_⟩
 have hl:=h.lt
 have h2:=h.2
 rw [Array.getElem?_eq_getElem hl] at h2
 simp only [World.setCell]
 rw [Array.getElem?_modify,if_pos rfl,Array.getElem?_eq_getElem hl,Option.some.inj h2]
 rfl
theorem Blk.other {w:World} {B g k:Nat} {cs:Array Value} {T:TypeId} (h:Blk w B g cs T) (hk:k≠g) (i:Nat) (v:Value):Blk (w.setCell ⟨k,i,none⟩ v) B g cs T:=by
 refine ⟨h.1,?_⟩
 simp only [World.setCell]
 rw [Array.getElem?_modify,if_neg hk];exact h.2
theorem Blk.drew {w:World} {B g:Nat} {cs:Array Value} {T:TypeId} (h:Blk w B g cs T) (n:Nat):Blk (w.drewN n) B g cs T:=h
theorem Nx.put {w w':World} {B g:Nat} {cs:Array Value} {T:TypeId} (h:Nx w w') (hk:Blk w' w.heap.size g cs T) (i:Nat) (v:Value):Nx w (w'.setCell ⟨g,i,none⟩ v):=Below.setCell h hk.1 v
theorem Nx.put' {w w':World} {g:Nat} (h:Nx w w') (hk:w.heap.size≤g) (i:Nat) (v:Value):Nx w (w'.setCell ⟨g,i,none⟩ v):=Below.setCell h hk v
theorem Nx.dr {w w':World} (h:Nx w w') (n:Nat):Nx w (w'.drewN n):=⟨h.os,h.tape,h.output,h.size,h.block⟩
theorem Nx.al {w w':World} (h:Nx w w') (o:Obj):Nx w (w'.alloc o):=nxa h o
end Go.Proofs.YtnfelopknfdpfaaDoor
namespace Go.Proofs.YtnfelopknfdpfaaDoor
open Go.RowKit
def Tx (s:ByteArray) (l:List UInt8):Prop:=s.data.toList=l
theorem Tx.size {s:ByteArray} {l:List UInt8} (h:Tx s l):s.size=l.length:=by rw [Lib.size_eq,show s.data.toList=l from h]
theorem Tx.eq {s:ByteArray} {l:List UInt8} (h:Tx s l):s=⟨l.toArray⟩:=by rw [← show s.data.toList=l from h,Lib.mk_data]
theorem Tx.toL {s:ByteArray} {l:List UInt8} (h:Tx s l):s.toList=l:=by rw [Lib.toList_data];exact h
theorem Tx.of (l:List UInt8):Tx ⟨l.toArray⟩ l:=by unfold Tx;rfl
theorem Tx.nil {s:ByteArray} (h:Tx s []):s.toList=[]∧s.size=0:=⟨h.toL,h.size⟩
theorem Tx.cons {s:ByteArray} {c:UInt8} {l:List UInt8} (h:Tx s (c :: l)):∃ (hp:0<s.size) (t:ByteArray),s[0]'hp=c∧s.extract 1 s.size=t∧Tx t l∧¬ s.toList=[]∧s.toList.isEmpty=false:=by
 have hz:s.size=l.length+1:=by rw [h.size];rfl
 refine ⟨by omega,s.extract 1 s.size,?_,rfl,?_,by rw [h.toL];simp,by rw [h.toL];rfl⟩
 ·obtain ⟨⟨d⟩⟩:=s
  obtain rfl:d=c :: l:=h
  rfl
 ·unfold Tx
  rw [Lib.extract_data,show s.data.toList=c :: l from h,hz]
  simp
theorem Tx.idx {s:ByteArray} {l:List UInt8} (h:Tx s l) (i:Nat) (hi:i<l.length):∃ hp:i<s.size,s[i]'hp=l[i]:=by
 refine ⟨by rw [h.size];exact hi,?_⟩
 obtain ⟨⟨d⟩⟩:=s
 obtain rfl:d=l:=h
 rfl
theorem Tx.mid {s:ByteArray} {l:List UInt8} (h:Tx s l) (a n:Nat):∃ u,s.extract a n=u∧Hid (Tx u ((l.take n).drop a)) :=
 ⟨_,rfl,by unfold Hid Tx;rw [Lib.extract_data,show s.data.toList=l from h,List.drop_take]⟩
end Go.Proofs.YtnfelopknfdpfaaDoor
namespace Go.Proofs.YtnfelopknfdpfaaDoor
open Go.RowKit
section
variable {α:Type} {f:α→Array Value} {k:Nat} {T:TypeId}
def rowL (f:α→Array Value) (xs:List α):List Value:=xs.flatMap fun x=>(f x).toList
theorem rowL_length (hf:∀ x,(f x).size=k) (xs:List α):(rowL f xs).length=xs.length * k:=by
 induction xs with
 | nil=>simp [rowL]
 | cons x xs ih =>
  have:rowL f (x :: xs)=(f x).toList++rowL f xs:=rfl
  rw [this,List.length_append,ih,Array.length_toList,hf,List.length_cons,Nat.succ_mul,Nat.add_comm]
theorem rowL_snoc (xs:List α) (x:α):rowL f (xs++[x])=rowL f xs++(f x).toList:=by
 unfold rowL;simp
theorem rowL_get (hf:∀ x,(f x).size=k) (xs:List α) (i:Nat) (hi:i<xs.length) (j:Nat) (hj:j<k):(rowL f xs)[i * k+j]? = (f xs[i])[j]?:=by
 induction xs generalizing i with
 | nil=>simp at hi
 | cons x xs ih =>
  have e:rowL f (x :: xs)=(f x).toList++rowL f xs:=rfl
  have e5:(f x).toList.length=k:=by rw [Array.length_toList];exact hf x
  rw [e]
  cases i with
  | zero =>
   rw [List.getElem?_append_left (by rw [e5];omega),Nat.zero_mul,Nat.zero_add]
   simp
  | succ i =>
   have e6:(i+1) * k=i * k+k:=Nat.succ_mul i k
   rw [List.getElem?_append_right (by rw [e5];omega),e5]
   have:(i+1) * k+j - k=i * k+j:=by omega
   rw [this,ih i (by simpa using hi)]
   simp
def OwnS (f:α→Array Value) (k:Nat) (T:TypeId) (w:World) (B:Nat) (v:Value) (xs:List α):Prop:=w.ownsRow B T k v xs.length (rowL f xs)
def RdS (f:α→Array Value) (k:Nat) (w:World) (A:Option Addr) (xs:List α):Prop :=
 0<xs.length→∃ g,A=some ⟨g,0,none⟩∧g<w.heap.size∧∀ i (h:i<xs.length) j,j<k→w.cell? ⟨g,i * k+j,none⟩=(f xs[i])[j]?
theorem OwnS.nil_ (w:World) (B:Nat):OwnS f k T w B (.slice none 0 0) []:=World.ownsRow_nil w B _ _
theorem OwnS.alloc {w:World} {B:Nat} {v:Value} {xs:List α} (h:OwnS f k T w B v xs) (o:Obj):OwnS f k T (w.alloc o) B v xs:=World.ownsRow.alloc h o
theorem OwnS.less {w:World} {B B':Nat} {v:Value} {xs:List α} (h:OwnS f k T w B v xs) (hB:B'≤B):OwnS f k T w B' v xs:=by
 obtain ⟨h1,h2⟩:=h
 refine ⟨h1,?_⟩
 rcases h2 with h2 | ⟨g,cap,cur,hv,hg,r⟩
 ·exact .inl h2
 ·exact .inr ⟨g,cap,cur,hv,by omega,r⟩
theorem OwnS.nx {w w':World} {B:Nat} {v:Value} {xs:List α} (h:OwnS f k T w B v xs) (ho:Nx w w'):OwnS f k T w' B v xs:=by
 obtain ⟨h1,h2⟩:=h
 refine ⟨h1,?_⟩
 rcases h2 with h2 | ⟨g,cap,cur,hv,hg,hh,r⟩
 ·exact .inl h2
 ·refine .inr ⟨g,cap,cur,hv,hg,?_,r⟩
  rw [ho.block g ?_];exact hh
  rcases Nat.lt_or_ge g w.heap.size with h | h
  ·exact h
  ·rw [Array.getElem?_eq_none h] at hh;cases hh
theorem OwnS.sl (hf:∀ x,(f x).size=k) {w:World} {B:Nat} {v:Value} {xs:List α} (h:OwnS f k T w B v xs):∃ A c,v = .slice A xs.length c∧xs.length≤c∧c≤maxLen∧RdS f k w A xs:=by
 obtain ⟨h1,h2⟩:=h
 rcases h2 with ⟨rfl,h0⟩ | ⟨g,cap,cur,rfl,hg,hh,hn,hm,hs,ht⟩
 ·have:xs=[]:=List.eq_nil_of_length_eq_zero h0
  subst this
  exact ⟨none,0,rfl,Nat.le_refl _,Nat.zero_le _,fun h=>by simp at h⟩
 ·refine ⟨_,cap,rfl,hn,hm,fun _=>⟨g,rfl,?_,fun i hi j hj=>?_⟩⟩
  ·rcases Nat.lt_or_ge g w.heap.size with h | h
   ·exact h
   ·rw [Array.getElem?_eq_none h] at hh;cases hh
  ·have hlt:i * k+j<xs.length * k:=by
    have h1:(i+1) * k≤xs.length * k:=Nat.mul_le_mul_right k hi
    have h2:(i+1) * k=i * k+k:=Nat.succ_mul i k
    omega
   rw [cell_of_row w g (i * k+j) cur _ (0,0) hh,← rowL_get hf xs i hi j hj,← ht,List.getElem?_take,if_pos (by simpa using hlt)]
   simp
theorem RdS.nx {w w':World} {A:Option Addr} {xs:List α} (h:RdS f k w A xs) (hn:Nx w w'):RdS f k w' A xs:=fun h0=>by
 obtain ⟨g,e,hg,hc⟩:=h h0
 refine ⟨g,e,Nat.lt_of_lt_of_le hg hn.size,fun i hi j hj=>?_⟩
 rw [← hc i hi j hj]
 unfold World.cell?
 simp only
 rw [hn.block g hg]
end
section
variable (w:World) {ops:Array Oper} {rest:List Oper} {o:Oper} {a:Act} {Q:Exit→Act→World→Prop} {α:Type} {f:α→Array Value} {k sz:Nat} {T T2:TypeId} {z:Value}
theorem wpList_appS (hinfo:(Tryd.prog.info? T).map (fun i=>(i.zero,i.size,i.bytes))=some (some z,k,sz)) (hund:Tryd.prog.underlying T2=some (.slice T)) (hzs:z.cells.size=k) (hk:0<k) (hsz:sz≤1000)
  (hf:∀ x,(f x).size=k) (hone:∀ x,∀ u ∈ (f x).toList,u.oneCell'=true)
  (hgd:o.guard=none) (s x:Operand) (ho:o.op = .call { callee:=.builtin .append,args:=#[s,x],argTypes:=#[T2,T2] })
  (B:Nat) (v:Value) (xs:List α) (y:α) (hs:a.eval s=v) (hown:OwnS f k T w B v xs) (g:Nat) (hx:a.eval x = .slice (some ⟨g,0,none⟩) 1 1)
  (hy:∀ j,j<k→w.cell? ⟨g,j,none⟩=(f y)[j]?) (h63:(xs.length:Int)≤100000) (hB:B≤w.heap.size)
  (h:∀ v' w',OwnS f k T w' B v' (xs++[y])→Below B w w'→(∀ k,k<w.heap.size→v.ownBlock≠some k→w'.heap[k]? = w.heap[k]?)→wpList Tryd.prog ops Q rest (a.put o.dst v') w'):wpList Tryd.prog ops Q (o :: rest) a w:=by
 refine wpList_plain hgd fun K hK=>?_
 obtain ⟨i,hi,hz,h1,h2⟩:=info_parts hinfo
 have hcells:∀ j u,((f y).toList)[j]? = some u→w.cell? ((⟨g,0,none⟩:Addr).add j)=some u:=by
  intro j u hu
  have hj:j<k:=by
   rcases Nat.lt_or_ge j k with h | h
   ·exact h
   ·rw [List.getElem?_eq_none (by rw [Array.length_toList,hf];exact h)] at hu;cases hu
  rw [Addr.add_lit,Nat.zero_add,hy j hj]
  rw [← hu];simp
 obtain ⟨v',w',hrun,ho',hg,_⟩:=run_append_own_at (P:=Tryd.prog) w B T2 o.type T i _ k sz hund hi hz h1 h2 hzs hk v xs.length (rowL f xs) hown ⟨g,0,none⟩ 1 1 (f y).toList (by rw [Array.length_toList,hf,Nat.one_mul]) hcells (hone y) (by simp [maxLen];omega)
  (by
    have:(xs.length+1) * sz≤100001 * 1000:=Nat.mul_le_mul (by omega) hsz
    omega) hB
 have hbel:Below B w w':=(Below.refl B w).grown hg hB fun k hk=>(World.ownsRow.lt hown k hk).1
 have hown':OwnS f k T w' B v' (xs++[y]):=by
  unfold OwnS
  rw [List.length_append,rowL_snoc]
  exact ho'
 have:=hK _ _ (h v' w' hown' hbel (fun k hk hne=>hg.block k hk (Ne.symm hne)))
 unfold Oper.wp execOp
 simp only [ho,resolve,invoke,builtin,Sem.run_bind,Sem.run_pure,Result.andThen_ok,List.map_toArray,List.map_cons,List.map_nil,hs,hx,hrun]
 exact this
end
end Go.Proofs.YtnfelopknfdpfaaDoor
namespace Go.Proofs.YtnfelopknfdpfaaDoor
open Go.RowKit
structure Oth (b:Nat) (w w':World):Prop where
 os:w'.os=w.os
 tape:w'.tape=w.tape
 output:w'.output=w.output
 size:w.heap.size≤w'.heap.size
 block:∀ k,k<w.heap.size→k≠b→w'.heap[k]? = w.heap[k]?
theorem Oth.refl (b:Nat) (w:World):Oth b w w:=⟨rfl,rfl,rfl,Nat.le_refl _,fun _ _ _=>rfl⟩
theorem Oth.trans {b:Nat} {x y z:World} (h:Oth b x y) (k:Oth b y z):Oth b x z :=
 ⟨k.os.trans h.os,k.tape.trans h.tape,k.output.trans h.output,Nat.le_trans h.size k.size,fun i hi hb=>(k.block i (Nat.lt_of_lt_of_le hi h.size) hb).trans (h.block i hi hb)⟩
theorem Oth.nx {b:Nat} {w w':World} (h:Nx w w'):Oth b w w':=⟨h.os,h.tape,h.output,h.size,fun k hk _=>h.block k hk⟩
theorem Oth.set (w:World) (b i:Nat) (v:Value):Oth b w (w.setCell ⟨b,i,none⟩ v) :=
 ⟨rfl,rfl,rfl,by simp [World.setCell],fun k _ hk=>by simp only [World.setCell];rw [Array.getElem?_modify,if_neg (fun e=>hk e.symm)]⟩
theorem Oth.to {w w1 w':World} {b:Nat} (h:Oth b w1 w') (hn:Nx w w1) (hb:w.heap.size≤b):Nx w w' :=
 ⟨h.os.trans hn.os,h.tape.trans hn.tape,h.output.trans hn.output,Nat.le_trans hn.size h.size,fun k hk=>(h.block k (Nat.lt_of_lt_of_le hk hn.size) (by omega)).trans (hn.block k hk)⟩
theorem Oth.blk {w w':World} {b B g:Nat} {cs:Array Value} {T:TypeId} (h:Oth b w w') (k:Blk w B g cs T) (hg:g≠b):Blk w' B g cs T :=
 ⟨k.1,by rw [h.block g k.lt hg];exact k.2⟩
theorem Oth.mono {w w1 w':World} {b:Nat} (h:Oth b w1 w') (hn:Nx w w1):Oth b w w':=(Oth.nx hn).trans h
theorem Oth.put {w w':World} {b g:Nat} (h:Oth b w w') (hg:w.heap.size≤g) (i:Nat) (v:Value):Oth b w (w'.setCell ⟨g,i,none⟩ v) :=
 ⟨h.os,h.tape,h.output,by simp [World.setCell];exact h.size,fun k hk hb=>by simp only [World.setCell];rw [Array.getElem?_modify,if_neg (by omega)];exact h.block k hk hb⟩
theorem Oth.own {w w':World} {b i:Nat} {v:Value} (h:Oth b w w'):Oth b w (w'.setCell ⟨b,i,none⟩ v):=h.trans (Oth.set _ _ _ _)
end Go.Proofs.YtnfelopknfdpfaaDoor
namespace Go.Proofs.YtnfelopknfdpfaaDoor
open Go.RowKit
section
variable {α:Type} {f:α→Array Value} {k:Nat} {T:TypeId}
theorem OwnS.oth {w w':World} {B b:Nat} {v:Value} {xs:List α} (h:OwnS f k T w B v xs) (ho:Oth b w w') (hb:b<B):OwnS f k T w' B v xs:=by
 obtain ⟨h1,h2⟩:=h
 refine ⟨h1,?_⟩
 rcases h2 with h2 | ⟨g,cap,cur,hv,hg,hh,r⟩
 ·exact .inl h2
 ·refine .inr ⟨g,cap,cur,hv,hg,?_,r⟩
  rw [ho.block g ?_ (by omega)];exact hh
  rcases Nat.lt_or_ge g w.heap.size with h | h
  ·exact h
  ·rw [Array.getElem?_eq_none h] at hh;cases hh
end
end Go.Proofs.YtnfelopknfdpfaaDoor
namespace Go.Proofs.YtnfelopknfdpfaaDoor
open Go.RowKit
structure ValS where
 k:Nat
 n:Int
 s:List UInt8
 l:Value
 ids:Value
def valA (x:ValS):Array Value:=#[.int .i64 (x.k:Int),.int .i64 x.n,.string ⟨x.s.toArray⟩,x.l,x.ids]
theorem valA_size (x:ValS):(valA x).size=5:=rfl
theorem valA_agg (x:ValS):(Value.agg (valA x)) = .agg #[.int .i64 (x.k:Int),.int .i64 x.n,.string ⟨x.s.toArray⟩,x.l,x.ids]:=rfl
def RdO (w:World) (A:Option Addr) (xs:List ValS):Prop :=
 0<xs.length→∃ g off,A=some ⟨g,off,none⟩∧g<w.heap.size∧∀ i (h:i<xs.length) j,j<5→w.cell? ⟨g,off+i * 5+j,none⟩=(valA xs[i])[j]?
theorem RdO.nx {w w':World} {A:Option Addr} {xs:List ValS} (h:RdO w A xs) (hn:Nx w w'):RdO w' A xs:=fun h0=>by
 obtain ⟨g,off,e,hg,hc⟩:=h h0
 refine ⟨g,off,e,Nat.lt_of_lt_of_le hg hn.size,fun i hi j hj=>?_⟩
 rw [← hc i hi j hj]
 unfold World.cell?
 simp only
 rw [hn.block g hg]
def RdL (R:ValS→Val→Prop) (w:World) (v:Value) (l:List Val):Prop :=
 ∃ A c ys,v = .slice A l.length c∧l.length≤c∧c≤maxLen∧RdO w A ys∧ys.length=l.length∧∀ i (h1:i<ys.length) (h2:i<l.length),R ys[i] l[i]
def RdI (w:World) (v:Value) (ids:List Int):Prop:=∃ A c,v = .slice A ids.length c∧ids.length≤c∧c≤maxLen∧Rd (Value.int .i64) w A ids
def RdV:Nat→World→ValS→Val→Prop
 | 0,_,_,_=>False
 | n+1,w,x,.mk k a s l i=>x.k=k∧x.n=a∧x.s=s∧RdL (RdV n w) w x.l l∧RdI w x.ids i
theorem RdI.nx {w w':World} {v:Value} {l:List Int} (h:RdI w v l) (hn:Nx w w'):RdI w' v l:=by
 obtain ⟨A,c,e,h1,h2,h3⟩:=h
 exact ⟨A,c,e,h1,h2,h3.below hn⟩
theorem RdL.nx {R R':ValS→Val→Prop} (hR:∀ x y,R x y→R' x y) {w w':World} {v:Value} {l:List Val} (h:RdL R w v l) (hn:Nx w w'):RdL R' w' v l:=by
 obtain ⟨A,c,ys,e,h1,h2,h3,h4,h5⟩:=h
 exact ⟨A,c,ys,e,h1,h2,h3.nx hn,h4,fun i a b=>hR _ _ (h5 i a b)⟩
theorem RdV.nx {w w':World} (hn:Nx w w'):∀ (n:Nat) {x:ValS} {v:Val},RdV n w x v→RdV n w' x v
 | 0,_,_,h=>h
 | n+1,x,.mk k a s l i,h=>⟨h.1,h.2.1,h.2.2.1,h.2.2.2.1.nx (fun x y h=>RdV.nx hn n h) hn,h.2.2.2.2.nx hn⟩
theorem RdI.nil_ (w:World):RdI w (.slice none 0 0) []:=⟨none,0,rfl,Nat.le_refl _,Nat.zero_le _,Rd.nil⟩
theorem RdL.nil_ (R:ValS→Val→Prop) (w:World):RdL R w (.slice none 0 0) []:=⟨none,0,[],rfl,Nat.le_refl _,Nat.zero_le _,fun h=>absurd h (by decide),rfl,fun i h=>absurd h (by simp)⟩
def leafS (k:Nat) (a:Int):ValS:=⟨k,a,[],.slice none 0 0,.slice none 0 0⟩
theorem RdV.leaf (n:Nat) (w:World) (k:Nat) (a:Int):RdV (n+1) w (leafS k a) (leafV k a):=⟨rfl,rfl,rfl,RdL.nil_ _ _,RdI.nil_ _⟩
theorem RdL.own {w:World} {B n:Nat} {v:Value} {xs:List ValS} {l:List Val} (h:OwnS valA 5 41 w B v xs) (hl:xs.length=l.length) (hr:∀ i (h1:i<xs.length) (h2:i<l.length),RdV n w xs[i] l[i]):RdL (RdV n w) w v l:=by
 obtain ⟨A,c,e,h1,h2,h3⟩:=h.sl valA_size
 refine ⟨A,c,xs,by rw [e,hl],by omega,h2,fun h0=>?_,hl,hr⟩
 obtain ⟨g,e2,hg,hc⟩:=h3 h0
 exact ⟨g,0,e2,hg,fun i hi j hj=>by rw [Nat.zero_add];exact hc i hi j hj⟩
end Go.Proofs.YtnfelopknfdpfaaDoor
namespace Go.Proofs.YtnfelopknfdpfaaDoor
open Go.RowKit
def RdR {α:Type} (f:α→Array Value) (k:Nat) (w:World) (A:Option Addr) (xs:List α):Prop :=
 0<xs.length→∃ g off,A=some ⟨g,off,none⟩∧g<w.heap.size∧∀ i (h:i<xs.length) j,j<k→w.cell? ⟨g,off+i * k+j,none⟩=(f xs[i])[j]?
theorem RdR.nx {α:Type} {f:α→Array Value} {k:Nat} {w w':World} {A:Option Addr} {xs:List α} (h:RdR f k w A xs) (hn:Nx w w'):RdR f k w' A xs:=fun h0=>by
 obtain ⟨g,off,e,hg,hc⟩:=h h0
 refine ⟨g,off,e,Nat.lt_of_lt_of_le hg hn.size,fun i hi j hj=>?_⟩
 rw [← hc i hi j hj]
 exact hn.cell (p:=⟨g,off+i * k+j,none⟩) hg
structure FldS where
 id:Int
 req:Int
 ty:List UInt8
 nm:List UInt8
 hi:Bool
 ini:ValS
def fldA (f:FldS):Array Value:=#[.int .i64 f.id,.int .i64 f.req,.string ⟨f.ty.toArray⟩,.string ⟨f.nm.toArray⟩,.bool f.hi,.int .i64 (f.ini.k:Int),.int .i64 f.ini.n,.string ⟨f.ini.s.toArray⟩,f.ini.l,f.ini.ids]
theorem fldA_size (f:FldS):(fldA f).size=10:=rfl
def pF (f:FldS):FldP:=⟨f.id,f.req,f.ty⟩
structure StrS where
 k:Int
 nm:List UInt8
 fl:Value
def strA (x:StrS):Array Value:=#[.int .i64 x.k,.string ⟨x.nm.toArray⟩,x.fl]
structure EnmS where
 nm:List UInt8
 ml:Value
def enmA (x:EnmS):Array Value:=#[.string ⟨x.nm.toArray⟩,x.ml]
structure MemS where
 nm:List UInt8
 has:Bool
 n:Int
def memA (x:MemS):Array Value:=#[.string ⟨x.nm.toArray⟩,.bool x.has,.int .i64 x.n]
def RdFs (w:World) (fl:Value) (fs:List FldS):Prop :=
 (∃ A c,fl = .slice A fs.length c∧fs.length≤c∧c≤maxLen∧RdR fldA 10 w A fs)∧fs.length≤20∧(fs.map (·.id)).Pairwise (· < ·)∧∀ f ∈ fs,(baseT f.ty≠none)∧(∃ A u c,f.ini.l = .slice A u c)∧∃ A u c,f.ini.ids = .slice A u c
theorem RdFs.nx {w w':World} {fl:Value} {fs:List FldS} (h:RdFs w fl fs) (hn:Nx w w'):RdFs w' fl fs:=by
 obtain ⟨⟨A,c,e,h1,h2,h3⟩,h4⟩:=h
 exact ⟨⟨A,c,e,h1,h2,h3.nx hn⟩,h4⟩
def SchS (w:World) (Sv:Value) (K:Int) (nm:List UInt8) (fs:List FldS):Prop :=
 ∃ A c Ae ce As us cs fl,Sv = .agg #[.slice A 1 c,.slice Ae 0 ce,.slice As us cs]∧1≤c∧c≤maxLen∧ce≤maxLen∧RdR strA 3 w A [⟨K,nm,fl⟩]∧RdFs w fl fs
theorem SchS.nx {w w':World} {Sv:Value} {K:Int} {nm:List UInt8} {fs:List FldS} (h:SchS w Sv K nm fs) (hn:Nx w w'):SchS w' Sv K nm fs:=by
 obtain ⟨A,c,Ae,ce,As,us,cs,fl,e,h1,h2,h3,h4,h5⟩:=h
 exact ⟨A,c,Ae,ce,As,us,cs,fl,e,h1,h2,h3,h4.nx hn,h5.nx hn⟩
def SchE (w:World) (Sv:Value) (nm:List UInt8) (ms:List MemS):Prop :=
 ∃ A c Ae ce As us cs Am cm,Sv = .agg #[.slice A 0 c,.slice Ae 1 ce,.slice As us cs]∧c≤maxLen∧1≤ce∧ce≤maxLen∧RdR enmA 2 w Ae [⟨nm,.slice Am ms.length cm⟩]∧ms.length≤cm∧cm≤maxLen∧ms.length≤20∧(ms.map (·.n)).Pairwise (· < ·)∧RdR memA 3 w Am ms
theorem SchE.nx {w w':World} {Sv:Value} {nm:List UInt8} {ms:List MemS} (h:SchE w Sv nm ms) (hn:Nx w w'):SchE w' Sv nm ms:=by
 obtain ⟨A,c,Ae,ce,As,us,cs,Am,cm,e,h1,h2,h3,h4,h5,h6,h7,h8,h9⟩:=h
 exact ⟨A,c,Ae,ce,As,us,cs,Am,cm,e,h1,h2,h3,h4.nx hn,h5,h6,h7,h8,h9.nx hn⟩
def Sch0 (Sv:Value):Prop:=∃ A u c Ae ue ce As us cs,Sv = .agg #[.slice A u c,.slice Ae ue ce,.slice As us cs]
def aA:List UInt8:=[97,46,65]
def aE:List UInt8:=[97,46,69]
end Go.Proofs.YtnfelopknfdpfaaDoor
namespace Go.Proofs.YtnfelopknfdpfaaDoor
open Go.RowKit
def i64B (n:Int):Prop:=-9223372036854775808≤n∧n≤9223372036854775807
def smallV:Val→Prop
 | .mk k a s l i=>k<32∧i64B a∧s=[]∧l.length≤20∧i.length≤20∧∀ x ∈ l,match x with | .mk k' a' s' l' i'=>k'<32∧i64B a'∧s'=[]∧l'=[]∧i'=[]
def idsB:Val→Prop
 | .mk _ _ _ _ i=>∀ z ∈ i,i64B z
def fldY (y:ValS):FldS:=⟨1,1,[105,56],[],false,y⟩
def fld1:FldS:=fldY ⟨0,0,[],.slice none 0 0,.slice none 0 0⟩
structure ValC (T:World→Prop) (validB:List UInt8→Bool):Prop where
 nx:∀ {w w':World},T w→Nx w w'→T w'
 chkB:∀ (w:World) (Sv:Value) (x:ValS) (A:Val) (ty:List UInt8) (k:Nat),T w→Sch0 Sv→RdV 2 w x A→smallV A→baseT ty=some k →
  Calls Tryd.prog 7 #[Sv,.string ⟨ty.toArray⟩,.agg (valA x)] w fun e w'=>e = .returned (.bool (chkB k A))∧Nx w w'
 chkE:∀ (w:World) (Sv:Value) (x:ValS) (A:Val) (ms:List MemS),T w→SchE w Sv aE ms→RdV 2 w x A→smallV A→(∀ m ∈ ms,i64B m.n) →
  Calls Tryd.prog 7 #[Sv,.string ⟨aE.toArray⟩,.agg (valA x)] w fun e w'=>e = .returned (.bool (chkE (ms.map (·.n)) A))∧Nx w w'
 chkS:∀ (w:World) (Sv:Value) (x:ValS) (A:Val) (K:Int) (fs:List FldS),T w→SchS w Sv K aA fs→RdV 2 w x A→smallV A→(∀ f ∈ fs,i64B f.id)→idsB A →
  Calls Tryd.prog 7 #[Sv,.string ⟨aA.toArray⟩,.agg (valA x)] w fun e w'=>e = .returned (.bool (fldV K (fs.map pF) A))∧Nx w w'
 fld:∀ (w:World) (Sv:Value) (x:ValS) (A:Val) (K:Int) (nm:List UInt8) (fl:Value) (fs:List FldS),T w→Sch0 Sv→RdFs w fl fs→RdV 2 w x A→smallV A→(∀ f ∈ fs,i64B f.id)→idsB A →
  Calls Tryd.prog 9 #[Sv,.agg #[.int .i64 K,.string ⟨nm.toArray⟩,fl],.agg (valA x)] w fun e w'=>e = .returned (.bool (fldV K (fs.map pF) A))∧Nx w w'
 str:∀ (w:World) (Sv:Value),T w→SchS w Sv 4 aA [fld1] →
  Calls Tryd.prog 10 #[Sv,.string ⟨aA.toArray⟩] w fun e w'=>∃ fl y,e = .returned (.tuple #[.agg #[.int .i64 4,.string ⟨aA.toArray⟩,fl],.bool true])∧RdFs w' fl [fldY y]∧Nx w w'
 knd:∀ (w:World) (Sv:Value) (K:Int) (fs:List FldS),T w→SchS w Sv K aA fs →
  Calls Tryd.prog 11 #[Sv,.string ⟨aA.toArray⟩] w fun e w'=>e = .returned (.int .i64 12)∧Nx w w'
 val:∀ (w:World) (b:List UInt8),T w→b.length≤60 →
  Calls Tryd.prog 8 #[.string ⟨b.toArray⟩] w fun e w'=>e = .returned (.bool (validB b))∧Nx w w'
end Go.Proofs.YtnfelopknfdpfaaDoor
