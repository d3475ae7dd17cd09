/- The text of types: as a tree, and as a function of its bytes. Plain lemmas. A file of definitions, read off its words: as a function. Rows of structs that the call owns, of any type: what the call reads and appends. Rows of structs that the call owns last where one block alone changed. How constants, fields, methods, definitions lie in memory. Plain lemmas. What lies where a cursor's block and a list's own one alone changed. Plain lemmas. Lists that lie: what lasts, append of one element. Names as parts between full stops. Plain lemmas. The contracts of kind's small functions (what is plain of it). -/
import Derived.Test.YtpfecpcgdfbekaaGreatDoorG00
import Derived.Test.YtpfecpcgdfbekaaGreatDoorG01
import Derived.Lib.IndexMore
import Derived.Test.YtpfecpcgdfbekaaGreatDoorProg
import Derived.Lib.SmallJoins
import Derived.Laws.Rows
import Derived.Laws.ResultCell
import Derived.IntWalk
set_option linter.unusedVariables false
set_option linter.unusedSimpArgs false
set_option linter.unnecessarySimpa false
namespace Go.Proofs.YtpfecpcgdfbekaaGreatDoor
def wordK (k:Nat):List UInt8 :=
 if k=2 then [98,111,111,108] else if k=3 then [105,56] else if k=4 then [100,111,117,98,108,101]
 else if k=6 then [105,49,54] else if k=8 then [105,51,50] else if k=10 then [105,54,52]
 else if k=11 then [115,116,114,105,110,103] else if k=13 then [109,97,112] else if k=14 then [115,101,116]
 else if k=15 then [108,105,115,116] else if k=16 then [98,105,110,97,114,121] else []
def kindW (l:List UInt8):Nat :=
 if l=[98,111,111,108] then 2 else if l=[105,56] then 3 else if l=[100,111,117,98,108,101] then 4
 else if l=[105,49,54] then 6 else if l=[105,51,50] then 8 else if l=[105,54,52] then 10
 else if l=[115,116,114,105,110,103] then 11 else if l=[109,97,112] then 13 else if l=[115,101,116] then 14
 else if l=[108,105,115,116] then 15 else if l=[98,105,110,97,114,121] then 16 else 0
def isKw (k:Nat):Prop:=k=2∨k=3∨k=4∨k=6∨k=8∨k=10∨k=11∨k=13∨k=14∨k=15∨k=16
def isBs (k:Nat):Prop:=k=2∨k=3∨k=4∨k=6∨k=8∨k=10∨k=11∨k=16
theorem kindW_is (l:List UInt8):kindW l=0∨(isKw (kindW l)∧l=wordK (kindW l)):=by
 unfold kindW
 repeat' split
 all_goals (first | exact .inl rfl | (subst l;exact .inr ⟨by simp [isKw],by simp [wordK]⟩))
theorem kindW_word (k:Nat) (h:isKw k):kindW (wordK k)=k:=by
 rcases h with rfl | rfl | rfl | rfl | rfl | rfl | rfl | rfl | rfl | rfl | rfl <;> decide
theorem wordK_nm (k:Nat) (h:isKw k):∀ c ∈ wordK k,isNmS c=true:=by
 rcases h with rfl | rfl | rfl | rfl | rfl | rfl | rfl | rfl | rfl | rfl | rfl <;> decide
def farF:Bool→List UInt8→Bool
 | b,[]=>!b
 | true,c :: r=>(!isDig c && decide (c≠46)) && farF false r
 | false,c :: r=>farF (decide (c=46)) r
def partN (l:List UInt8):Nat:=spanN (fun c=>decide (c≠46)) l
def nameOk (l:List UInt8):Bool:=farF true l && decide (kindW (l.take (partN l))=0)
inductive Ty where
 | nm (s:List UInt8)
 | bs (k:Nat)
 | l1 (k:Nat) (a:Ty)
 | mp (a b:Ty)
def showT:Ty→List UInt8
 | .nm s=>s
 | .bs k=>wordK k
 | .l1 k a=>wordK k++60 :: (showT a++[62])
 | .mp a b=>wordK 13++60 :: (showT a++44 :: (showT b++[62]))
def namesT:Ty→List (List UInt8)
 | .nm s=>[s]
 | .bs _=>[]
 | .l1 _ a=>namesT a
 | .mp a b=>namesT a++namesT b
def wfT:Ty→Prop
 | .nm s=>nameOk s=true∧∀ c ∈ s,isNmS c=true
 | .bs k=>isBs k
 | .l1 k a=>(k=14∨k=15)∧wfT a
 | .mp a b=>wfT a∧wfT b
theorem bs_kw {k:Nat} (h:isBs k):isKw k:=by unfold isBs at h;unfold isKw;omega
end Go.Proofs.YtpfecpcgdfbekaaGreatDoor
namespace Go.Proofs.YtpfecpcgdfbekaaGreatDoor
inductive Con where
 | mk (k:Nat) (n:Int) (d:Nat) (s:List UInt8) (l:List Con)
def con0:Con:=.mk 0 0 0 [] []
structure Fld where
 hasID:Bool
 id:Int
 req:Nat
 ty:List UInt8
 nm:List UInt8
 hasIn:Bool
 ini:Con
structure Mem where
 nm:List UInt8
 has:Bool
 n:Int
structure Met where
 nm:List UInt8
 one:Bool
 ret:List UInt8
 args:List Fld
 thr:List Fld
structure Dfn where
 k:Nat
 nm:List UInt8
 ty:List UInt8
 ini:Con
 fields:List Fld
 mems:List Mem
 ext:List UInt8
 mets:List Met
def dfn0:Dfn:=⟨0,[],[],con0,[],[],[],[]⟩
structure Spc where
 scope:List UInt8
 nm:List UInt8
structure Fil where
 incs:List (List UInt8)
 spaces:List Spc
 defs:List Dfn
def fil0:Fil:=⟨[],[],[]⟩
structure PSt where
 i:Nat
 e:Nat
def resB:List (List UInt8):=[[105,110,99,108,117,100,101],[110,97,109,101,115,112,97,99,101],[116,121,112,101,100,101,102],[101,110,117,109],[99,111,110,115,116],[115,116,114,117,99,116],[117,110,105,111,110],[101,120,99,101,112,116,105,111,110],[115,101,114,118,105,99,101],[101,120,116,101,110,100,115],[116,104,114,111,119,115],[111,110,101,119,97,121],[118,111,105,100],[114,101,113,117,105,114,101,100],[111,112,116,105,111,110,97,108],[116,114,117,101],[102,97,108,115,101]]
def oftB:List (List UInt8):=[[98,111,111,108],[105,56],[105,49,54],[105,51,50],[105,54,52],[100,111,117,98,108,101],[115,116,114,105,110,103],[98,105,110,97,114,121],[108,105,115,116],[115,101,116],[109,97,112],[98,121,116,101]]
def kInclude:List UInt8:=[105,110,99,108,117,100,101]
def kNamespace:List UInt8:=[110,97,109,101,115,112,97,99,101]
def kExtends:List UInt8:=[101,120,116,101,110,100,115]
def kThrows:List UInt8:=[116,104,114,111,119,115]
def kOneway:List UInt8:=[111,110,101,119,97,121]
def kVoid:List UInt8:=[118,111,105,100]
def kRequired:List UInt8:=[114,101,113,117,105,114,101,100]
def kOptional:List UInt8:=[111,112,116,105,111,110,97,108]
def kTrue:List UInt8:=[116,114,117,101]
def kFalse:List UInt8:=[102,97,108,115,101]
def kList:List UInt8:=[108,105,115,116]
def kSet:List UInt8:=[115,101,116]
def kMap:List UInt8:=[109,97,112]
def kByte:List UInt8:=[98,121,116,101]
def defK (t:List UInt8):Nat :=
 if t=[116,121,112,101,100,101,102] then 1 else if t=[99,111,110,115,116] then 3 else if t=[101,110,117,109] then 2 else if t=[115,116,114,117,99,116] then 4
 else if t=[117,110,105,111,110] then 5 else if t=[101,120,99,101,112,116,105,111,110] then 6 else if t=[115,101,114,118,105,99,101] then 7 else 0
def oftP (t:List UInt8):Bool:=oftB.contains t
def resP (t:List UInt8):Bool:=resB.contains t || oftP t
def nmLet (c:UInt8):Bool:=isLetS c || decide (c.toNat=95)
def plainP (t:List UInt8):Bool:=decide (t.length≤40) && !t.contains 46 && !resP t && (match t with | []=>false | c :: r=>nmLet c && (c :: r).all isNmS)
def splitP:List UInt8→List (List UInt8)
 | []=>[[]]
 | c :: r=>if c=46 then [] :: splitP r else match splitP r with
  | []=>[[c]]
  | a :: b=>(c :: a) :: b
def qualP (t:List UInt8):Bool:=decide ((splitP t).length≤3) && (splitP t).all plainP
section
variable (ws:List TokV)
def wordP (s:PSt):TokV:=if s.e≠0 then tok0 else ws.getD s.i tok0
def nextP (s:PSt):PSt:=if s.e≠0 then s else ⟨s.i+1,s.e⟩
def failP (e:Nat) (s:PSt):PSt:=if s.e≠0 then s else ⟨s.i,e⟩
def isP (t:List UInt8) (s:PSt):Bool:=(decide ((wordP ws s).k=1) || decide ((wordP ws s).k=5)) && decide ((wordP ws s).t=t)
def takeP (t:List UInt8) (s:PSt):PSt:=if isP ws t s then nextP s else s
def needP (t:List UInt8) (s:PSt):PSt:=if isP ws t s then nextP s else failP 2 s
def atNameP (s:PSt):Bool:=decide ((wordP ws s).k=1)
def atPlainP (s:PSt):Bool:=atNameP ws s && plainP (wordP ws s).t
def atQualP (s:PSt):Bool:=atNameP ws s && qualP (wordP ws s).t
def plainN (s:PSt):List UInt8×PSt:=let s1:=if atPlainP ws s then s else failP 2 s;((wordP ws s1).t,nextP s1)
def qualN (s:PSt):List UInt8×PSt:=let s1:=if atQualP ws s then s else failP 2 s;((wordP ws s1).t,nextP s1)
def addP {α:Type} (most:Nat) (read:PSt→α×PSt) (acc:List α) (s:PSt):List α×PSt :=
 if acc.length=most then (acc,failP 4 s) else (acc++[(read s).1],(read s).2)
def sepP (s:PSt):PSt:=if isP ws [44] s then nextP s else takeP ws [59] s
def elemsP {α:Type} (p:PSt→Bool) (most:Nat) (read:PSt→α×PSt):Nat→List α→PSt→List α×PSt
 | 0,acc,s=>(acc,s)
 | f+1,acc,s=>if p s then elemsP p most read f (addP most read acc s).1 (sepP ws (addP most read acc s).2) else (acc,s)
def atTypeP (s:PSt):Bool:=atNameP ws s && (oftP (wordP ws s).t || qualP (wordP ws s).t)
def leafP (s:PSt):List UInt8×PSt :=
 if isP ws kByte s then ([105,56],nextP s) else if atTypeP ws s then ((wordP ws s).t,nextP s) else ([],failP 2 s)
def typeP:Nat→PSt→List UInt8×PSt
 | 0=>fun s=>if isP ws kList s || isP ws kSet s || isP ws kMap s then ([],failP 6 s) else leafP ws s
 | r+1=>fun s =>
  if isP ws kList s then
   (let a:=typeP r (needP ws [60] (nextP s));(kList++60 :: a.1++[62],needP ws [62] a.2))
  else if isP ws kSet s then
   (let a:=typeP r (needP ws [60] (nextP s));(kSet++60 :: a.1++[62],needP ws [62] a.2))
  else if isP ws kMap s then
   (let a:=typeP r (needP ws [60] (nextP s));let b:=typeP r (needP ws [44] a.2);(kMap++60 :: a.1++44 :: b.1++[62],needP ws [62] b.2))
  else leafP ws s
def atConP (s:PSt):Bool :=
 let w:=wordP ws s
 if w.k=2∨w.k=3∨w.k=4 then true else if w.k=1 then isP ws kTrue s || isP ws kFalse s || qualP w.t else isP ws [91] s || isP ws [123] s
def conV (w:TokV):Con:=if w.k=2 then .mk 1 w.n 0 [] [] else if w.k=3 then .mk 2 0 w.d [] [] else if w.k=4 then .mk 3 0 0 w.t [] else .mk 4 0 0 w.t []
def pairP (item:PSt→Con×PSt) (s:PSt):(Con×Con)×PSt :=
 let a:=item s;let b:=item (needP ws [58] a.2);((a.1,b.1),b.2)
def flatP (l:List (Con×Con)):List Con:=l.flatMap fun p=>[p.1,p.2]
def conP:Nat→PSt→Con×PSt
 | 0=>fun s=>if !atConP ws s then (con0,failP 2 s) else if (wordP ws s).k=2∨(wordP ws s).k=3∨(wordP ws s).k=4∨(wordP ws s).k=1 then (conV (wordP ws s),nextP s) else (con0,failP 6 s)
 | r+1=>fun s=>if !atConP ws s then (con0,failP 2 s) else if (wordP ws s).k=2∨(wordP ws s).k=3∨(wordP ws s).k=4∨(wordP ws s).k=1 then (conV (wordP ws s),nextP s)
  else if isP ws [91] s then (let a:=elemsP ws (atConP ws) 40 (conP r) (ws.length+1) [] (nextP s);(.mk 5 0 0 [] a.1,needP ws [93] a.2))
  else (let a:=elemsP ws (atConP ws) 40 (pairP ws (conP r)) (ws.length+1) [] (needP ws [123] s);(.mk 6 0 0 [] (flatP a.1),needP ws [125] a.2))
def atFieldP (s:PSt):Bool:=decide ((wordP ws s).k=2) || isP ws kRequired s || isP ws kOptional s || atTypeP ws s
def reqP (s:PSt):Nat:=if isP ws kRequired s then 1 else if isP ws kOptional s then 2 else 0
def reqN (s:PSt):PSt:=if isP ws kRequired s then nextP s else takeP ws kOptional s
def fieldP (s:PSt):Fld×PSt :=
 let h:=decide ((wordP ws s).k=2)
 let s1:=if h then needP ws [58] (nextP s) else s
 let t:=typeP ws 12 (reqN ws s1)
 let n:=plainN ws t.2
 let c:=if isP ws [61] n.2 then conP ws 12 (nextP n.2) else (con0,n.2)
 (⟨h,if h then (wordP ws s).n else 0,reqP ws s1,t.1,n.1,isP ws [61] n.2,c.1⟩,c.2)
def fieldsP (o c:UInt8) (s:PSt):List Fld×PSt :=
 let l:=elemsP ws (atFieldP ws) 30 (fieldP ws) (ws.length+1) [] (needP ws [o] s)
 (l.1,needP ws [c] l.2)
def memP (s:PSt):Mem×PSt :=
 let n:=plainN ws s
 if isP ws [61] n.2 then
  (let s1:=nextP n.2;let s2:=if (wordP ws s1).k=2 then s1 else failP 2 s1;(⟨n.1,true,(wordP ws s2).n⟩,nextP s2))
 else (⟨n.1,false,0⟩,n.2)
def atMetP (s:PSt):Bool:=isP ws kOneway s || isP ws kVoid s || atTypeP ws s
def metP (s:PSt):Met×PSt :=
 let s1:=takeP ws kOneway s
 let r:=if isP ws kVoid s1 then ((wordP ws s1).t,nextP s1) else typeP ws 12 s1
 let n:=plainN ws r.2
 let a:=fieldsP ws 40 41 n.2
 let t:=if isP ws kThrows a.2 then fieldsP ws 40 41 (nextP a.2) else ([],a.2)
 (⟨n.1,isP ws kOneway s,r.1,a.1,t.1⟩,t.2)
def atDefP (s:PSt):Bool:=atNameP ws s && decide (defK (wordP ws s).t≠0)
def bodyP (k:Nat) (nm ty:List UInt8) (s:PSt):Dfn×PSt :=
  if k=3 then (let c:=conP ws 12 (needP ws [61] s);(⟨k,nm,ty,c.1,[],[],[],[]⟩,c.2))
  else if k=2 then (let l:=elemsP ws (atPlainP ws) 30 (memP ws) (ws.length+1) [] (needP ws [123] s);(⟨k,nm,ty,con0,[],l.1,[],[]⟩,needP ws [125] l.2))
  else if k=4∨k=5∨k=6 then (let l:=fieldsP ws 123 125 s;(⟨k,nm,ty,con0,l.1,[],[],[]⟩,l.2))
  else if k=7 then
    (let x:=if isP ws kExtends s then qualN ws (nextP s) else ([],s)
     let l:=elemsP ws (atMetP ws) 30 (metP ws) (ws.length+1) [] (needP ws [123] x.2)
     (⟨k,nm,ty,con0,[],[],x.1,l.1⟩,needP ws [125] l.2))
  else (⟨k,nm,ty,con0,[],[],[],[]⟩,s)
def defP (s:PSt):Dfn×PSt :=
 let k:=defK (wordP ws s).t
 let s1:=nextP s
 let t:=if k=1∨k=3 then typeP ws 12 s1 else ([],s1)
 let n:=plainN ws t.2
 bodyP ws k n.1 t.1 n.2
def incP (s:PSt):List UInt8×PSt :=
 let s1:=nextP s
 if (wordP ws s1).k=4 && plainP (wordP ws s1).t then ((wordP ws s1).t,nextP s1) else ([],failP 2 s1)
def spcP (s:PSt):Spc×PSt :=
 let s1:=nextP s
 let a:=if isP ws [42] s1 then ((wordP ws s1).t,nextP s1) else qualN ws s1
 let b:=qualN ws a.2
 (⟨a.1,b.1⟩,b.2)
def headsP:Nat→List (List UInt8)→List Spc→PSt→(List (List UInt8)×List Spc)×PSt
 | 0,a,b,s=>((a,b),s)
 | f+1,a,b,s =>
  if isP ws kInclude s then headsP f (addP 5 (incP ws) a s).1 b (addP 5 (incP ws) a s).2
  else if isP ws kNamespace s then headsP f a (addP 5 (spcP ws) b s).1 (addP 5 (spcP ws) b s).2
  else ((a,b),s)
def fileP (s:PSt):Fil×PSt :=
 let h:=headsP ws (ws.length+1) [] [] s
 let d:=elemsP ws (atDefP ws) 30 (defP ws) (ws.length+1) [] h.2
 (⟨h.1.1,h.1.2,d.1⟩,if (wordP ws d.2).k=6 then d.2 else failP 2 d.2)
end
def parseF (l:List UInt8):Fil×Nat×Nat :=
 if (lexS l).2.1≠0 then (fil0,(lexS l).2.1,(lexS l).2.2)
 else
  let r:=fileP (lexS l).1 ⟨0,0⟩
  if r.2.e≠0 then (fil0,r.2.e,((lexS l).1.getD r.2.i tok0).p) else (r.1,0,0)
end Go.Proofs.YtpfecpcgdfbekaaGreatDoor
namespace Go.Proofs.YtpfecpcgdfbekaaGreatDoor
open Go.RowKit
section
variable {α:Type} {f:α→Array Value} {k:Nat} {T:TypeId}
def rowL (f:α→Array Value) (xs:List α):List Value:=xs.flatMap fun x=>(f x).toList
theorem rowL_length (hf:∀ x,(f x).size=k) (xs:List α):(rowL f xs).length=xs.length * k:=by
 induction xs with
 | nil=>simp [rowL]
 | cons x xs ih =>
  have:rowL f (x :: xs)=(f x).toList++rowL f xs:=rfl
  rw [this,List.length_append,ih,Array.length_toList,hf,List.length_cons,Nat.succ_mul,Nat.add_comm]
theorem rowL_snoc (xs:List α) (x:α):rowL f (xs++[x])=rowL f xs++(f x).toList:=by
 unfold rowL;simp
theorem rowL_get (hf:∀ x,(f x).size=k) (xs:List α) (i:Nat) (hi:i<xs.length) (j:Nat) (hj:j<k):(rowL f xs)[i * k+j]? = (f xs[i])[j]?:=by
 induction xs generalizing i with
 | nil=>simp at hi
 | cons x xs ih =>
  have e:rowL f (x :: xs)=(f x).toList++rowL f xs:=rfl
  have e5:(f x).toList.length=k:=by rw [Array.length_toList];exact hf x
  rw [e]
  cases i with
  | zero =>
   rw [List.getElem?_append_left (by rw [e5];omega),Nat.zero_mul,Nat.zero_add]
   simp
  | succ i =>
   have e6:(i+1) * k=i * k+k:=Nat.succ_mul i k
   rw [List.getElem?_append_right (by rw [e5];omega),e5]
   have:(i+1) * k+j - k=i * k+j:=by omega
   rw [this,ih i (by simpa using hi)]
   simp
def OwnS (f:α→Array Value) (k:Nat) (T:TypeId) (w:World) (B:Nat) (v:Value) (xs:List α):Prop:=w.ownsRow B T k v xs.length (rowL f xs)
def RdS (f:α→Array Value) (k:Nat) (w:World) (A:Option Addr) (xs:List α):Prop :=
 0<xs.length→∃ g,A=some ⟨g,0,none⟩∧g<w.heap.size∧∀ i (h:i<xs.length) j,j<k→w.cell? ⟨g,i * k+j,none⟩=(f xs[i])[j]?
theorem OwnS.nil_ (w:World) (B:Nat):OwnS f k T w B (.slice none 0 0) []:=World.ownsRow_nil w B _ _
theorem OwnS.alloc {w:World} {B:Nat} {v:Value} {xs:List α} (h:OwnS f k T w B v xs) (o:Obj):OwnS f k T (w.alloc o) B v xs:=World.ownsRow.alloc h o
theorem OwnS.less {w:World} {B B':Nat} {v:Value} {xs:List α} (h:OwnS f k T w B v xs) (hB:B'≤B):OwnS f k T w B' v xs:=by
 obtain ⟨h1,h2⟩:=h
 refine ⟨h1,?_⟩
 rcases h2 with h2 | ⟨g,cap,cur,hv,hg,r⟩
 ·exact .inl h2
 ·exact .inr ⟨g,cap,cur,hv,by omega,r⟩
theorem OwnS.nx {w w':World} {B:Nat} {v:Value} {xs:List α} (h:OwnS f k T w B v xs) (ho:Nx w w'):OwnS f k T w' B v xs:=by
 obtain ⟨h1,h2⟩:=h
 refine ⟨h1,?_⟩
 rcases h2 with h2 | ⟨g,cap,cur,hv,hg,hh,r⟩
 ·exact .inl h2
 ·refine .inr ⟨g,cap,cur,hv,hg,?_,r⟩
  rw [ho.block g ?_];exact hh
  rcases Nat.lt_or_ge g w.heap.size with h | h
  ·exact h
  ·rw [Array.getElem?_eq_none h] at hh;cases hh
theorem OwnS.sl (hf:∀ x,(f x).size=k) {w:World} {B:Nat} {v:Value} {xs:List α} (h:OwnS f k T w B v xs):∃ A c,v = .slice A xs.length c∧xs.length≤c∧c≤maxLen∧RdS f k w A xs:=by
 obtain ⟨h1,h2⟩:=h
 rcases h2 with ⟨rfl,h0⟩ | ⟨g,cap,cur,rfl,hg,hh,hn,hm,hs,ht⟩
 ·have:xs=[]:=List.eq_nil_of_length_eq_zero h0
  subst this
  exact ⟨none,0,rfl,Nat.le_refl _,Nat.zero_le _,fun h=>by simp at h⟩
 ·refine ⟨_,cap,rfl,hn,hm,fun _=>⟨g,rfl,?_,fun i hi j hj=>?_⟩⟩
  ·rcases Nat.lt_or_ge g w.heap.size with h | h
   ·exact h
   ·rw [Array.getElem?_eq_none h] at hh;cases hh
  ·have hlt:i * k+j<xs.length * k:=by
    have h1:(i+1) * k≤xs.length * k:=Nat.mul_le_mul_right k hi
    have h2:(i+1) * k=i * k+k:=Nat.succ_mul i k
    omega
   rw [cell_of_row w g (i * k+j) cur _ (0,0) hh,← rowL_get hf xs i hi j hj,← ht,List.getElem?_take,if_pos (by simpa using hlt)]
   simp
theorem RdS.nx {w w':World} {A:Option Addr} {xs:List α} (h:RdS f k w A xs) (hn:Nx w w'):RdS f k w' A xs:=fun h0=>by
 obtain ⟨g,e,hg,hc⟩:=h h0
 refine ⟨g,e,Nat.lt_of_lt_of_le hg hn.size,fun i hi j hj=>?_⟩
 rw [← hc i hi j hj]
 unfold World.cell?
 simp only
 rw [hn.block g hg]
end
section
variable (w:World) {ops:Array Oper} {rest:List Oper} {o:Oper} {a:Act} {Q:Exit→Act→World→Prop} {α:Type} {f:α→Array Value} {k sz:Nat} {T T2:TypeId} {z:Value}
end
end Go.Proofs.YtpfecpcgdfbekaaGreatDoor
namespace Go.Proofs.YtpfecpcgdfbekaaGreatDoor
open Go.RowKit
section
variable {α:Type} {f:α→Array Value} {k:Nat} {T:TypeId}
theorem OwnS.oth {w w':World} {B b:Nat} {v:Value} {xs:List α} (h:OwnS f k T w B v xs) (ho:Oth b w w') (hb:b<B):OwnS f k T w' B v xs:=by
 obtain ⟨h1,h2⟩:=h
 refine ⟨h1,?_⟩
 rcases h2 with h2 | ⟨g,cap,cur,hv,hg,hh,r⟩
 ·exact .inl h2
 ·refine .inr ⟨g,cap,cur,hv,hg,?_,r⟩
  rw [ho.block g ?_ (by omega)];exact hh
  rcases Nat.lt_or_ge g w.heap.size with h | h
  ·exact h
  ·rw [Array.getElem?_eq_none h] at hh;cases hh
end
end Go.Proofs.YtpfecpcgdfbekaaGreatDoor
namespace Go.Proofs.YtpfecpcgdfbekaaGreatDoor
open Go.RowKit
def bt (l:List UInt8):Value:=.string ⟨l.toArray⟩
def All2 {α β:Type} (R:α→β→Prop):List α→List β→Prop
 | [],[]=>True
 | x :: xs,y :: ys=>R x y∧All2 R xs ys
 | _,_=>False
theorem All2.len {α β:Type} {R:α→β→Prop}:∀ {xs:List α} {ys:List β},All2 R xs ys→xs.length=ys.length
 | [],[],_=>rfl
 | x :: xs,y :: ys,h=>by simp [All2.len h.2]
 | [],_ :: _,h=>h.elim
 | _ :: _,[],h=>h.elim
theorem All2.mono {α β:Type} {R S:α→β→Prop} (hRS:∀ x y,R x y→S x y):∀ {xs:List α} {ys:List β},All2 R xs ys→All2 S xs ys
 | [],[],_=>trivial
 | x :: xs,y :: ys,h=>⟨hRS _ _ h.1,All2.mono hRS h.2⟩
 | [],_ :: _,h=>h.elim
 | _ :: _,[],h=>h.elim
theorem All2.app {α β:Type} {R:α→β→Prop} {us:List α} {vs:List β} (k:All2 R us vs):∀ {xs:List α} {ys:List β},All2 R xs ys→All2 R (xs++us) (ys++vs)
 | [],[],_=>k
 | x :: xs,y :: ys,h=>⟨h.1,All2.app k h.2⟩
 | [],_ :: _,h=>h.elim
 | _ :: _,[],h=>h.elim
theorem All2.snoc {α β:Type} {R:α→β→Prop} {xs:List α} {ys:List β} {x:α} {y:β} (h:All2 R xs ys) (k:R x y):All2 R (xs++[x]) (ys++[y]):=All2.app (us:=[x]) (vs:=[y]) ⟨k,trivial⟩ h
theorem All2.at_ {α β:Type} {R:α→β→Prop}:∀ {xs:List α} {ys:List β},All2 R xs ys→∀ i (hx:i<xs.length) (hy:i<ys.length),R xs[i] ys[i]
 | x :: xs,y :: ys,h,0,_,_=>h.1
 | x :: xs,y :: ys,h,i+1,hx,hy=>All2.at_ h.2 i (by simpa using hx) (by simpa using hy)
 | [],_ :: _,h,_,_,_=>h.elim
 | _ :: _,[],h,_,_,_=>h.elim
 | [],[],_,i,hx,_=>absurd hx (by simp)
structure ConS where
 k:Nat
 n:Int
 d:Nat
 s:List UInt8
 l:Value
def conA (x:ConS):Array Value:=#[.int .i64 (x.k:Int),.int .i64 x.n,.int .u64 (x.d:Int),bt x.s,x.l]
structure FldS where
 hasID:Bool
 id:Int
 req:Nat
 ty:List UInt8
 nm:List UInt8
 hasIn:Bool
 ini:ConS
def fldA (x:FldS):Array Value:=#[.bool x.hasID,.int .i64 x.id,.int .i64 (x.req:Int),bt x.ty,bt x.nm,.bool x.hasIn,.int .i64 (x.ini.k:Int),.int .i64 x.ini.n,.int .u64 (x.ini.d:Int),bt x.ini.s,x.ini.l]
def memA (x:Mem):Array Value:=#[bt x.nm,.bool x.has,.int .i64 x.n]
structure MetS where
 nm:List UInt8
 one:Bool
 ret:List UInt8
 args:Value
 thr:Value
def metA (x:MetS):Array Value:=#[bt x.nm,.bool x.one,bt x.ret,x.args,x.thr]
structure DfnS where
 k:Nat
 nm:List UInt8
 ty:List UInt8
 ini:ConS
 fields:Value
 mems:Value
 ext:List UInt8
 mets:Value
def dfnA (x:DfnS):Array Value:=#[.int .i64 (x.k:Int),bt x.nm,bt x.ty,.int .i64 (x.ini.k:Int),.int .i64 x.ini.n,.int .u64 (x.ini.d:Int),bt x.ini.s,x.ini.l,x.fields,x.mems,bt x.ext,x.mets]
def spcA (x:Spc):Array Value:=#[bt x.scope,bt x.nm]
def strA (x:List UInt8):Array Value:=#[bt x]
structure FilS where
 incs:Value
 spaces:Value
 defs:Value
def filA (x:FilS):Array Value:=#[x.incs,x.spaces,x.defs]
theorem conA_size (x:ConS):(conA x).size=5:=rfl
theorem fldA_size (x:FldS):(fldA x).size=11:=rfl
theorem memA_size (x:Mem):(memA x).size=3:=rfl
theorem metA_size (x:MetS):(metA x).size=5:=rfl
theorem dfnA_size (x:DfnS):(dfnA x).size=12:=rfl
theorem spcA_size (x:Spc):(spcA x).size=2:=rfl
theorem strA_size (x:List UInt8):(strA x).size=1:=rfl
def Sl {α:Type} (P:Nat→Prop) (f:α→Array Value) (k:Nat) (T:TypeId) (w:World) (v:Value) (xs:List α):Prop :=
 OwnS f k T w 0 v xs∧∀ g,v.ownBlock=some g→P g
section
variable {α:Type} {f:α→Array Value} {k:Nat} {T:TypeId} {P Q:Nat→Prop} {w w':World} {v:Value} {xs:List α}
theorem OwnS.lt_ {B:Nat} (h:OwnS f k T w B v xs) (g:Nat) (e:v.ownBlock=some g):g<w.heap.size:=(World.ownsRow.lt h g e).2
theorem OwnS.keep {B:Nat} (h:OwnS f k T w B v xs) (hk:∀ g,v.ownBlock=some g→w'.heap[g]? = w.heap[g]?):OwnS f k T w' B v xs:=by
 obtain ⟨h1,h2⟩:=h
 refine ⟨h1,?_⟩
 rcases h2 with h2 | ⟨g,cap,cur,hv,hg,hh,r⟩
 ·exact .inl h2
 ·refine .inr ⟨g,cap,cur,hv,hg,?_,r⟩
  rw [hk g (by rw [hv];rfl)];exact hh
theorem Sl.nil_:Sl P f k T w (.slice none 0 0) []:=⟨OwnS.nil_ _ _,fun g e=>by cases e⟩
theorem Sl.keep (h:Sl P f k T w v xs) (hk:∀ g,P g→g<w.heap.size→w'.heap[g]? = w.heap[g]?):Sl P f k T w' v xs :=
 ⟨h.1.keep fun g e=>hk g (h.2 g e) (h.1.lt_ g e),h.2⟩
theorem Sl.to (h:Sl P f k T w v xs) (hq:∀ g,P g→g<w.heap.size→Q g):Sl Q f k T w v xs:=⟨h.1,fun g e=>hq g (h.2 g e) (h.1.lt_ g e)⟩
end
structure Mv (P Q:Nat→Prop) (w w':World):Prop where
 keep:∀ g,P g→g<w.heap.size→w'.heap[g]? = w.heap[g]?
 «to» : ∀ g,P g→g<w.heap.size→Q g
theorem Sl.mv {P Q:Nat→Prop} {w w':World} {α:Type} {f:α→Array Value} {k:Nat} {T:TypeId} {v:Value} {xs:List α} (h:Sl P f k T w v xs) (m:Mv P Q w w'):Sl Q f k T w' v xs :=
 ⟨h.1.keep fun g e=>m.keep g (h.2 g e) (h.1.lt_ g e),fun g e=>m.to g (h.2 g e) (h.1.lt_ g e)⟩
def But (P:Nat→Prop) (v:Value) (g:Nat):Prop:=P g∧v.ownBlock≠some g
theorem Mv.but {P Q:Nat→Prop} {w w':World} (m:Mv P Q w w') (v:Value):Mv (But P v) (But Q v) w w':=⟨fun g h hl=>m.keep g h.1 hl,fun g h hl=>⟨m.to g h.1 hl,h.2⟩⟩
def RepL {α β:Type} (f:α→Array Value) (k:Nat) (T:TypeId) (R:World→(Nat→Prop)→α→β→Prop) (w:World) (P:Nat→Prop) (v:Value) (l:List β):Prop :=
 ∃ xs,Sl P f k T w v xs∧All2 (R w (But P v)) xs l
def Lasts {α β:Type} (R:World→(Nat→Prop)→α→β→Prop):Prop:=∀ {P Q:Nat→Prop} {w w':World},Mv P Q w w'→∀ {x:α} {y:β},R w P x y→R w' Q x y
theorem RepL.mv {α β:Type} {f:α→Array Value} {k:Nat} {T:TypeId} {R:World→(Nat→Prop)→α→β→Prop} (hR:Lasts R) {P Q:Nat→Prop} {w w':World} (m:Mv P Q w w') {v:Value} {l:List β} :
  RepL f k T R w P v l→RepL f k T R w' Q v l:=fun ⟨xs,h1,h2⟩=>⟨xs,h1.mv m,h2.mono fun _ _ h=>hR (m.but v) h⟩
theorem RepL.nil_ {α β:Type} {f:α→Array Value} {k:Nat} {T:TypeId} {R:World→(Nat→Prop)→α→β→Prop} {P:Nat→Prop} {w:World}:RepL f k T R w P (.slice none 0 0) ([]:List β) :=
 ⟨[],Sl.nil_,trivial⟩
def RC (n:Nat) (w:World):(Nat→Prop)→ConS→Con→Prop:=Nat.rec (motive:=fun _=>(Nat→Prop)→ConS→Con→Prop) (fun _ _ _=>False)
 (fun _ ih P x c=>match c with | .mk k m d s l=>x.k=k∧x.n=m∧x.d=d∧x.s=s∧∃ ys,Sl P conA 5 51 w x.l ys∧All2 (ih (But P x.l)) ys l) n
theorem RC.lasts:∀ n,Lasts (RC n)
 | 0=>fun _ _ _ h=>h
 | n+1=>fun m x c h=>by
  obtain ⟨k,a,d,s,l⟩:=c
  obtain ⟨h1,h2,h3,h4,ys,h5,h6⟩:=h
  exact ⟨h1,h2,h3,h4,ys,h5.mv m,h6.mono fun x y h=>RC.lasts n (m.but _) h⟩
theorem RC.mk {n:Nat} {w:World} {P:Nat→Prop} {k:Nat} {m:Int} {d:Nat} {s:List UInt8} {v:Value} {l:List Con} (h:RepL conA 5 51 (RC n) w P v l):RC (n+1) w P ⟨k,m,d,s,v⟩ (.mk k m d s l):=by
 obtain ⟨ys,h5,h6⟩:=h
 exact ⟨rfl,rfl,rfl,rfl,ys,h5,h6⟩
theorem RC.of {n:Nat} {w:World} {P:Nat→Prop} {x:ConS} {c:Con} (h:RC (n+1) w P x c):∃ l,c = .mk x.k x.n x.d x.s l∧RepL conA 5 51 (RC n) w P x.l l:=by
 obtain ⟨k,a,d,s,l⟩:=c
 obtain ⟨rfl,rfl,rfl,rfl,ys,h5,h6⟩:=h
 exact ⟨l,rfl,ys,h5,h6⟩
def REq {α:Type} (_:World) (_:Nat→Prop) (x y:α):Prop:=x=y
theorem REq.lasts {α:Type}:Lasts (REq (α:=α)):=fun _ _ _ h=>h
def RPr (n:Nat) (w:World) (P:Nat→Prop) (x:ConS×ConS) (y:Con×Con):Prop:=RC n w P x.1 y.1∧RC n w P x.2 y.2
theorem RPr.lasts (n:Nat):Lasts (RPr n):=fun m _ _ h=>⟨RC.lasts n m h.1,RC.lasts n m h.2⟩
def RF (w:World) (P:Nat→Prop) (x:FldS) (y:Fld):Prop :=
 x.hasID=y.hasID∧x.id=y.id∧x.req=y.req∧x.ty=y.ty∧x.nm=y.nm∧x.hasIn=y.hasIn∧RC 13 w P x.ini y.ini
theorem RF.lasts:Lasts RF:=fun m _ _ h=>⟨h.1,h.2.1,h.2.2.1,h.2.2.2.1,h.2.2.2.2.1,h.2.2.2.2.2.1,RC.lasts 13 m h.2.2.2.2.2.2⟩
def LF:=RepL fldA 11 202 RF
theorem LF.lasts:Lasts LF:=fun m _ _ h=>RepL.mv RF.lasts m h
def RM (w:World) (P:Nat→Prop) (x:MetS) (y:Met):Prop:=x.nm=y.nm∧x.one=y.one∧x.ret=y.ret∧LF w P x.args y.args∧LF w P x.thr y.thr
theorem RM.lasts:Lasts RM:=fun m _ _ h=>⟨h.1,h.2.1,h.2.2.1,LF.lasts m h.2.2.2.1,LF.lasts m h.2.2.2.2⟩
def LM:=RepL metA 5 180 RM
theorem LM.lasts:Lasts LM:=fun m _ _ h=>RepL.mv RM.lasts m h
def LMm:=RepL memA 3 153 (REq (α:=Mem))
theorem LMm.lasts:Lasts LMm:=fun m _ _ h=>RepL.mv REq.lasts m h
def RD (w:World) (P:Nat→Prop) (x:DfnS) (y:Dfn):Prop :=
 x.k=y.k∧x.nm=y.nm∧x.ty=y.ty∧RC 13 w P x.ini y.ini∧LF w P x.fields y.fields∧LMm w P x.mems y.mems∧x.ext=y.ext∧LM w P x.mets y.mets
theorem RD.lasts:Lasts RD:=fun m _ _ h=>⟨h.1,h.2.1,h.2.2.1,RC.lasts 13 m h.2.2.2.1,LF.lasts m h.2.2.2.2.1,LMm.lasts m h.2.2.2.2.2.1,h.2.2.2.2.2.2.1,LM.lasts m h.2.2.2.2.2.2.2⟩
def LD:=RepL dfnA 12 56 RD
theorem LD.lasts:Lasts LD:=fun m _ _ h=>RepL.mv RD.lasts m h
def LS:=RepL spcA 2 159 (REq (α:=Spc))
theorem LS.lasts:Lasts LS:=fun m _ _ h=>RepL.mv REq.lasts m h
def LT:=RepL strA 1 9 (REq (α:=List UInt8))
theorem LT.lasts:Lasts LT:=fun m _ _ h=>RepL.mv REq.lasts m h
def LC (n:Nat):=RepL conA 5 51 (RC n)
theorem LC.lasts (n:Nat):Lasts (LC n):=fun m _ _ h=>RepL.mv (RC.lasts n) m h
def RFile (w:World) (P:Nat→Prop) (x:FilS) (y:Fil):Prop:=LT w P x.incs y.incs∧LS w P x.spaces y.spaces∧LD w P x.defs y.defs
theorem RFile.lasts:Lasts RFile:=fun m _ _ h=>⟨LT.lasts m h.1,LS.lasts m h.2.1,LD.lasts m h.2.2⟩
theorem rc_con0 {n:Nat} {w:World} {P:Nat→Prop}:RC (n+1) w P ⟨0,0,0,[],.slice none 0 0⟩ con0:=RC.mk RepL.nil_
def Fm (B:Nat) (g:Nat):Prop:=B≤g
theorem Mv.nx {B C:Nat} {w w':World} (h:Nx w w') (hC:C≤B):Mv (Fm B) (Fm C) w w':=⟨fun g _ hl=>h.block g hl,fun g h _=>Nat.le_trans hC h⟩
theorem Mv.oth {B C b:Nat} {w w':World} (h:Oth b w w') (hC:C≤B) (hb:b<B):Mv (Fm B) (Fm C) w w':=⟨fun g hg hl=>h.block g hl (by have:B≤g:=hg;omega),fun g h _=>Nat.le_trans hC h⟩
theorem Mv.less {B C:Nat} {w:World} (hC:C≤B):Mv (Fm B) (Fm C) w w:=⟨fun _ _ _=>rfl,fun g h _=>Nat.le_trans hC h⟩
end Go.Proofs.YtpfecpcgdfbekaaGreatDoor
namespace Go.Proofs.YtpfecpcgdfbekaaGreatDoor
open Go.RowKit
structure Fr (b:Nat) (v:Value) (w:World) (v':Value) (w':World):Prop where
 os:w'.os=w.os
 tape:w'.tape=w.tape
 output:w'.output=w.output
 size:w.heap.size≤w'.heap.size
 block:∀ k,k<w.heap.size→k≠b→v.ownBlock≠some k→w'.heap[k]? = w.heap[k]?
 own:∀ k,v'.ownBlock=some k→v.ownBlock=some k∨w.heap.size≤k
theorem Fr.refl (b:Nat) (v:Value) (w:World):Fr b v w v w:=⟨rfl,rfl,rfl,Nat.le_refl _,fun _ _ _ _=>rfl,fun _ h=>.inl h⟩
theorem Fr.trans {b:Nat} {v v1 v2:Value} {x y z:World} (h:Fr b v x v1 y) (k:Fr b v1 y v2 z):Fr b v x v2 z :=
  ⟨k.os.trans h.os,k.tape.trans h.tape,k.output.trans h.output,Nat.le_trans h.size k.size,
   fun i hi hb hv=>(k.block i (Nat.lt_of_lt_of_le hi h.size) hb (fun e=>(h.own i e).elim hv (by omega))).trans (h.block i hi hb hv),
   fun i e=>(k.own i e).elim (h.own i) (fun h'=>.inr (Nat.le_trans h.size h'))⟩
theorem Fr.oth {b:Nat} {w w':World} (h:Oth b w w') (v:Value):Fr b v w v w':=⟨h.os,h.tape,h.output,h.size,fun k hk hb _=>h.block k hk hb,fun _ h=>.inl h⟩
theorem Fr.nx {w w':World} (h:Nx w w') (b:Nat) (v:Value):Fr b v w v w':=⟨h.os,h.tape,h.output,h.size,fun k hk _ _=>h.block k hk,fun _ h=>.inl h⟩
theorem Fr.set (w:World) (b i:Nat) (u v:Value):Fr b v w v (w.setCell ⟨b,i,none⟩ u):=Fr.oth (Oth.set w b i u) v
theorem Fr.toOth {b B:Nat} {v v':Value} {w w1 w':World} (h:Fr b v w1 v' w') (ho:Oth b w w1) (hv:∀ k,v.ownBlock=some k→B≤k) (hB:w.heap.size≤B):Oth b w w' :=
 ⟨h.os.trans ho.os,h.tape.trans ho.tape,h.output.trans ho.output,Nat.le_trans ho.size h.size,fun k hk hb =>
  (h.block k (Nat.lt_of_lt_of_le hk ho.size) hb (fun e=>by have:=hv k e;omega)).trans (ho.block k hk hb)⟩
end Go.Proofs.YtpfecpcgdfbekaaGreatDoor
namespace Go.Proofs.YtpfecpcgdfbekaaGreatDoor
open Go.RowKit
theorem Fr.mv {b B:Nat} {v v':Value} {w w':World} (h:Fr b v w v' w') (hb:b<B):Mv (But (Fm B) v) (But (Fm B) v') w w' :=
 ⟨fun g hg hl=>h.block g hl (by have:B≤g:=hg.1;omega) hg.2,fun g hg hl=>⟨hg.1,fun e=>(h.own g e).elim hg.2 (by omega)⟩⟩
section
variable {α β:Type} {f:α→Array Value} {k:Nat} {T:TypeId} {R:World→(Nat→Prop)→α→β→Prop}
theorem RepL.oth (hR:Lasts R) {b B:Nat} {w w':World} {v:Value} {l:List β} (h:RepL f k T R w (Fm B) v l) (ho:Oth b w w') (hb:b<B):RepL f k T R w' (Fm B) v l :=
 h.mv hR (Mv.oth ho (Nat.le_refl _) hb)
theorem RepL.nx (hR:Lasts R) {B:Nat} {w w':World} {v:Value} {l:List β} (h:RepL f k T R w (Fm B) v l) (ho:Nx w w'):RepL f k T R w' (Fm B) v l :=
 h.mv hR (Mv.nx ho (Nat.le_refl _))
theorem RepL.less (hR:Lasts R) {B C:Nat} {w:World} {v:Value} {l:List β} (h:RepL f k T R w (Fm B) v l) (hC:C≤B):RepL f k T R w (Fm C) v l:=h.mv hR (Mv.less hC)
theorem RepL.sl (hf:∀ x,(f x).size=k) {P:Nat→Prop} {w:World} {v:Value} {l:List β} (h:RepL f k T R w P v l):∃ A c xs,v = .slice A l.length c∧xs.length=l.length∧l.length≤c∧c≤maxLen∧RdS f k w A xs∧All2 (R w (But P v)) xs l:=by
 obtain ⟨xs,h1,h2⟩:=h
 obtain ⟨A,c,rfl,h3,h4,h5⟩:=h1.1.sl hf
 have hl:=h2.len
 exact ⟨A,c,xs,by rw [hl],hl,by omega,h4,h5,h2⟩
theorem RepL.own_lt {P:Nat→Prop} {w:World} {v:Value} {l:List β} (h:RepL f k T R w P v l) (g:Nat) (e:v.ownBlock=some g):P g∧g<w.heap.size:=by
 obtain ⟨xs,h1,h2⟩:=h
 exact ⟨h1.2 g e,h1.1.lt_ g e⟩
variable (w:World) {ops:Array Oper} {rest:List Oper} {o:Oper} {a:Act} {Q:Exit→Act→World→Prop} {sz:Nat} {T2:TypeId} {z:Value}
theorem wpList_appL (hR:Lasts R) (hinfo:(Tryz.prog.info? T).map (fun i=>(i.zero,i.size,i.bytes))=some (some z,k,sz)) (hund:Tryz.prog.underlying T2=some (.slice T)) (hzs:z.cells.size=k) (hk:0<k) (hsz:sz≤1000)
  (hf:∀ x,(f x).size=k)
  (hgd:o.guard=none) (s x:Operand) (ho:o.op = .call { callee:=.builtin .append,args:=#[s,x],argTypes:=#[T2,T2] })
  (B b:Nat) (v:Value) (l:List β) (ex:α) (ey:β) (hs:a.eval s=v) (hrep:RepL f k T R w (Fm B) v l) (hone:∀ u ∈ (f ex).toList,u.oneCell'=true) (g:Nat) (hx:a.eval x = .slice (some ⟨g,0,none⟩) 1 1)
  (hy:∀ j,j<k→w.cell? ⟨g,j,none⟩=(f ex)[j]?) (hey:R w (But (Fm B) v) ex ey) (h63:(l.length:Int)≤100000) (hB:B≤w.heap.size) (hb:b<B)
  (h:∀ v' w',RepL f k T R w' (Fm B) v' (l++[ey])→Fr b v w v' w'→(∀ k,k<w.heap.size→v.ownBlock≠some k→w'.heap[k]? = w.heap[k]?)→wpList Tryz.prog ops Q rest (a.put o.dst v') w'):wpList Tryz.prog ops Q (o :: rest) a w:=by
 refine wpList_plain hgd fun K hK=>?_
 obtain ⟨i,hi,hz,h1,h2⟩:=info_parts hinfo
 obtain ⟨xs,hsl,hall⟩:=hrep
 have hlen:=hall.len
 have hcells:∀ j u,((f ex).toList)[j]? = some u→w.cell? ((⟨g,0,none⟩:Addr).add j)=some u:=by
  intro j u hu
  have hj:j<k:=by
   rcases Nat.lt_or_ge j k with h | h
   ·exact h
   ·rw [List.getElem?_eq_none (by rw [Array.length_toList,hf];exact h)] at hu;cases hu
  rw [Addr.add_lit,Nat.zero_add,hy j hj]
  rw [← hu];simp
 obtain ⟨v',w',hrun,ho',hg,_,hob⟩:=run_append_own_at (P:=Tryz.prog) w 0 T2 o.type T i _ k sz hund hi hz h1 h2 hzs hk v xs.length (rowL f xs) hsl.1 ⟨g,0,none⟩ 1 1 (f ex).toList (by rw [Array.length_toList,hf,Nat.one_mul]) hcells hone (by simp [maxLen];omega)
  (by
    have:(xs.length+1) * sz≤100001 * 1000:=Nat.mul_le_mul (by omega) hsz
    omega) (Nat.zero_le _)
 have hfr:Fr b v w v' w':=⟨hg.os,hg.tape,hg.output,hg.size,fun k hk _ hv=>hg.block k hk (fun e=>hv e.symm),fun k e=>by
  rcases hob with h | h
  ·exact .inl (h ▸ e)
  ·rw [h] at e;cases e;exact .inr (Nat.le_refl _)⟩
 have hmv:=hfr.mv hb
 have hrep':RepL f k T R w' (Fm B) v' (l++[ey]):=by
  refine ⟨xs++[ex],⟨?_,fun g' e=>?_⟩,All2.snoc (hall.mono fun _ _ h=>hR hmv h) (hR hmv hey)⟩
  ·unfold OwnS
   rw [List.length_append,rowL_snoc]
   exact ho'
  ·rcases hob with h | h
   ·exact hsl.2 g' (h ▸ e)
   ·rw [h] at e;cases e;exact hB
 have:=hK _ _ (h v' w' hrep' hfr (fun k hk hv=>hg.block k hk (fun e=>hv e.symm)))
 unfold Oper.wp execOp
 simp only [ho,resolve,invoke,builtin,Sem.run_bind,Sem.run_pure,Result.andThen_ok,List.map_toArray,List.map_cons,List.map_nil,hs,hx,hrun]
 exact this
theorem op_appL (hR:Lasts R) (hinfo:(Tryz.prog.info? T).map (fun i=>(i.zero,i.size,i.bytes))=some (some z,k,sz)) (hund:Tryz.prog.underlying T2=some (.slice T)) (hzs:z.cells.size=k) (hk:0<k) (hsz:sz≤1000)
  (hf:∀ x,(f x).size=k)
  {K:Act→World→Prop} (s x:Operand) (ho:o.op = .call { callee:=.builtin .append,args:=#[s,x],argTypes:=#[T2,T2] })
  (B b:Nat) (v:Value) (l:List β) (ex:α) (ey:β) (hs:a.eval s=v) (hrep:RepL f k T R w (Fm B) v l) (hone:∀ u ∈ (f ex).toList,u.oneCell'=true) (g:Nat) (hx:a.eval x = .slice (some ⟨g,0,none⟩) 1 1)
  (hy:∀ j,j<k→w.cell? ⟨g,j,none⟩=(f ex)[j]?) (hey:R w (But (Fm B) v) ex ey) (h63:(l.length:Int)≤100000) (hB:B≤w.heap.size) (hb:b<B)
  (h:∀ v' w',RepL f k T R w' (Fm B) v' (l++[ey])→Fr b v w v' w'→(∀ k,k<w.heap.size→v.ownBlock≠some k→w'.heap[k]? = w.heap[k]?)→K (a.put o.dst v') w'):o.wp Tryz.prog a w K (fun _ _ _=>False):=by
 obtain ⟨i,hi,hz,h1,h2⟩:=info_parts hinfo
 obtain ⟨xs,hsl,hall⟩:=hrep
 have hlen:=hall.len
 have hcells:∀ j u,((f ex).toList)[j]? = some u→w.cell? ((⟨g,0,none⟩:Addr).add j)=some u:=by
  intro j u hu
  have hj:j<k:=by
   rcases Nat.lt_or_ge j k with h | h
   ·exact h
   ·rw [List.getElem?_eq_none (by rw [Array.length_toList,hf];exact h)] at hu;cases hu
  rw [Addr.add_lit,Nat.zero_add,hy j hj]
  rw [← hu];simp
 obtain ⟨v',w',hrun,ho',hg,_,hob⟩:=run_append_own_at (P:=Tryz.prog) w 0 T2 o.type T i _ k sz hund hi hz h1 h2 hzs hk v xs.length (rowL f xs) hsl.1 ⟨g,0,none⟩ 1 1 (f ex).toList (by rw [Array.length_toList,hf,Nat.one_mul]) hcells hone (by simp [maxLen];omega)
  (by
    have:(xs.length+1) * sz≤100001 * 1000:=Nat.mul_le_mul (by omega) hsz
    omega) (Nat.zero_le _)
 have hfr:Fr b v w v' w':=⟨hg.os,hg.tape,hg.output,hg.size,fun k hk _ hv=>hg.block k hk (fun e=>hv e.symm),fun k e=>by
  rcases hob with h | h
  ·exact .inl (h ▸ e)
  ·rw [h] at e;cases e;exact .inr (Nat.le_refl _)⟩
 have hmv:=hfr.mv hb
 have hrep':RepL f k T R w' (Fm B) v' (l++[ey]):=by
  refine ⟨xs++[ex],⟨?_,fun g' e=>?_⟩,All2.snoc (hall.mono fun _ _ h=>hR hmv h) (hR hmv hey)⟩
  ·unfold OwnS
   rw [List.length_append,rowL_snoc]
   exact ho'
  ·rcases hob with h | h
   ·exact hsl.2 g' (h ▸ e)
   ·rw [h] at e;cases e;exact hB
 have:=h v' w' hrep' hfr (fun k hk hv=>hg.block k hk (fun e=>hv e.symm))
 unfold Oper.wp execOp
 simp only [ho,resolve,invoke,builtin,Sem.run_bind,Sem.run_pure,Result.andThen_ok,List.map_toArray,List.map_cons,List.map_nil,hs,hx,hrun]
 exact this
end
section
variable {α β:Type} {f:α→Array Value} {k:Nat} {T:TypeId} {R:World→(Nat→Prop)→α→β→Prop}
theorem fresh_but (hR:Lasts R) {B:Nat} {w w':World} {v:Value} {x:α} {y:β} (h:R w' (Fm w.heap.size) x y) (hB:B≤w.heap.size) (hv:∀ g,v.ownBlock=some g→g<w.heap.size):R w' (But (Fm B) v) x y :=
 hR ⟨fun _ _ _=>rfl,fun g hg _=>⟨Nat.le_trans hB hg,fun e=>by have:=hv g e;have:w.heap.size≤g:=hg;omega⟩⟩ h
end
theorem cell_newP {w:World} {cs:Array Value} {T:TypeId} {g j:Nat} (hg:g=w.heap.size):(w.alloc (.cells cs T)).cell? ⟨g,j,none⟩=cs[j]?:=by
 subst hg;exact (Blk.new w cs T).cell j
theorem infoC:(Tryz.prog.info? 51).map (fun i=>(i.zero,i.size,i.bytes))=some (some (.agg #[.int .i64 0,.int .i64 0,.int .u64 0,.string ⟨#[]⟩,.slice none 0 0]),5,64):=by kernel_rfl
theorem infoF:(Tryz.prog.info? 202).map (fun i=>(i.zero,i.size,i.bytes))=some (some (.agg #[.bool false,.int .i64 0,.int .i64 0,.string ⟨#[]⟩,.string ⟨#[]⟩,.bool false,.int .i64 0,.int .i64 0,.int .u64 0,.string ⟨#[]⟩,.slice none 0 0]),11,128):=by kernel_rfl
theorem infoM:(Tryz.prog.info? 153).map (fun i=>(i.zero,i.size,i.bytes))=some (some (.agg #[.string ⟨#[]⟩,.bool false,.int .i64 0]),3,32):=by kernel_rfl
theorem infoT:(Tryz.prog.info? 180).map (fun i=>(i.zero,i.size,i.bytes))=some (some (.agg #[.string ⟨#[]⟩,.bool false,.string ⟨#[]⟩,.slice none 0 0,.slice none 0 0]),5,88):=by kernel_rfl
theorem infoD:(Tryz.prog.info? 56).map (fun i=>(i.zero,i.size,i.bytes))=some (some (.agg #[.int .i64 0,.string ⟨#[]⟩,.string ⟨#[]⟩,.int .i64 0,.int .i64 0,.int .u64 0,.string ⟨#[]⟩,.slice none 0 0,.slice none 0 0,.slice none 0 0,.string ⟨#[]⟩,.slice none 0 0]),12,192):=by kernel_rfl
theorem infoS:(Tryz.prog.info? 159).map (fun i=>(i.zero,i.size,i.bytes))=some (some (.agg #[.string ⟨#[]⟩,.string ⟨#[]⟩]),2,32):=by kernel_rfl
theorem infoI:(Tryz.prog.info? 9).map (fun i=>(i.zero,i.size,i.bytes))=some (some (.string ⟨#[]⟩),1,16):=by kernel_rfl
end Go.Proofs.YtpfecpcgdfbekaaGreatDoor
namespace Go.Proofs.YtpfecpcgdfbekaaGreatDoor
end Go.Proofs.YtpfecpcgdfbekaaGreatDoor
namespace Go.Proofs.YtpfecpcgdfbekaaGreatDoor
open Go.RowKit
end Go.Proofs.YtpfecpcgdfbekaaGreatDoor
