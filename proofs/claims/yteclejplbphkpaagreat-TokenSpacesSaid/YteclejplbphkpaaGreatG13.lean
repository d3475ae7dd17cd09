/- The words of a text: as a function of its bytes. The library's variable; worlds that changed in one block alone. Plain lemmas. Rows of words that a call owns; worlds that changed in one block alone. Plain lemmas. The contracts of token's small functions (what is plain of it). The contracts of token's small functions. The contracts of token's gaps, signs, digits (what is plain of it). The contracts of token's gaps, signs, digits. The contracts of token's numbers' lengths (what is plain of it). -/
import Derived.Test.YteclejplbphkpaaGreatG00
import Derived.Lib.IndexMore
import Derived.Test.YteclejplbphkpaaGreatProg
import Derived.Test.YteclejplbphkpaaGreatG01
import Derived.Maps.AppendAt
import Derived.Test.YteclejplbphkpaaGreatShelf
import Derived.Test.YteclejplbphkpaaGreatG06
import Derived.Laws.Rows
import Derived.Laws.ResultCell
import Derived.Lib.Strings
set_option linter.unusedVariables false
set_option linter.unusedSimpArgs false
set_option linter.unnecessarySimpa false
namespace Go.Proofs.YteclejplbphkpaaGreat
open Go.RowKit
structure TokV where
 k:Nat
 t:List UInt8
 n:Int
 d:Nat
 p:Nat
def isLetS (c:UInt8):Bool:=(decide (97≤c.toNat) && decide (c.toNat≤122)) || (decide (65≤c.toNat) && decide (c.toNat≤90))
def isNmS (c:UInt8):Bool:=isLetS c || isDig c || decide (c.toNat=95) || decide (c.toNat=46)
def isWhS (c:UInt8):Bool:=decide (c.toNat=9) || decide (c.toNat=10) || decide (c.toNat=13) || decide (c.toNat=32)
def isHexS (c:UInt8):Bool:=isDig c || (decide (97≤c.toNat) && decide (c.toNat≤102)) || (decide (65≤c.toNat) && decide (c.toNat≤70))
def hexV (c:UInt8):Nat:=if 97≤c.toNat∧c.toNat≤102 then c.toNat - 97+10 else if 65≤c.toNat∧c.toNat≤70 then c.toNat - 65+10 else c.toNat - 48
def spanN (p:UInt8→Bool):List UInt8→Nat
 | []=>0
 | c :: l=>if p c then spanN p l+1 else 0
theorem spanN_le (p:UInt8→Bool) (l:List UInt8):spanN p l≤l.length:=by
 induction l with
 | nil=>simp [spanN]
 | cons c l ih=>unfold spanN;split <;> simp <;> omega
theorem spanN_take (p:UInt8→Bool) (l:List UInt8):∀ c ∈ l.take (spanN p l),p c=true:=by
 induction l with
 | nil=>intro c h;simp at h
 | cons c l ih =>
  unfold spanN
  by_cases h:p c=true
  ·rw [if_pos h,List.take_succ_cons]
   intro d hd
   rcases List.mem_cons.1 hd with rfl | hd
   ·exact h
   ·exact ih d hd
  ·rw [if_neg h];intro d hd;simp at hd
theorem spanN_is (p:UInt8→Bool) (l:List UInt8) (n:Nat) (hn:n≤l.length) (h1:∀ c ∈ l.take n,p c=true) (h2:l.drop n=[]∨∃ c t,l.drop n=c :: t∧p c=false):spanN p l=n:=by
 induction l generalizing n with
 | nil=>simp at hn;subst hn;rfl
 | cons c l ih =>
  cases n with
  | zero =>
   rcases h2 with h | ⟨d,t,h,hd⟩
   ·cases h
   ·simp at h;unfold spanN;rw [h.1,hd];rfl
  | succ n =>
   unfold spanN
   rw [if_pos (h1 c (by simp)),ih n (by simpa using hn) (fun d hd=>h1 d (by simp [hd])) (by simpa using h2)]
def lineN (l:List UInt8):Nat:=spanN (fun c=>decide (c≠10)) l
def noteN:List UInt8→Option Nat
 | []=>none
 | c :: l=>if c=42∧l.head? = some 47 then some 0 else (noteN l).map (· + 1)
def gapS:List UInt8→Nat×Bool
 | []=>(0,true)
 | c :: r =>
  if c=35∨(c=47∧r.head? = some 47) then (lineN (c :: r),true)
  else if c=47∧r.head? = some 42 then (match noteN (r.drop 1) with | none=>(0,false) | some n=>(n+4,true))
  else (spanN isWhS (c :: r),true)
def skipF:Nat→List UInt8→Nat×Bool
 | 0,_=>(0,true)
 | f+1,l=>if (gapS l).1=0 then gapS l else ((gapS l).1+(skipF f (l.drop (gapS l).1)).1,(skipF f (l.drop (gapS l).1)).2)
def skipS (l:List UInt8):Nat×Bool:=skipF (l.length+1) l
theorem noteN_lt (l:List UInt8) (n:Nat) (h:noteN l=some n):n+2≤l.length:=by
 induction l generalizing n with
 | nil=>cases h
 | cons c l ih =>
  unfold noteN at h
  split at h
  ·rename_i hc
   cases l with
   | nil=>simp at hc
   | cons d l=>cases h;simp
  ·cases hl:noteN l with
   | none=>rw [hl] at h;cases h
   | some m=>rw [hl] at h;simp at h;have:=ih m hl;simp;omega
theorem gapS_le (l:List UInt8):(gapS l).1≤l.length∧((gapS l).1≠0→(gapS l).2=true):=by
 cases l with
 | nil=>exact ⟨Nat.le_refl _,fun _=>rfl⟩
 | cons c r =>
  unfold gapS
  dsimp only
  split
  ·exact ⟨spanN_le _ _,fun _=>rfl⟩
  ·split
   ·rename_i h1 h2
    cases hn:noteN (r.drop 1) with
    | none=>exact ⟨Nat.zero_le _,fun h=>absurd rfl h⟩
    | some n =>
     have:=noteN_lt _ _ hn
     refine ⟨?_,fun _=>rfl⟩
     simp at this ⊢
     omega
   ·exact ⟨spanN_le _ _,fun _=>rfl⟩
theorem skipF_more:∀ (f g:Nat) (l:List UInt8),l.length<f→l.length<g→skipF f l=skipF g l:=by
 intro f
 induction f with
 | zero=>intro g l h;omega
 | succ f ih =>
  intro g l hf hg
  cases g with
  | zero=>omega
  | succ g =>
   unfold skipF
   by_cases h0:(gapS l).1=0
   ·rw [if_pos h0,if_pos h0]
   ·have h1:=(gapS_le l).1
    rw [if_neg h0,if_neg h0,ih g (l.drop (gapS l).1) (by simp;omega) (by simp;omega)]
theorem skipS_step (l:List UInt8):skipS l=if (gapS l).1=0 then gapS l else ((gapS l).1+(skipS (l.drop (gapS l).1)).1,(skipS (l.drop (gapS l).1)).2):=by
 have hu:skipS l=if (gapS l).1=0 then gapS l else ((gapS l).1+(skipF l.length (l.drop (gapS l).1)).1,(skipF l.length (l.drop (gapS l).1)).2):=rfl
 rw [hu]
 by_cases h0:(gapS l).1=0
 ·rw [if_pos h0,if_pos h0]
 ·have h1:=(gapS_le l).1
  rw [if_neg h0,if_neg h0]
  unfold skipS
  rw [skipF_more l.length ((l.drop (gapS l).1).length+1) (l.drop (gapS l).1) (by simp;omega) (by omega)]
theorem skipS_le (l:List UInt8):(skipS l).1≤l.length:=by
 suffices h:∀ n (l:List UInt8),l.length≤n→(skipS l).1≤l.length from h _ l (Nat.le_refl _)
 intro n
 induction n with
 | zero=>intro l h;rw [skipS_step];have:=(gapS_le l).1;rw [if_pos (by omega)];exact this
 | succ n ih =>
  intro l h
  rw [skipS_step]
  have:=(gapS_le l).1
  by_cases h0:(gapS l).1=0
  ·rw [if_pos h0];exact this
  ·rw [if_neg h0]
   have:=ih (l.drop (gapS l).1) (by simp;omega)
   simp at this ⊢
   omega
def sgnN (l:List UInt8):Nat:=match l with
 | []=>0
 | c :: _=>if c.toNat=43∨c.toNat=45 then 1 else 0
def digN (l:List UInt8):Nat:=spanN isDig l
def fracN (l:List UInt8):Nat:=match l with
 | []=>0
 | c :: r=>if c.toNat=46∧digN r≠0 then digN r+1 else 0
def expN (l:List UInt8):Nat:=match l with
 | []=>0
 | c :: r=>if (c.toNat=101∨c.toNat=69)∧digN (r.drop (sgnN r))≠0 then 1+sgnN r+digN (r.drop (sgnN r)) else 0
def decN (l:List UInt8):Nat :=
 let n:=sgnN l
 let d:=digN (l.drop n)+fracN (l.drop (n+digN (l.drop n)))
 if d=0 then 0 else n+d+expN (l.drop (n+d))
def hexN (l:List UInt8):Nat:=match l with
 | c :: d :: r=>if c=48∧d=120∧spanN isHexS r≠0 then 2+spanN isHexS r else 0
 | _=>0
def wholeB (l:List UInt8):Bool:=decide (sgnN l+digN (l.drop (sgnN l))=l.length)
def natB (b:Nat) (l:List UInt8):Nat:=l.foldl (fun v c=>b * v+hexV c) 0
def negB (l:List UInt8):Bool:=match l with
 | []=>false
 | c :: _=>decide (c.toNat=45)
def wholeS (l:List UInt8):Int×Nat :=
 let ds:=l.drop (sgnN l)
 if 60<ds.length then (0,4)
 else if (if negB l then 9223372036854775808 else 9223372036854775807)<natB 10 ds then (0,5)
 else ((if negB l then -(natB 10 ds:Int) else (natB 10 ds:Int)),0)
def hexS (ds:List UInt8):Int×Nat :=
 if 16<ds.length then (0,4) else if 9223372036854775807<natB 16 ds then (0,5) else ((natB 16 ds:Int),0)
def tok0:TokV:=⟨0,[],0,0,0⟩
def numberS (l:List UInt8):Nat×TokV×Nat :=
 if hexN l≠0 then ((hexS ((l.take (hexN l)).drop 2)).2,⟨2,[],(hexS ((l.take (hexN l)).drop 2)).1,0,0⟩,hexN l)
 else if decN l=0 then (2,tok0,0)
 else if wholeB (l.take (decN l)) then ((wholeS (l.take (decN l))).2,⟨2,[],(wholeS (l.take (decN l))).1,0,0⟩,decN l)
 else ((parseS (l.take (decN l))).2,⟨3,[],0,(parseS (l.take (decN l))).1,0⟩,decN l)
def dotBad:List UInt8→Bool
 | []=>false
 | c :: r=>(decide (c.toNat=46) && (r.isEmpty || decide (r.head? = some 46))) || dotBad r
def nameS (l:List UInt8):Nat×TokV×Nat :=
 if 120<spanN isNmS l then (4,tok0,0)
 else if dotBad (l.take (spanN isNmS l)) then (2,tok0,0)
 else (0,⟨1,l.take (spanN isNmS l),0,0,0⟩,spanN isNmS l)
def quoteN (q:UInt8) (r:List UInt8):Nat:=spanN (fun c=>decide (c≠q)) r
def quotedS (q:UInt8) (r:List UInt8):Nat×TokV×Nat :=
 if quoteN q r=r.length∨lineN r<quoteN q r then (2,tok0,0)
 else (0,⟨4,r.take (quoteN q r),0,0,0⟩,quoteN q r+2)
def signsL:List UInt8:=[123,125,40,41,91,93,60,62,44,59,58,61,42]
def firstS:List UInt8→Nat×TokV×Nat
 | []=>(0,⟨6,[],0,0,0⟩,0)
 | c :: r =>
  if isLetS c || decide (c.toNat=95) then nameS (c :: r)
  else if isDig c || decide (c.toNat=43) || decide (c.toNat=45) || decide (c.toNat=46) then numberS (c :: r)
  else if c.toNat=34∨c.toNat=39 then quotedS c r
  else if signsL.contains c then (0,⟨5,[c],0,0,0⟩,1)
  else (2,tok0,0)
def numTok (t:TokV):Bool:=decide (t.k=2) || decide (t.k=3)
def goesS:List UInt8→Bool
 | []=>false
 | c :: _=>isNmS c
def wordS (l:List UInt8):Nat×Nat×TokV×Nat :=
 if (firstS l).1≠0 then ((firstS l).1,0,tok0,0)
 else if numTok (firstS l).2.1 && goesS (l.drop (firstS l).2.2) then (2,(firstS l).2.2,tok0,0)
 else (0,0,(firstS l).2.1,(firstS l).2.2)
def nextS (o:Nat) (l:List UInt8):Nat×Nat×TokV×Nat :=
 if (skipS l).2=false then (2,o+(skipS l).1,tok0,0)
 else if (wordS (l.drop (skipS l).1)).1≠0 then ((wordS (l.drop (skipS l).1)).1,o+(skipS l).1+(wordS (l.drop (skipS l).1)).2.1,tok0,0)
 else (0,0,{ (wordS (l.drop (skipS l).1)).2.2.1 with p:=o+(skipS l).1 },(skipS l).1+(wordS (l.drop (skipS l).1)).2.2.2)
def lexF:Nat→Nat→List UInt8→List TokV×Nat×Nat
 | 0,_,_=>([],0,0)
 | f+1,o,l =>
  if (nextS o l).1≠0 then ([],(nextS o l).1,(nextS o l).2.1)
  else if (nextS o l).2.2.1.k=6 then ([(nextS o l).2.2.1],0,0)
  else if (lexF f (o+(nextS o l).2.2.2) (l.drop (nextS o l).2.2.2)).2.1≠0 then lexF f (o+(nextS o l).2.2.2) (l.drop (nextS o l).2.2.2)
  else ((nextS o l).2.2.1 :: (lexF f (o+(nextS o l).2.2.2) (l.drop (nextS o l).2.2.2)).1,0,0)
def lexS (l:List UInt8):List TokV×Nat×Nat:=if 2000<l.length then ([],4,0) else lexF (l.length+1) 0 l
end Go.Proofs.YteclejplbphkpaaGreat
namespace Go.Proofs.YteclejplbphkpaaGreat
open Go.RowKit
def MaxC (w:World):Prop:=∃ m,w.cell? ⟨0,0,none⟩=some (.int .i64 m)
theorem MaxC.nx {w w':World} (h:MaxC w) (hn:Nx w w'):MaxC w':=by
 obtain ⟨m,hm⟩:=h
 exact ⟨m,(hn.cell (World.block_lt_of_cell? w _ hm)).trans hm⟩
structure Oth (b:Nat) (w w':World):Prop where
 os:w'.os=w.os
 tape:w'.tape=w.tape
 output:w'.output=w.output
 size:w.heap.size≤w'.heap.size
 block:∀ k,k<w.heap.size→k≠b→w'.heap[k]? = w.heap[k]?
theorem Oth.refl (b:Nat) (w:World):Oth b w w:=⟨rfl,rfl,rfl,Nat.le_refl _,fun _ _ _=>rfl⟩
theorem Oth.trans {b:Nat} {x y z:World} (h:Oth b x y) (k:Oth b y z):Oth b x z :=
 ⟨k.os.trans h.os,k.tape.trans h.tape,k.output.trans h.output,Nat.le_trans h.size k.size,fun i hi hb=>(k.block i (Nat.lt_of_lt_of_le hi h.size) hb).trans (h.block i hi hb)⟩
theorem Oth.nx {b:Nat} {w w':World} (h:Nx w w'):Oth b w w':=⟨h.os,h.tape,h.output,h.size,fun k hk _=>h.block k hk⟩
theorem Oth.set (w:World) (b i:Nat) (v:Value):Oth b w (w.setCell ⟨b,i,none⟩ v) :=
 ⟨rfl,rfl,rfl,by simp [World.setCell],fun k _ hk=>by simp only [World.setCell];rw [Array.getElem?_modify,if_neg (fun e=>hk e.symm)]⟩
theorem Oth.to {w w1 w':World} {b:Nat} (h:Oth b w1 w') (hn:Nx w w1) (hb:w.heap.size≤b):Nx w w' :=
 ⟨h.os.trans hn.os,h.tape.trans hn.tape,h.output.trans hn.output,Nat.le_trans hn.size h.size,fun k hk=>(h.block k (Nat.lt_of_lt_of_le hk hn.size) (by omega)).trans (hn.block k hk)⟩
theorem Oth.blk {w w':World} {b B g:Nat} {cs:Array Value} {T:TypeId} (h:Oth b w w') (k:Blk w B g cs T) (hg:g≠b):Blk w' B g cs T :=
 ⟨k.1,by rw [h.block g k.lt hg];exact k.2⟩
theorem Oth.maxC {w w':World} {b:Nat} (h:Oth b w w') (hm:MaxC w) (hb:b≠0):MaxC w':=by
 obtain ⟨m,hm⟩:=hm
 refine ⟨m,?_⟩
 have:=h.block _ (World.block_lt_of_cell? w _ hm) (fun e=>hb e.symm)
 rw [← hm]
 unfold World.cell?
 simp only
 rw [this]
theorem Oth.mono {w w1 w':World} {b:Nat} (h:Oth b w1 w') (hn:Nx w w1):Oth b w w':=(Oth.nx hn).trans h
theorem Oth.put {w w':World} {b g:Nat} (h:Oth b w w') (hg:w.heap.size≤g) (i:Nat) (v:Value):Oth b w (w'.setCell ⟨g,i,none⟩ v) :=
 ⟨h.os,h.tape,h.output,by simp [World.setCell];exact h.size,fun k hk hb=>by simp only [World.setCell];rw [Array.getElem?_modify,if_neg (by omega)];exact h.block k hk hb⟩
theorem Oth.put5 {w w':World} {b g:Nat} {v0 v1 v2 v3 v4:Value} (h:Oth b w w') (hk:w.heap.size≤g) :
  Oth b w (((((w'.setCell ⟨g,0,none⟩ v0).setCell ⟨g,1,none⟩ v1).setCell ⟨g,2,none⟩ v2).setCell ⟨g,3,none⟩ v3).setCell ⟨g,4,none⟩ v4) :=
 ((((h.put hk 0 v0).put hk 1 v1).put hk 2 v2).put hk 3 v3).put hk 4 v4
theorem Oth.own {w w':World} {b i:Nat} {v:Value} (h:Oth b w w'):Oth b w (w'.setCell ⟨b,i,none⟩ v):=h.trans (Oth.set _ _ _ _)
end Go.Proofs.YteclejplbphkpaaGreat
namespace Go.Proofs.YteclejplbphkpaaGreat
open Go.RowKit
theorem Blk.put5 {w:World} {B g:Nat} {T:TypeId} {a0 a1 a2 a3 a4 v0 v1 v2 v3 v4:Value} (h:Blk w B g #[a0,a1,a2,a3,a4] T) :
  Blk (((((w.setCell ⟨g,0,none⟩ v0).setCell ⟨g,1,none⟩ v1).setCell ⟨g,2,none⟩ v2).setCell ⟨g,3,none⟩ v3).setCell ⟨g,4,none⟩ v4) B g #[v0,v1,v2,v3,v4] T :=
 ((((h.put 0 v0).put 1 v1).put 2 v2).put 3 v3).put 4 v4
theorem Nx.put5 {w w':World} {g:Nat} {v0 v1 v2 v3 v4:Value} (h:Nx w w') (hk:w.heap.size≤g) :
  Nx w (((((w'.setCell ⟨g,0,none⟩ v0).setCell ⟨g,1,none⟩ v1).setCell ⟨g,2,none⟩ v2).setCell ⟨g,3,none⟩ v3).setCell ⟨g,4,none⟩ v4) :=
 ((((h.put' hk 0 v0).put' hk 1 v1).put' hk 2 v2).put' hk 3 v3).put' hk 4 v4
def tokC (x:TokV):Array Value:=#[.int .i64 x.k,.string ⟨x.t.toArray⟩,.int .i64 x.n,.int .u64 x.d,.int .i64 x.p]
def tokL (xs:List TokV):List Value:=xs.flatMap fun x=>(tokC x).toList
theorem tokL_snoc (xs:List TokV) (x:TokV):tokL (xs++[x])=tokL xs++(tokC x).toList:=by
 unfold tokL;simp
theorem tokL_get (xs:List TokV) (i:Nat) (hi:i<xs.length) (j:Nat) (hj:j<5):(tokL xs)[i * 5+j]? = (tokC xs[i])[j]?:=by
 induction xs generalizing i with
 | nil=>simp at hi
 | cons x xs ih =>
  have e:tokL (x :: xs)=(tokC x).toList++tokL xs:=rfl
  have e5:(tokC x).toList.length=5:=rfl
  rw [e]
  cases i with
  | zero =>
   rw [List.getElem?_append_left (by omega),Nat.zero_mul,Nat.zero_add]
   simp
  | succ i =>
   rw [List.getElem?_append_right (by omega),e5]
   have:(i+1) * 5+j - 5=i * 5+j:=by omega
   rw [this,ih i (by simpa using hi)]
   simp
def OwnT (w:World) (B:Nat) (v:Value) (xs:List TokV):Prop:=w.ownsRow B 40 5 v xs.length (tokL xs)
def RdT (w:World) (A:Option Addr) (xs:List TokV):Prop :=
 0<xs.length→∃ g,A=some ⟨g,0,none⟩∧g<w.heap.size∧∀ i (h:i<xs.length) j,j<5→w.cell? ⟨g,i * 5+j,none⟩=(tokC xs[i])[j]?
theorem OwnT.nil_ (w:World) (B:Nat):OwnT w B (.slice none 0 0) []:=World.ownsRow_nil w B _ _
theorem OwnT.alloc {w:World} {B:Nat} {v:Value} {xs:List TokV} (h:OwnT w B v xs) (o:Obj):OwnT (w.alloc o) B v xs:=World.ownsRow.alloc h o
theorem OwnT.less {w:World} {B B':Nat} {v:Value} {xs:List TokV} (h:OwnT w B v xs) (hB:B'≤B):OwnT w B' v xs:=by
 obtain ⟨h1,h2⟩:=h
 refine ⟨h1,?_⟩
 rcases h2 with h2 | ⟨g,cap,cur,hv,hg,r⟩
 ·exact .inl h2
 ·exact .inr ⟨g,cap,cur,hv,by omega,r⟩
theorem OwnT.oth {w w':World} {B b:Nat} {v:Value} {xs:List TokV} (h:OwnT w B v xs) (ho:Oth b w w') (hb:b<B):OwnT w' B v xs:=by
 obtain ⟨h1,h2⟩:=h
 refine ⟨h1,?_⟩
 rcases h2 with h2 | ⟨g,cap,cur,hv,hg,hh,r⟩
 ·exact .inl h2
 ·refine .inr ⟨g,cap,cur,hv,hg,?_,r⟩
  rw [ho.block g ?_ (by omega)];exact hh
  rcases Nat.lt_or_ge g w.heap.size with h | h
  ·exact h
  ·rw [Array.getElem?_eq_none h] at hh;cases hh
theorem OwnT.nx {w w':World} {B:Nat} {v:Value} {xs:List TokV} (h:OwnT w B v xs) (ho:Nx w w'):OwnT w' B v xs:=by
 obtain ⟨h1,h2⟩:=h
 refine ⟨h1,?_⟩
 rcases h2 with h2 | ⟨g,cap,cur,hv,hg,hh,r⟩
 ·exact .inl h2
 ·refine .inr ⟨g,cap,cur,hv,hg,?_,r⟩
  rw [ho.block g ?_];exact hh
  rcases Nat.lt_or_ge g w.heap.size with h | h
  ·exact h
  ·rw [Array.getElem?_eq_none h] at hh;cases hh
theorem OwnT.sl {w:World} {B:Nat} {v:Value} {xs:List TokV} (h:OwnT w B v xs):∃ A c,v = .slice A xs.length c∧xs.length≤c∧c≤maxLen∧RdT w A xs:=by
 obtain ⟨h1,h2⟩:=h
 rcases h2 with ⟨rfl,h0⟩ | ⟨g,cap,cur,rfl,hg,hh,hn,hm,hs,ht⟩
 ·have:xs=[]:=List.eq_nil_of_length_eq_zero h0
  subst this
  exact ⟨none,0,rfl,Nat.le_refl _,Nat.zero_le _,fun h=>by simp at h⟩
 ·refine ⟨_,cap,rfl,hn,hm,fun _=>⟨g,rfl,?_,fun i hi j hj=>?_⟩⟩
  ·rcases Nat.lt_or_ge g w.heap.size with h | h
   ·exact h
   ·rw [Array.getElem?_eq_none h] at hh;cases hh
  ·rw [cell_of_row w g (i * 5+j) cur _ (0,0) hh,← tokL_get xs i hi j hj,← ht,List.getElem?_take,if_pos (by omega)]
   simp
theorem RdT.nx {w w':World} {A:Option Addr} {xs:List TokV} (h:RdT w A xs) (hn:Nx w w'):RdT w' A xs:=fun h0=>by
 obtain ⟨g,e,hg,hc⟩:=h h0
 refine ⟨g,e,Nat.lt_of_lt_of_le hg hn.size,fun i hi j hj=>?_⟩
 rw [← hc i hi j hj]
 unfold World.cell?
 simp only
 rw [hn.block g hg]
theorem RdT.at_ {w:World} {A:Option Addr} {xs:List TokV} (h:RdT w A xs) (i:Nat) (hi:i<xs.length):∃ g,A=some ⟨g,0,none⟩∧g<w.heap.size ∧
  w.cell? ⟨g,i * 5+0,none⟩=some (.int .i64 (xs[i].k:Nat))∧w.cell? ⟨g,i * 5+1,none⟩=some (.string ⟨xs[i].t.toArray⟩)∧w.cell? ⟨g,i * 5+2,none⟩=some (.int .i64 xs[i].n) ∧
  w.cell? ⟨g,i * 5+3,none⟩=some (.int .u64 (xs[i].d:Nat))∧w.cell? ⟨g,i * 5+4,none⟩=some (.int .i64 (xs[i].p:Nat)):=by
 obtain ⟨g,e,hg,hc⟩:=h (by omega)
 exact ⟨g,e,hg,hc i hi 0 (by decide),hc i hi 1 (by decide),hc i hi 2 (by decide),hc i hi 3 (by decide),hc i hi 4 (by decide)⟩
theorem info_tok:(Tryz.prog.info? 40).map (fun i=>(i.zero,i.size,i.bytes))=some (some (.agg #[.int .i64 0,.string ⟨#[]⟩,.int .i64 0,.int .u64 0,.int .i64 0]),5,48):=by kernel_rfl
section
variable (w:World) {ops:Array Oper} {rest:List Oper} {o:Oper} {a:Act} {Q:Exit→Act→World→Prop}
theorem wpList_appT (hgd:o.guard=none) (s x:Operand) (ho:o.op = .call { callee:=.builtin .append,args:=#[s,x],argTypes:=#[24,24] })
  (B:Nat) (v:Value) (xs:List TokV) (y:TokV) (hs:a.eval s=v) (hown:OwnT w B v xs) (g:Nat) (hx:a.eval x = .slice (some ⟨g,0,none⟩) 1 1)
  (hy:∀ j,j<5→w.cell? ⟨g,j,none⟩=(tokC y)[j]?) (h63:(xs.length:Int)≤100000) (hB:B≤w.heap.size)
  (h:∀ v' w',OwnT w' B v' (xs++[y])→Below B w w'→(∀ k,k<w.heap.size→v.ownBlock≠some k→w'.heap[k]? = w.heap[k]?)→wpList Tryz.prog ops Q rest (a.put o.dst v') w'):wpList Tryz.prog ops Q (o :: rest) a w:=by
 refine wpList_plain hgd fun K hK=>?_
 obtain ⟨i,hi,hz,h1,h2⟩:=info_parts info_tok
 have hcells:∀ j u,((tokC y).toList)[j]? = some u→w.cell? ((⟨g,0,none⟩:Addr).add j)=some u:=by
  intro j u hu
  have hj:j<5:=by
   rcases Nat.lt_or_ge j 5 with h | h
   ·exact h
   ·rw [List.getElem?_eq_none (by simpa [tokC] using h)] at hu;cases hu
  rw [Addr.add_lit,Nat.zero_add,hy j hj]
  rw [← hu];simp
 have hone:∀ u ∈ (tokC y).toList,u.oneCell'=true:=by
  intro u hu
  simp [tokC] at hu
  rcases hu with rfl | rfl | rfl | rfl | rfl <;> rfl
 obtain ⟨v',w',hrun,ho',hg,_⟩:=run_append_own_at (P:=Tryz.prog) w B 24 o.type 40 i _ 5 48 Tryz.underlying24 hi hz h1 h2 rfl (by decide) v xs.length (tokL xs) hown ⟨g,0,none⟩ 1 1 (tokC y).toList rfl hcells hone (by simp [maxLen];omega) (by omega) hB
 have hbel:Below B w w':=(Below.refl B w).grown hg hB fun k hk=>(World.ownsRow.lt hown k hk).1
 have hown':OwnT w' B v' (xs++[y]):=by
  unfold OwnT
  rw [List.length_append,tokL_snoc]
  exact ho'
 have:=hK _ _ (h v' w' hown' hbel (fun k hk hne=>hg.block k hk (Ne.symm hne)))
 unfold Oper.wp execOp
 simp only [ho,resolve,invoke,builtin,Sem.run_bind,Sem.run_pure,Result.andThen_ok,List.map_toArray,List.map_cons,List.map_nil,hs,hx,hrun]
 exact this
end
end Go.Proofs.YteclejplbphkpaaGreat
namespace Go.Proofs.YteclejplbphkpaaGreat
open Go.RowKit
structure Such (F:Nat) (p:UInt8→Bool):Prop where
 enter:∀ args w,(callFunc F args).run Tryz.prog w = .ok (.enter F args) w
 calls:∀ (c:UInt8) (w:World),Calls Tryz.prog F #[.int .u8 (c.toNat:Int)] w fun e w'=>e = .returned (.bool (p c))∧w'=w
end Go.Proofs.YteclejplbphkpaaGreat
namespace Go.Proofs.YteclejplbphkpaaGreat
open Go.RowKit
set_option maxRecDepth 100000 in
set_option maxHeartbeats 800000 in
theorem isWhite_any (c:UInt8) (w:World) :
  Calls Tryz.prog 58 #[.int .u8 (c.toNat:Int)] w fun e w'=>e = .returned (.bool (isWhS c))∧w'=w:=by
 go_enter Tryz.func58,Tryz.ntmps58
 go_wp2_with fail
 all_goals
  go_ret
  refine ⟨congrArg (fun b=>Ending.returned (Value.bool b)) ?_,rfl⟩
  rw [Bool.eq_iff_iff]
  simp [isWhS]
  omega
set_option maxRecDepth 100000 in
set_option maxHeartbeats 800000 in
theorem isLetter_any (c:UInt8) (w:World) :
  Calls Tryz.prog 39 #[.int .u8 (c.toNat:Int)] w fun e w'=>e = .returned (.bool (isLetS c))∧w'=w:=by
 go_enter Tryz.func39,Tryz.ntmps39
 go_wp2_with fail
 all_goals
  go_ret
  refine ⟨congrArg (fun b=>Ending.returned (Value.bool b)) ?_,rfl⟩
  rw [Bool.eq_iff_iff]
  simp [isLetS]
  omega
set_option maxRecDepth 100000 in
set_option maxHeartbeats 800000 in
theorem isDigit_any (c:UInt8) (w:World) :
  Calls Tryz.prog 41 #[.int .u8 (c.toNat:Int)] w fun e w'=>e = .returned (.bool (isDig c))∧w'=w:=by
 go_enter Tryz.func41,Tryz.ntmps41
 go_wp2_with fail
 all_goals
  go_ret
  refine ⟨congrArg (fun b=>Ending.returned (Value.bool b)) ?_,rfl⟩
  rw [Bool.eq_iff_iff]
  simp [isDig]
  omega
set_option maxRecDepth 100000 in
set_option maxHeartbeats 1600000 in
theorem isOfName_any (c:UInt8) (w:World) :
  Calls Tryz.prog 46 #[.int .u8 (c.toNat:Int)] w fun e w'=>e = .returned (.bool (isNmS c))∧w'=w:=by
 go_enter Tryz.func46,Tryz.ntmps46
 go_wp2_with fail
 refine (isLetter_any c w).mono ?_;rintro e w' ⟨rfl,rfl⟩
 obtain ⟨L,HL⟩:∃ L,Hid (isLetS c=L):=⟨_,rfl⟩
 rw [HL.out]
 cases L
 ·go_wp2_with fail
  refine (isDigit_any c _).mono ?_;rintro e w' ⟨rfl,rfl⟩
  obtain ⟨D,HD⟩:∃ D,Hid (isDig c=D):=⟨_,rfl⟩
  rw [HD.out]
  cases D
  ·go_wp2_with fail
   all_goals
    go_ret
    refine ⟨congrArg (fun b=>Ending.returned (Value.bool b)) ?_,rfl⟩
    rw [Bool.eq_iff_iff]
    simp [isNmS,HL.out,HD.out]
    omega
  ·go_wp2_with fail
   go_ret
   refine ⟨congrArg (fun b=>Ending.returned (Value.bool b)) ?_,rfl⟩
   simp [isNmS,HL.out,HD.out]
 ·go_wp2_with fail
  go_ret
  refine ⟨congrArg (fun b=>Ending.returned (Value.bool b)) ?_,rfl⟩
  simp [isNmS,HL.out]
set_option maxRecDepth 100000 in
set_option maxHeartbeats 1600000 in
theorem isHexDigit_any (c:UInt8) (w:World) :
  Calls Tryz.prog 72 #[.int .u8 (c.toNat:Int)] w fun e w'=>e = .returned (.bool (isHexS c))∧w'=w:=by
 go_enter Tryz.func72,Tryz.ntmps72
 go_wp2_with fail
 refine (isDigit_any c w).mono ?_;rintro e w' ⟨rfl,rfl⟩
 obtain ⟨D,HD⟩:∃ D,Hid (isDig c=D):=⟨_,rfl⟩
 rw [HD.out]
 cases D
 ·go_wp2_with fail
  all_goals
   go_ret
   refine ⟨congrArg (fun b=>Ending.returned (Value.bool b)) ?_,rfl⟩
   rw [Bool.eq_iff_iff]
   simp [isHexS,HD.out]
   omega
 ·go_wp2_with fail
  go_ret
  refine ⟨congrArg (fun b=>Ending.returned (Value.bool b)) ?_,rfl⟩
  simp [isHexS,HD.out]
set_option maxRecDepth 100000 in
set_option maxHeartbeats 1600000 in
theorem span_any (F:Nat) (p:UInt8→Bool) (hF:Such F p) (s:ByteArray) (l:List UInt8) (w:World) (hl:Tx s l) (hs:(l.length:Int)≤140737488355328) :
  Calls Tryz.prog 57 #[.string s,.func (.func F) #[] #[]] w fun e w'=>e = .returned (.int .i64 (spanN p l:Nat))∧w'=w:=by
 have HL:=Lib.hid hl
 have hz:(s.size:Int)≤140737488355328:=by rw [hl.size];exact hs
 have hz2:s.size=l.length:=hl.size
 have eF:=hF.enter
 clear hl
 go_enter Tryz.func57,Tryz.ntmps57
 go_wp2_with fail
 go_loopw [5] (fun v wr=>∃ (n:Nat),v = .int .i64 n∧n≤l.length∧Hid (∀ c ∈ l.take n,p c=true)∧wr=w) (fun v _=>(140737488355328 - intOf v).toNat)
 case atStart=>exact ⟨0,rfl,Nat.zero_le _,by unfold Hid;simp,rfl⟩
 case round =>
  obtain ⟨n,rfl,hn,HA,rfl⟩:=hrel
  by_cases hlt:n<l.length
  ·obtain ⟨hp,e0⟩:=HL.out.idx n hlt
   obtain ⟨c,hc⟩:∃ c,l[n]=c:=⟨_,rfl⟩
   rw [hc] at e0
   have g1:decide ((n:Int)<(s.size:Int))=true:=decide_eq_true (by omega)
   have HTK:Hid (l.take (n+1)=l.take n++[c]):=by unfold Hid;rw [← hc];exact (List.take_append_getElem hlt).symm
   have HDR:Hid (l.drop n=c :: l.drop (n+1)):=by unfold Hid;rw [← hc];exact List.drop_eq_getElem_cons hlt
   obtain ⟨P,HP⟩:∃ P,Hid (p c=P):=⟨_,rfl⟩
   clear hc
   go_wp2_with fail
   refine (hF.calls c _).mono ?_;rintro e w' ⟨rfl,rfl⟩
   rw [HP.out]
   cases P
   ·go_wp2_with fail
    go_ret
    rw [spanN_is p l n (by omega) HA.out (.inr ⟨c,_,HDR.out,HP.out⟩)]
    exact ⟨rfl,rfl⟩
   ·go_wp2_with fail
    go_roundw
    case rel =>
     refine ⟨n+1,by go_num,hlt,?_,by first | rfl | trivial⟩
     unfold Hid
     intro d hd
     rw [HTK.out] at hd
     rcases List.mem_append.1 hd with h | h
     ·exact HA.out d h
     ·rw [List.mem_singleton.1 h];exact HP.out
    case measure=>simp [intOf];omega
  ·have g1:decide ((n:Int)<(s.size:Int))=false:=decide_eq_false (by omega)
   have HDR:Hid (l.drop n=[]):=by unfold Hid;rw [List.drop_eq_nil_iff];omega
   go_wp2_with fail
   go_ret
   rw [spanN_is p l n (by omega) HA.out (.inl HDR.out)]
   exact ⟨rfl,rfl⟩
theorem such_white:Such 58 isWhS:=⟨enters_of Tryz.func58 (by kernel_rfl) rfl,isWhite_any⟩
theorem such_digit:Such 41 isDig:=⟨enters_of Tryz.func41 (by kernel_rfl) rfl,isDigit_any⟩
theorem such_name:Such 46 isNmS:=⟨enters_of Tryz.func46 (by kernel_rfl) rfl,isOfName_any⟩
theorem such_hex:Such 72 isHexS:=⟨enters_of Tryz.func72 (by kernel_rfl) rfl,isHexDigit_any⟩
end Go.Proofs.YteclejplbphkpaaGreat
namespace Go.Proofs.YteclejplbphkpaaGreat
open Go.RowKit
theorem index_other (l:List UInt8) (q:UInt8):Lib.indexByte l q=if spanN (fun c=>decide (c≠q)) l<l.length then ((spanN (fun c=>decide (c≠q)) l:Nat):Int) else -1:=by
 induction l with
 | nil=>rfl
 | cons c l ih =>
  unfold Lib.indexByte spanN
  by_cases h:c=q
  ·subst h;simp
  ·have h1:(c == q)=false:=by simpa using h
   have h2:decide (c≠q)=true:=by simpa using h
   rw [h1,if_pos h2,ih]
   generalize spanN (fun c=>decide (c≠q)) l=N
   simp only [List.length_cons,Bool.false_eq_true,if_false]
   by_cases hl:N<l.length
   ·have:(((N:Nat):Int) == -1)=false:=by rw [beq_eq_false_iff_ne];omega
    rw [if_pos hl,this,if_pos (show N+1<l.length+1 by omega)]
    simp
   ·rw [if_neg hl,if_neg (show ¬ N+1<l.length+1 by omega)]
    rfl
theorem index_note (l:List UInt8):Lib.index l [42,47]=match noteN l with
  | none=>-1
  | some n=>(n:Int):=by
 induction l with
 | nil=>rfl
 | cons c l ih =>
  unfold Lib.index noteN
  have hp:List.isPrefixOf [42,47] (c :: l)=decide (c=42∧l.head? = some 47):=by
   rw [Bool.eq_iff_iff]
   cases l with
   | nil=>simp [List.isPrefixOf]
   | cons d l=>simp [List.isPrefixOf];exact ⟨fun h=>⟨h.1.symm,h.2.symm⟩,fun h=>⟨h.1.symm,h.2.symm⟩⟩
  rw [hp,ih]
  by_cases h:c=42∧l.head? = some 47
  ·simp [h]
  ·rw [if_neg (by simpa using h),if_neg h]
   cases noteN l with
   | none=>rfl
   | some n =>
    have:(((n:Nat):Int) == -1)=false:=by rw [beq_eq_false_iff_ne];omega
    dsimp only [Option.map]
    rw [this]
    simp
theorem pre35 (l:List UInt8):Lib.hasPrefix l [35]=decide (l.head? = some 35):=by
 unfold Lib.hasPrefix
 rw [Bool.eq_iff_iff]
 cases l with
 | nil=>simp [List.isPrefixOf]
 | cons c l=>simp [List.isPrefixOf];exact ⟨Eq.symm,Eq.symm⟩
theorem pre47 (l:List UInt8) (q:UInt8):Lib.hasPrefix l [47,q]=decide (l.head? = some 47∧(l.drop 1).head? = some q):=by
 unfold Lib.hasPrefix
 rw [Bool.eq_iff_iff]
 cases l with
 | nil=>simp [List.isPrefixOf]
 | cons c l=>cases l with
  | nil=>simp [List.isPrefixOf]
  | cons d l=>simp [List.isPrefixOf];exact ⟨fun h=>⟨h.1.symm,h.2.symm⟩,fun h=>⟨h.1.symm,h.2.symm⟩⟩
theorem gap_is (l:List UInt8):gapS l=if (Lib.hasPrefix l [35] || Lib.hasPrefix l [47,47]) then (lineN l,true)
  else if Lib.hasPrefix l [47,42] then (match noteN (l.drop 2) with | none=>(0,false) | some n=>(n+4,true)) else (spanN isWhS l,true):=by
 rw [pre35,pre47,pre47]
 cases l with
 | nil=>rfl
 | cons c r =>
  unfold gapS
  simp only [List.drop_one,List.head?_cons,Option.some.injEq,List.drop_succ_cons,List.drop_zero,Bool.decide_and,Bool.or_eq_true,decide_eq_true_eq,Bool.and_eq_true]
  all_goals split
  all_goals (try rfl)
  all_goals split
  all_goals (first | rfl | (cases noteN r.tail <;> rfl))
end Go.Proofs.YteclejplbphkpaaGreat
namespace Go.Proofs.YteclejplbphkpaaGreat
open Go.RowKit
set_option maxRecDepth 100000 in
set_option maxHeartbeats 800000 in
theorem lineLength_any (s:ByteArray) (l:List UInt8) (w:World) (hl:Tx s l) (hs:(l.length:Int)≤100000) :
  Calls Tryz.prog 55 #[.string s] w fun e w'=>e = .returned (.int .i64 (lineN l:Nat))∧w'=w:=by
 have HL:=Lib.hid hl
 have hz:s.size=l.length:=hl.size
 have HI:Hid (Lib.indexByte s.data.toList (10:Int).toNat.toUInt8=if lineN l<l.length then ((lineN l:Nat):Int) else -1):=by
  unfold Hid;rw [show s.data.toList=l from hl];exact index_other l 10
 obtain ⟨N,hN⟩:∃ N,lineN l=N:=⟨_,rfl⟩
 have hle:N≤l.length:=by rw [← hN];exact spanN_le _ _
 rw [hN] at HI ⊢
 clear hl hN
 go_enter Tryz.func55,Tryz.ntmps55
 go_wp2_with fail
 refine (Tryz.strings_IndexByte s 10 w).mono ?_;rintro e w' ⟨rfl,rfl⟩
 rw [HI.out]
 by_cases hlt:N<l.length
 ·rw [if_pos hlt]
  go_wp2_with fail
  go_ret
  exact ⟨rfl,rfl⟩
 ·rw [if_neg hlt]
  have hE:(s.size:Int)=(N:Int):=by omega
  go_wp2_with fail
  go_ret
  exact ⟨congrArg (fun z=>Ending.returned (Value.int .i64 z)) (by omega),rfl⟩
set_option maxRecDepth 100000 in
set_option maxHeartbeats 800000 in
theorem gap_any (s:ByteArray) (l:List UInt8) (w:World) (hl:Tx s l) (hs:(l.length:Int)≤100000) (hm:MaxC w) :
  Calls Tryz.prog 38 #[.string s] w fun e w'=>e = .returned (.tuple #[.int .i64 ((gapS l).1:Nat),.bool (gapS l).2])∧w'=w:=by
 have HL:=Lib.hid hl
 have HZ:=Lib.hid hl.size
 have hz:(s.size:Int)≤100000:=by rw [hl.size];exact hs
 have HD:Hid (s.data.toList=l):=hl
 have HG:=Lib.hid (gap_is l)
 have HM:=Lib.hid hm
 obtain ⟨b1,hb1⟩:∃ b,Lib.hasPrefix l [35]=b:=⟨_,rfl⟩
 obtain ⟨b2,hb2⟩:∃ b,Lib.hasPrefix l [47,47]=b:=⟨_,rfl⟩
 obtain ⟨b3,hb3⟩:∃ b,Lib.hasPrefix l [47,42]=b:=⟨_,rfl⟩
 rw [hb1,hb2,hb3] at HG
 have h2:b3=true→(2:Int)≤s.size:=by
  intro h
  rw [h] at hb3
  rw [pre47] at hb3
  have:=of_decide_eq_true hb3
  cases l with
  | nil=>simp at this
  | cons c l=>cases l with
   | nil=>simp at this
   | cons d l=>rw [HZ.out];simp;omega
 have H1:=Lib.hid hb1
 have H2:=Lib.hid hb2
 have H3:=Lib.hid hb3
 clear hl hm hb1 hb2 hb3
 go_enter Tryz.func38,Tryz.ntmps38
 go_wp2_with fail
 refine (Tryz.strings_HasPrefix s ⟨#[35]⟩ w).mono ?_;rintro e w' ⟨rfl,rfl⟩
 rw [HD.out,show (ByteArray.mk #[35]).data.toList=[35] from rfl,H1.out]
 have hg:=HG.out
 cases b1
 ·go_wp2_with fail
  refine (Tryz.strings_HasPrefix s ⟨#[47,47]⟩ w').mono ?_;rintro e w' ⟨rfl,rfl⟩
  rw [HD.out,show (ByteArray.mk #[47,47]).data.toList=[47,47] from rfl,H2.out]
  cases b2
  ·go_wp2_with fail
   refine (Tryz.strings_HasPrefix s ⟨#[47,42]⟩ w').mono ?_;rintro e w' ⟨rfl,rfl⟩
   rw [HD.out,show (ByteArray.mk #[47,42]).data.toList=[47,42] from rfl,H3.out]
   rw [if_neg (by decide)] at hg
   cases b3
   ·rw [if_neg (by decide)] at hg
    have HG2:=Lib.hid hg
    clear hg HG h2
    go_wp2_with fail
    refine (span_any _ isWhS such_white s l _ HL.out (by omega)).mono ?_;rintro e w' ⟨rfl,rfl⟩
    obtain ⟨N,HN⟩:∃ N,Hid (spanN isWhS l=N):=⟨_,rfl⟩
    rw [HN.out]
    go_wp2_with fail
    go_ret2
    rw [HG2.out,HN.out]
    exact ⟨rfl,rfl⟩
   ·rw [if_pos rfl] at hg
    have h2':=h2 rfl
    have HG2:=Lib.hid hg
    obtain ⟨u,hu,HU⟩:=HL.out.from_ 2
    clear hg HG h2
    go_wp2_with fail
    obtain ⟨m,hmm⟩:=HM.out
    refine (Tryz.strings_Index u ⟨#[42,47]⟩ m _ (by rw [HU.out.size];simp;omega) hmm).mono ?_;rintro e w' ⟨rfl,rfl⟩
    have hI:=index_note (l.drop 2)
    rw [show u.data.toList=l.drop 2 from HU.out,show (ByteArray.mk #[42,47]).data.toList=[42,47] from rfl,hI]
    clear hI
    cases hn:noteN (l.drop 2) with
    | none =>
     rw [hn] at HG2
     dsimp only
     go_wp2_with fail
     go_ret2
     rw [HG2.out]
     exact ⟨rfl,rfl⟩
    | some n =>
     rw [hn] at HG2
     have hnl:(n:Int)≤100000:=by
      have:=noteN_lt _ _ hn
      simp at this;omega
     have HN:=Lib.hid hn
     clear hn
     dsimp only
     go_wp2_with fail
     go_ret2
     rw [HG2.out]
     exact ⟨rfl,rfl⟩
  ·rw [if_pos (by decide)] at hg
   have HG2:=Lib.hid hg
   clear hg HG h2
   go_wp2_with fail
   refine (lineLength_any s l _ HL.out hs).mono ?_;rintro e w' ⟨rfl,rfl⟩
   obtain ⟨N,HN⟩:∃ N,Hid (lineN l=N):=⟨_,rfl⟩
   rw [HN.out]
   go_wp2_with fail
   go_ret2
   rw [HG2.out,HN.out]
   exact ⟨rfl,rfl⟩
 ·rw [if_pos (by simp)] at hg
  have HG2:=Lib.hid hg
  clear hg HG h2
  go_wp2_with fail
  refine (lineLength_any s l _ HL.out hs).mono ?_;rintro e w' ⟨rfl,rfl⟩
  obtain ⟨N,HN⟩:∃ N,Hid (lineN l=N):=⟨_,rfl⟩
  rw [HN.out]
  go_wp2_with fail
  go_ret2
  rw [HG2.out,HN.out]
  exact ⟨rfl,rfl⟩
end Go.Proofs.YteclejplbphkpaaGreat
namespace Go.Proofs.YteclejplbphkpaaGreat
open Go.RowKit
theorem sgnN_le (l:List UInt8):sgnN l≤l.length∧sgnN l≤1:=by
 cases l with
 | nil=>exact ⟨Nat.le_refl _,Nat.zero_le _⟩
 | cons c l=>unfold sgnN;dsimp only;split <;> simp
theorem digN_le (l:List UInt8):digN l≤l.length:=spanN_le _ _
theorem frac_is (l:List UInt8):fracN l=if Lib.hasPrefix l [46]=true∧digN (Lib.trimPrefix l [46])≠0 then 1+digN (Lib.trimPrefix l [46]) else 0:=by
 cases l with
 | nil=>rfl
 | cons c r =>
  by_cases h:c=46
  ·subst h
   have h1:Lib.hasPrefix (46 :: r) [46]=true:=by simp [Lib.hasPrefix,List.isPrefixOf]
   have h2:Lib.trimPrefix (46 :: r) [46]=r:=by unfold Lib.trimPrefix;rw [h1];rfl
   rw [h1,h2]
   unfold fracN
   dsimp only
   by_cases h0:digN r=0
   ·simp [h0]
   ·rw [if_pos ⟨rfl,h0⟩,if_pos ⟨rfl,h0⟩];omega
  ·have h1:Lib.hasPrefix (c :: r) [46]=false:=by
    simp [Lib.hasPrefix,List.isPrefixOf];exact fun e=>h e.symm
   have h3:¬ c.toNat=46:=fun e=>h (UInt8.toNat_inj.1 (by rw [e];rfl))
   rw [h1]
   unfold fracN
   simp [h3]
theorem hex_is (l:List UInt8):hexN l=if Lib.hasPrefix l [48,120]=true∧spanN isHexS (Lib.trimPrefix l [48,120])≠0 then 2+spanN isHexS (Lib.trimPrefix l [48,120]) else 0:=by
 cases l with
 | nil=>rfl
 | cons c r=>cases r with
  | nil=>simp [hexN,Lib.hasPrefix,List.isPrefixOf]
  | cons d r =>
   by_cases h:c=48∧d=120
   ·obtain ⟨rfl,rfl⟩:=h
    have h1:Lib.hasPrefix (48 :: 120 :: r) [48,120]=true:=by simp [Lib.hasPrefix,List.isPrefixOf]
    have h2:Lib.trimPrefix (48 :: 120 :: r) [48,120]=r:=by unfold Lib.trimPrefix;rw [h1];rfl
    rw [h1,h2]
    unfold hexN
    simp
   ·have h1:Lib.hasPrefix (c :: d :: r) [48,120]=false:=by
     simp [Lib.hasPrefix,List.isPrefixOf]
     intro h1 h2
     exact h ⟨h1.symm,h2.symm⟩
    rw [h1]
    unfold hexN
    simp
    intro h1 h2
    exact absurd ⟨h1,h2⟩ h
end Go.Proofs.YteclejplbphkpaaGreat
