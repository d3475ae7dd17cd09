/- Slices of one-cell elements as lists: what a call owns, what it reads, and how they last. Plain lemmas over any program. The nearest binary64 to a fraction, as one number: which level, which nearest integer, that it rises, that it does not change where fraction and divisor are multiplied alike. Plain lemmas. Which texts are numbers, and which binary64 is nearest: as a function of the text's bytes. The words of a text: as a function of its bytes. Digits as numbers. Plain lemmas. What a call owns at any offset of a block, and append onto it. A region that draws its order, in which some operations read and others make memory: one walk serves every order, if at each step the operation taken either reads alone (and gives one value however memory has grown) or is the only one that can come up. Plain lemmas over any program. A block that the call made, with the values of its cells. Plain lemmas. -/
import Derived.WalkKit
import Derived.Lib.Hide
import Derived.Lib.ConvBytes
import Derived.Lib.AppendStr
import Derived.Maps.AppendAt
import Derived.Laws.BytesArg
import Derived.Deep.Draws
import Derived.OwnWalk
import Derived.Lib.SlBytesConst
import Derived.Lib.IndexMore
import Derived.ArgAppend
import Derived.Lib.AppendZeros
import Derived.Lib.AppendZerosOnto
import Derived.Still
import Derived.Deep.Quiet
import Derived.Deep.QuietTactic
set_option linter.unusedVariables false
set_option linter.unusedSimpArgs false
set_option linter.unnecessarySimpa false
namespace Go.Proofs.YtpfecpcgdfbekaaGreatDoor
open Go.RowKit
def bv (u:UInt8):Value:=.int .u8 (u.toNat:Int)
structure ElT (P:Program) (t e:TypeId) (bytes:Nat):Prop where
 ht:P.underlying t=some (.slice e)
 inf:∃ i z,P.info? e=some i∧i.zero=some z∧i.size=1∧i.bytes=bytes∧z.cells.size=1
section rows
variable {α:Type} {f:α→Value} {e:TypeId} {w w':World} {B B':Nat} {v:Value} {A:Option Addr} {xs ys:List α}
def Own (f:α→Value) (e:TypeId) (w:World) (B:Nat) (v:Value) (xs:List α):Prop:=w.ownsRow B e 1 v xs.length (xs.map f)
def Rd (f:α→Value) (w:World) (A:Option Addr) (xs:List α):Prop :=
 0<xs.length→∃ b off,A=some ⟨b,off,none⟩∧b<w.heap.size∧∀ j (h:j<xs.length),w.cell? ⟨b,off+j,none⟩=some (f xs[j])
theorem Rd.nil:Rd f w A ([]:List α):=fun h=>absurd h (by simp)
theorem Rd.keep (h:Rd f w A xs) (hs:w.heap.size≤w'.heap.size) (hk:∀ p:Addr,p.block<w.heap.size→w'.cell? p=w.cell? p):Rd f w' A xs:=fun hn=>by
 obtain ⟨b,off,e,hb,hc⟩:=h hn
 exact ⟨b,off,e,by omega,fun j hj=>(hk _ hb).trans (hc j hj)⟩
theorem Rd.below (h:Rd f w A xs) (hb:Below w.heap.size w w'):Rd f w' A xs:=h.keep hb.size fun _ hp=>hb.cell hp
theorem Rd.alloc (h:Rd f w A xs) (o:Obj):Rd f (w.alloc o) A xs:=h.below ((Below.refl _ _).alloc (Nat.le_refl _) o)
theorem Rd.drew (h:Rd f w A xs):Rd f w.drew A xs:=h
theorem Rd.at_ {k:Nat} (h:Rd f w A xs) (hk:k<xs.length):∃ b off,A=some ⟨b,off,none⟩∧b<w.heap.size∧w.cell? ⟨b,off+k,none⟩=some (f xs[k]):=by
 obtain ⟨b,off,e,hb,hc⟩:=h (by omega)
 exact ⟨b,off,e,hb,hc k hk⟩
theorem Rd.cut {l h cap:Nat} (hr:Rd f w A xs) (hl:l≤h) (hh:h≤xs.length) (hc:xs.length≤cap) :
  Rd f w (if cap=l then A else A.map (·.add (l * 1))) ((xs.take h).drop l):=by
 intro hn
 simp only [List.length_drop,List.length_take] at hn
 obtain ⟨b,off,rfl,hb,hcell⟩:=hr (by omega)
 rw [if_neg (by omega)]
 refine ⟨b,off+l,?_,hb,fun j hj=>?_⟩
 ·by_cases h0:l=0 <;> simp [Addr.add,h0]
 ·simp only [List.length_drop,List.length_take] at hj
  rw [List.getElem_drop,List.getElem_take,Nat.add_assoc]
  exact hcell (l+j) (by omega)
theorem Rd.sliced {l h cap:Nat} (hr:Rd f w A xs) (hl:l≤h) (hh:h≤xs.length) (hc:xs.length≤cap) :
  ∃ A',sliced A l h cap 1 = .slice A' ((xs.take h).drop l).length (cap - l)∧Rd f w A' ((xs.take h).drop l):=by
 have e:((xs.take h).drop l).length=h - l:=by simp [List.length_drop,List.length_take];omega
 rcases A with _ | a
 ·refine ⟨none,?_,?_⟩
  ·simp [Go.sliced,e]
  ·intro hn;obtain ⟨b,off,h,_⟩:=hr (by omega);cases h
 ·have hc:=hr.cut hl hh hc
  by_cases hcl:cap=l
  ·rw [if_pos hcl] at hc
   refine ⟨_,?_,hc⟩
   simp [Go.sliced,e,hcl]
  ·rw [if_neg hcl] at hc
   refine ⟨_,?_,hc⟩
   simp [Go.sliced,e,hcl]
theorem Own.nil_:Own f e w B (.slice none 0 0) ([]:List α):=World.ownsRow_nil w B e 1
theorem Own.alloc (h:Own f e w B v xs) (o:Obj):Own f e (w.alloc o) B v xs:=World.ownsRow.alloc h o
theorem Own.drew (h:Own f e w B v xs):Own f e w.drew B v xs:=h
theorem Own.less (h:Own f e w B v xs) (hB:B'≤B):Own f e w B' v xs:=by
 obtain ⟨h1,h2⟩:=h
 refine ⟨h1,?_⟩
 rcases h2 with h2 | ⟨g,cap,cur,hv,hg,r⟩
 ·exact .inl h2
 ·exact .inr ⟨g,cap,cur,hv,by omega,r⟩
theorem Own.sl (h:Own f e w B v xs):∃ A c,v = .slice A xs.length c∧xs.length≤c∧c≤maxLen∧Rd f w A xs:=by
 obtain ⟨h1,h2⟩:=h
 rcases h2 with ⟨rfl,h0⟩ | ⟨g,cap,cur,rfl,hg,hh,hn,hm,hs,ht⟩
 ·have:xs=[]:=List.eq_nil_of_length_eq_zero h0
  subst this
  exact ⟨none,0,rfl,Nat.le_refl _,Nat.zero_le _,Rd.nil⟩
 ·refine ⟨_,cap,rfl,hn,hm,fun _=>⟨g,0,rfl,?_,fun j hj=>?_⟩⟩
  ·rcases Nat.lt_or_ge g w.heap.size with h | h
   ·exact h
   ·rw [Array.getElem?_eq_none h] at hh;cases hh
  ·have hj':(xs.map f)[j]? = some (f xs[j]):=by simp [hj]
   have hcj:cur[j]? = some (f xs[j]):=by
    rw [← ht,List.getElem?_take] at hj'
    split at hj'
    ·simpa using hj'
    ·cases hj'
   rw [Nat.zero_add]
   rw [cell_of_row w g j cur e (0,0) hh]
   exact hcj
theorem Own.name (h:Own f e w B v xs) (n:Nat) (hn:xs.length=n):∃ A c ys,v = .slice A ys.length c∧Hid (ys=xs)∧ys.length≤n∧n≤ys.length∧ys.length≤c∧c≤maxLen∧Rd f w A ys∧Own f e w B (.slice A ys.length c) ys:=by
 obtain ⟨A,c,rfl,h1,h2,h3⟩:=h.sl
 exact ⟨A,c,xs,rfl,rfl,by omega,by omega,h1,h2,h3,h⟩
theorem Own.below (h:Own f e w B v xs) (hb:Below w.heap.size w w'):Own f e w' B v xs:=by
 obtain ⟨h1,h2⟩:=h
 refine ⟨h1,?_⟩
 rcases h2 with h2 | ⟨g,cap,cur,hv,hg,hh,r⟩
 ·exact .inl h2
 ·refine .inr ⟨g,cap,cur,hv,hg,?_,r⟩
  rw [hb.block g ?_];exact hh
  rcases Nat.lt_or_ge g w.heap.size with h | h
  ·exact h
  ·rw [Array.getElem?_eq_none h] at hh;cases hh
end rows
section laws
variable {α:Type} {f:α→Value} {P:Program} (w:World) {ops:Array Oper} {rest:List Oper} {o:Oper} {a:Act} {Q:Exit→Act→World→Prop}
structure Cut (f:α→Value) (w:World) (xs:List α) (l h:Int) (A:Option Addr) (ys:List α):Prop where
 rd:Rd f w A ys
 eq:Hid (ys=(xs.take h.toNat).drop l.toNat)
 lo:(ys.length:Int)≤h - l
 hi:h - l≤(ys.length:Int)
end laws
theorem nx {a b c:World} (h:Below a.heap.size a b) (k:Below b.heap.size b c):Below a.heap.size a c:=h.trans (k.mono h.size)
theorem nxa {a b:World} (h:Below a.heap.size a b) (o:Obj):Below a.heap.size a (b.alloc o):=h.alloc h.size o
theorem nx0 (a:World) (o:Obj):Below a.heap.size a (a.alloc o):=(Below.refl _ _).alloc (Nat.le_refl _) o
theorem Rd.one {α:Type} {f:α→Value} {w:World} {e:TypeId} {V:Value} {x:α} {g:Nat} (h:V=f x) (hg:g=w.heap.size):Rd f (w.alloc (.cells #[V] e)) (some ⟨g,0,none⟩) [x]:=by
 subst hg
 intro _
 refine ⟨_,_,rfl,by simp,fun j hj=>?_⟩
 have:j=0:=by simpa using hj
 subst this
 rw [World.cell?_alloc_at _ _ _ _ (by simp)]
 simp [h]
end Go.Proofs.YtpfecpcgdfbekaaGreatDoor
namespace Go.Proofs.YtpfecpcgdfbekaaGreatDoor
open Go.RowKit
def rnd (a b:Nat):Nat:=if 2 * (a % b) > b∨2 * (a % b)=b∧a / b % 2=1 then a / b+1 else a / b
def lev (X Y:Nat):Nat:=if X / Y=0 then 0 else Nat.log2 (X / Y) - 52
def near (X Y:Nat):Nat:=lev X Y * 4503599627370496+rnd X (Y * 2 ^ lev X Y)
def tz:Nat:=1074
end Go.Proofs.YtpfecpcgdfbekaaGreatDoor
namespace Go.Proofs.YtpfecpcgdfbekaaGreatDoor
open Go.RowKit
def isDig (c:UInt8):Bool:=decide (48≤c.toNat) && decide (c.toNat≤57)
def digV (c:UInt8):Nat:=c.toNat - 48
def scanS:Bool→List UInt8→List UInt8×Nat×Bool×List UInt8
 | p,[]=>([],0,p,[])
 | p,c :: s =>
  if isDig c then (c :: (scanS p s).1,(scanS p s).2.1+(if p then 1 else 0),(scanS p s).2.2)
  else if c.toNat=46∧p=false then scanS true s
  else ([],0,p,c :: s)
def expDigits:List UInt8→Nat→Option Nat
 | [],v=>some v
 | c :: s,v=>if isDig c then expDigits s (min (v * 10+digV c) 100000) else none
def signS:List UInt8→Bool×List UInt8
 | []=>(false,[])
 | c :: s=>if c.toNat=43 then (false,s) else if c.toNat=45 then (true,s) else (false,c :: s)
def expS:List UInt8→Option (Int×Bool)
 | []=>some (0,false)
 | c :: s =>
  if c.toNat=101∨c.toNat=69 then
   if (signS s).2=[] then none
   else match expDigits (signS s).2 0 with
    | none=>none
    | some v=>some (if (signS s).1 then -(v:Int) else (v:Int),decide (400<v))
  else none
def valS (ds:List UInt8):Nat:=ds.foldl (fun x c=>10 * x+digV c) 0
def numS (n:Nat) (k:Int):Nat:=if 0≤k then near (n * 10 ^ k.toNat * 2 ^ tz) 1 else near (n * 2 ^ tz) (10 ^ (-k).toNat)
def LIM:Nat:=9218868437227405312
def parseS (s:List UInt8):Nat×Nat :=
 let t:=(signS s).2
 let r:=scanS false t
 if r.1=[]∨r.2.2.1=true∧r.2.1=0 then (0,2)
 else match expS r.2.2.2 with
  | none=>(0,2)
  | some (v,big) =>
   if 60<r.1.length then (0,4)
   else if big then (0,5)
   else if numS (valS r.1) (v - r.2.1)<LIM then ((if (signS s).1 then 9223372036854775808 else 0)+numS (valS r.1) (v - r.2.1),0)
   else (0,5)
end Go.Proofs.YtpfecpcgdfbekaaGreatDoor
namespace Go.Proofs.YtpfecpcgdfbekaaGreatDoor
open Go.RowKit
structure TokV where
 k:Nat
 t:List UInt8
 n:Int
 d:Nat
 p:Nat
def isLetS (c:UInt8):Bool:=(decide (97≤c.toNat) && decide (c.toNat≤122)) || (decide (65≤c.toNat) && decide (c.toNat≤90))
def isNmS (c:UInt8):Bool:=isLetS c || isDig c || decide (c.toNat=95) || decide (c.toNat=46)
def isWhS (c:UInt8):Bool:=decide (c.toNat=9) || decide (c.toNat=10) || decide (c.toNat=13) || decide (c.toNat=32)
def isHexS (c:UInt8):Bool:=isDig c || (decide (97≤c.toNat) && decide (c.toNat≤102)) || (decide (65≤c.toNat) && decide (c.toNat≤70))
def hexV (c:UInt8):Nat:=if 97≤c.toNat∧c.toNat≤102 then c.toNat - 97+10 else if 65≤c.toNat∧c.toNat≤70 then c.toNat - 65+10 else c.toNat - 48
def spanN (p:UInt8→Bool):List UInt8→Nat
 | []=>0
 | c :: l=>if p c then spanN p l+1 else 0
theorem spanN_le (p:UInt8→Bool) (l:List UInt8):spanN p l≤l.length:=by
 induction l with
 | nil=>simp [spanN]
 | cons c l ih=>unfold spanN;split <;> simp <;> omega
theorem spanN_take (p:UInt8→Bool) (l:List UInt8):∀ c ∈ l.take (spanN p l),p c=true:=by
 induction l with
 | nil=>intro c h;simp at h
 | cons c l ih =>
  unfold spanN
  by_cases h:p c=true
  ·rw [if_pos h,List.take_succ_cons]
   intro d hd
   rcases List.mem_cons.1 hd with rfl | hd
   ·exact h
   ·exact ih d hd
  ·rw [if_neg h];intro d hd;simp at hd
theorem spanN_drop (p:UInt8→Bool) (l:List UInt8):l.drop (spanN p l)=[]∨∃ c t,l.drop (spanN p l)=c :: t∧p c=false:=by
 induction l with
 | nil=>exact .inl rfl
 | cons c l ih =>
  unfold spanN
  by_cases h:p c=true
  ·rw [if_pos h,List.drop_succ_cons];exact ih
  ·rw [if_neg h];exact .inr ⟨c,l,rfl,by simpa using h⟩
theorem spanN_is (p:UInt8→Bool) (l:List UInt8) (n:Nat) (hn:n≤l.length) (h1:∀ c ∈ l.take n,p c=true) (h2:l.drop n=[]∨∃ c t,l.drop n=c :: t∧p c=false):spanN p l=n:=by
 induction l generalizing n with
 | nil=>simp at hn;subst hn;rfl
 | cons c l ih =>
  cases n with
  | zero =>
   rcases h2 with h | ⟨d,t,h,hd⟩
   ·cases h
   ·simp at h;unfold spanN;rw [h.1,hd];rfl
  | succ n =>
   unfold spanN
   rw [if_pos (h1 c (by simp)),ih n (by simpa using hn) (fun d hd=>h1 d (by simp [hd])) (by simpa using h2)]
def lineN (l:List UInt8):Nat:=spanN (fun c=>decide (c≠10)) l
def noteN:List UInt8→Option Nat
 | []=>none
 | c :: l=>if c=42∧l.head? = some 47 then some 0 else (noteN l).map (· + 1)
def gapS:List UInt8→Nat×Bool
 | []=>(0,true)
 | c :: r =>
  if c=35∨(c=47∧r.head? = some 47) then (lineN (c :: r),true)
  else if c=47∧r.head? = some 42 then (match noteN (r.drop 1) with | none=>(0,false) | some n=>(n+4,true))
  else (spanN isWhS (c :: r),true)
def skipF:Nat→List UInt8→Nat×Bool
 | 0,_=>(0,true)
 | f+1,l=>if (gapS l).1=0 then gapS l else ((gapS l).1+(skipF f (l.drop (gapS l).1)).1,(skipF f (l.drop (gapS l).1)).2)
def skipS (l:List UInt8):Nat×Bool:=skipF (l.length+1) l
theorem noteN_lt (l:List UInt8) (n:Nat) (h:noteN l=some n):n+2≤l.length:=by
 induction l generalizing n with
 | nil=>cases h
 | cons c l ih =>
  unfold noteN at h
  split at h
  ·rename_i hc
   cases l with
   | nil=>simp at hc
   | cons d l=>cases h;simp
  ·cases hl:noteN l with
   | none=>rw [hl] at h;cases h
   | some m=>rw [hl] at h;simp at h;have:=ih m hl;simp;omega
theorem gapS_le (l:List UInt8):(gapS l).1≤l.length∧((gapS l).1≠0→(gapS l).2=true):=by
 cases l with
 | nil=>exact ⟨Nat.le_refl _,fun _=>rfl⟩
 | cons c r =>
  unfold gapS
  dsimp only
  split
  ·exact ⟨spanN_le _ _,fun _=>rfl⟩
  ·split
   ·rename_i h1 h2
    cases hn:noteN (r.drop 1) with
    | none=>exact ⟨Nat.zero_le _,fun h=>absurd rfl h⟩
    | some n =>
     have:=noteN_lt _ _ hn
     refine ⟨?_,fun _=>rfl⟩
     simp at this ⊢
     omega
   ·exact ⟨spanN_le _ _,fun _=>rfl⟩
theorem skipF_more:∀ (f g:Nat) (l:List UInt8),l.length<f→l.length<g→skipF f l=skipF g l:=by
 intro f
 induction f with
 | zero=>intro g l h;omega
 | succ f ih =>
  intro g l hf hg
  cases g with
  | zero=>omega
  | succ g =>
   unfold skipF
   by_cases h0:(gapS l).1=0
   ·rw [if_pos h0,if_pos h0]
   ·have h1:=(gapS_le l).1
    rw [if_neg h0,if_neg h0,ih g (l.drop (gapS l).1) (by simp;omega) (by simp;omega)]
theorem skipS_step (l:List UInt8):skipS l=if (gapS l).1=0 then gapS l else ((gapS l).1+(skipS (l.drop (gapS l).1)).1,(skipS (l.drop (gapS l).1)).2):=by
 have hu:skipS l=if (gapS l).1=0 then gapS l else ((gapS l).1+(skipF l.length (l.drop (gapS l).1)).1,(skipF l.length (l.drop (gapS l).1)).2):=rfl
 rw [hu]
 by_cases h0:(gapS l).1=0
 ·rw [if_pos h0,if_pos h0]
 ·have h1:=(gapS_le l).1
  rw [if_neg h0,if_neg h0]
  unfold skipS
  rw [skipF_more l.length ((l.drop (gapS l).1).length+1) (l.drop (gapS l).1) (by simp;omega) (by omega)]
theorem skipS_le (l:List UInt8):(skipS l).1≤l.length:=by
 suffices h:∀ n (l:List UInt8),l.length≤n→(skipS l).1≤l.length from h _ l (Nat.le_refl _)
 intro n
 induction n with
 | zero=>intro l h;rw [skipS_step];have:=(gapS_le l).1;rw [if_pos (by omega)];exact this
 | succ n ih =>
  intro l h
  rw [skipS_step]
  have:=(gapS_le l).1
  by_cases h0:(gapS l).1=0
  ·rw [if_pos h0];exact this
  ·rw [if_neg h0]
   have:=ih (l.drop (gapS l).1) (by simp;omega)
   simp at this ⊢
   omega
def sgnN (l:List UInt8):Nat:=match l with
 | []=>0
 | c :: _=>if c.toNat=43∨c.toNat=45 then 1 else 0
def digN (l:List UInt8):Nat:=spanN isDig l
def fracN (l:List UInt8):Nat:=match l with
 | []=>0
 | c :: r=>if c.toNat=46∧digN r≠0 then digN r+1 else 0
def expN (l:List UInt8):Nat:=match l with
 | []=>0
 | c :: r=>if (c.toNat=101∨c.toNat=69)∧digN (r.drop (sgnN r))≠0 then 1+sgnN r+digN (r.drop (sgnN r)) else 0
def decN (l:List UInt8):Nat :=
 let n:=sgnN l
 let d:=digN (l.drop n)+fracN (l.drop (n+digN (l.drop n)))
 if d=0 then 0 else n+d+expN (l.drop (n+d))
def hexN (l:List UInt8):Nat:=match l with
 | c :: d :: r=>if c=48∧d=120∧spanN isHexS r≠0 then 2+spanN isHexS r else 0
 | _=>0
def wholeB (l:List UInt8):Bool:=decide (sgnN l+digN (l.drop (sgnN l))=l.length)
def natB (b:Nat) (l:List UInt8):Nat:=l.foldl (fun v c=>b * v+hexV c) 0
def negB (l:List UInt8):Bool:=match l with
 | []=>false
 | c :: _=>decide (c.toNat=45)
def wholeS (l:List UInt8):Int×Nat :=
 let ds:=l.drop (sgnN l)
 if 60<ds.length then (0,4)
 else if (if negB l then 9223372036854775808 else 9223372036854775807)<natB 10 ds then (0,5)
 else ((if negB l then -(natB 10 ds:Int) else (natB 10 ds:Int)),0)
def hexS (ds:List UInt8):Int×Nat :=
 if 16<ds.length then (0,4) else if 9223372036854775807<natB 16 ds then (0,5) else ((natB 16 ds:Int),0)
def tok0:TokV:=⟨0,[],0,0,0⟩
def numberS (l:List UInt8):Nat×TokV×Nat :=
 if hexN l≠0 then ((hexS ((l.take (hexN l)).drop 2)).2,⟨2,[],(hexS ((l.take (hexN l)).drop 2)).1,0,0⟩,hexN l)
 else if decN l=0 then (2,tok0,0)
 else if wholeB (l.take (decN l)) then ((wholeS (l.take (decN l))).2,⟨2,[],(wholeS (l.take (decN l))).1,0,0⟩,decN l)
 else ((parseS (l.take (decN l))).2,⟨3,[],0,(parseS (l.take (decN l))).1,0⟩,decN l)
def dotBad:List UInt8→Bool
 | []=>false
 | c :: r=>(decide (c.toNat=46) && (r.isEmpty || decide (r.head? = some 46))) || dotBad r
def nameS (l:List UInt8):Nat×TokV×Nat :=
 if 120<spanN isNmS l then (4,tok0,0)
 else if dotBad (l.take (spanN isNmS l)) then (2,tok0,0)
 else (0,⟨1,l.take (spanN isNmS l),0,0,0⟩,spanN isNmS l)
def quoteN (q:UInt8) (r:List UInt8):Nat:=spanN (fun c=>decide (c≠q)) r
def quotedS (q:UInt8) (r:List UInt8):Nat×TokV×Nat :=
 if quoteN q r=r.length∨lineN r<quoteN q r then (2,tok0,0)
 else (0,⟨4,r.take (quoteN q r),0,0,0⟩,quoteN q r+2)
def signsL:List UInt8:=[123,125,40,41,91,93,60,62,44,59,58,61,42]
def firstS:List UInt8→Nat×TokV×Nat
 | []=>(0,⟨6,[],0,0,0⟩,0)
 | c :: r =>
  if isLetS c || decide (c.toNat=95) then nameS (c :: r)
  else if isDig c || decide (c.toNat=43) || decide (c.toNat=45) || decide (c.toNat=46) then numberS (c :: r)
  else if c.toNat=34∨c.toNat=39 then quotedS c r
  else if signsL.contains c then (0,⟨5,[c],0,0,0⟩,1)
  else (2,tok0,0)
def numTok (t:TokV):Bool:=decide (t.k=2) || decide (t.k=3)
def goesS:List UInt8→Bool
 | []=>false
 | c :: _=>isNmS c
def wordS (l:List UInt8):Nat×Nat×TokV×Nat :=
 if (firstS l).1≠0 then ((firstS l).1,0,tok0,0)
 else if numTok (firstS l).2.1 && goesS (l.drop (firstS l).2.2) then (2,(firstS l).2.2,tok0,0)
 else (0,0,(firstS l).2.1,(firstS l).2.2)
def nextS (o:Nat) (l:List UInt8):Nat×Nat×TokV×Nat :=
 if (skipS l).2=false then (2,o+(skipS l).1,tok0,0)
 else if (wordS (l.drop (skipS l).1)).1≠0 then ((wordS (l.drop (skipS l).1)).1,o+(skipS l).1+(wordS (l.drop (skipS l).1)).2.1,tok0,0)
 else (0,0,{ (wordS (l.drop (skipS l).1)).2.2.1 with p:=o+(skipS l).1 },(skipS l).1+(wordS (l.drop (skipS l).1)).2.2.2)
def lexF:Nat→Nat→List UInt8→List TokV×Nat×Nat
 | 0,_,_=>([],0,0)
 | f+1,o,l =>
  if (nextS o l).1≠0 then ([],(nextS o l).1,(nextS o l).2.1)
  else if (nextS o l).2.2.1.k=6 then ([(nextS o l).2.2.1],0,0)
  else if (lexF f (o+(nextS o l).2.2.2) (l.drop (nextS o l).2.2.2)).2.1≠0 then lexF f (o+(nextS o l).2.2.2) (l.drop (nextS o l).2.2.2)
  else ((nextS o l).2.2.1 :: (lexF f (o+(nextS o l).2.2.2) (l.drop (nextS o l).2.2.2)).1,0,0)
def lexS (l:List UInt8):List TokV×Nat×Nat:=if 2000<l.length then ([],4,0) else lexF (l.length+1) 0 l
end Go.Proofs.YtpfecpcgdfbekaaGreatDoor
namespace Go.Proofs.YtpfecpcgdfbekaaGreatDoor
open Go.RowKit
theorem natB_snoc (b:Nat) (l:List UInt8) (c:UInt8):natB b (l++[c])=b * natB b l+hexV c:=by
 unfold natB;rw [List.foldl_append];rfl
theorem natB_take (b:Nat) (l:List UInt8) (n:Nat) (h:n<l.length):natB b (l.take (n+1))=b * natB b (l.take n)+hexV l[n]:=by
 rw [List.take_append_getElem h |>.symm,natB_snoc]
theorem natB_mono (b:Nat) (hb:1≤b) (l m:List UInt8):natB b l≤natB b (l++m):=by
 induction m generalizing l with
 | nil=>simp
 | cons c m ih =>
  have h1:=ih (l++[c])
  rw [natB_snoc,List.append_assoc] at h1
  have:natB b l≤b * natB b l:=Nat.le_mul_of_pos_left _ hb
  simp at h1 ⊢
  omega
end Go.Proofs.YtpfecpcgdfbekaaGreatDoor
namespace Go.Proofs.YtpfecpcgdfbekaaGreatDoor
open Go.RowKit
section rows
variable {α:Type} {f:α→Value} {e:TypeId} {w w':World} {B:Nat} {v:Value} {xs ys:List α}
def OwnG (f:α→Value) (w:World) (B:Nat) (v:Value) (xs:List α):Prop :=
 (v = .slice none 0 0∧xs=[]) ∨
 ∃ g off cap,v = .slice (some ⟨g,off,none⟩) xs.length cap∧B≤g∧g<w.heap.size∧xs.length≤cap∧cap≤maxLen ∧
  (∀ j,j<cap→(w.cell? ⟨g,off+j,none⟩).isSome=true∧w.frozen? ⟨g,off+j,none⟩=false) ∧
  ∀ j (h:j<xs.length),w.cell? ⟨g,off+j,none⟩=some (f xs[j])
theorem Own.gen (h:Own f e w B v xs):OwnG f w B v xs:=by
 have h':=h
 obtain ⟨h1,h2⟩:=h
 rcases h2 with ⟨rfl,h0⟩ | ⟨g,cap,cur,rfl,hg,hh,hn,hm,hs,ht⟩
 ·exact .inl ⟨rfl,List.eq_nil_of_length_eq_zero h0⟩
 ·have hlt:g<w.heap.size:=by
   rcases Nat.lt_or_ge g w.heap.size with h | h
   ·exact h
   ·rw [Array.getElem?_eq_none h] at hh;cases hh
  refine .inr ⟨g,0,cap,rfl,hg,hlt,hn,hm,fun j hj=>⟨?_,?_⟩,fun j hj=>?_⟩
  ·rw [Nat.zero_add,cell_of_row w g j cur e (0,0) hh]
   have:j<cur.size:=by omega
   simp [this]
  ·simp [World.frozen?,hh]
  ·have hj':(xs.map f)[j]? = some (f xs[j]):=by simp [hj]
   have hcj:cur[j]? = some (f xs[j]):=by
    rw [← ht,List.getElem?_take] at hj'
    split at hj'
    ·simpa using hj'
    ·cases hj'
   rw [Nat.zero_add,cell_of_row w g j cur e (0,0) hh]
   exact hcj
theorem OwnG.sl (h:OwnG f w B v xs):∃ A c,v = .slice A xs.length c∧xs.length≤c∧c≤maxLen∧Rd f w A xs:=by
 rcases h with ⟨rfl,rfl⟩ | ⟨g,off,cap,rfl,hB,hg,hn,hm,hs,hc⟩
 ·exact ⟨none,0,rfl,Nat.le_refl _,Nat.zero_le _,Rd.nil⟩
 ·exact ⟨_,cap,rfl,hn,hm,fun _=>⟨g,off,rfl,hg,hc⟩⟩
theorem OwnG.below (h:OwnG f w B v xs) (hb:Below w.heap.size w w'):OwnG f w' B v xs:=by
 rcases h with h | ⟨g,off,cap,rfl,hB,hg,hn,hm,hs,hc⟩
 ·exact .inl h
 ·refine .inr ⟨g,off,cap,rfl,hB,Nat.lt_of_lt_of_le hg hb.size,hn,hm,fun j hj=>?_,fun j hj=>?_⟩
  ·rw [hb.cell (p:=⟨g,off+j,none⟩) hg,hb.frozen (p:=⟨g,off+j,none⟩) hg];exact hs j hj
  ·rw [hb.cell (p:=⟨g,off+j,none⟩) hg];exact hc j hj
theorem OwnG.less {B':Nat} (h:OwnG f w B v xs) (hB:B'≤B):OwnG f w B' v xs:=by
 rcases h with h | ⟨g,off,cap,hv,hB',r⟩
 ·exact .inl h
 ·exact .inr ⟨g,off,cap,hv,Nat.le_trans hB hB',r⟩
theorem OwnG.name (h:OwnG f w B v xs) (n:Nat) (hn:xs.length=n):∃ A c ys,v = .slice A ys.length c∧Hid (ys=xs)∧ys.length≤n∧n≤ys.length∧ys.length≤c∧c≤maxLen∧Rd f w A ys∧OwnG f w B (.slice A ys.length c) ys:=by
 obtain ⟨A,c,rfl,h1,h2,h3⟩:=h.sl
 exact ⟨A,c,xs,rfl,rfl,by omega,by omega,h1,h2,h3,h⟩
theorem OwnG.drew (h:OwnG f w B v xs):OwnG f w.drew B v xs:=h
theorem OwnG.cut {A:Option Addr} {c:Nat} (h:OwnG f w B (.slice A xs.length c) xs) {l h':Nat} (hl:l≤h') (hh:h'≤xs.length) :
  ∃ A' c',Go.sliced A l h' c 1 = .slice A' ((xs.take h').drop l).length c'∧OwnG f w B (.slice A' ((xs.take h').drop l).length c') ((xs.take h').drop l):=by
 have e0:((xs.take h').drop l).length=h' - l:=by simp [List.length_drop,List.length_take];omega
 rcases h with ⟨h1,rfl⟩ | ⟨g,off,cap,h1,hB,hg,hn,hm,hs,hc⟩
 ·cases h1
  obtain rfl:h'=0:=by simpa using hh
  obtain rfl:l=0:=by omega
  exact ⟨none,0,by simp [Go.sliced],.inl ⟨rfl,rfl⟩⟩
 ·cases h1
  by_cases hcl:c=l
  ·have hz:(xs.take h').drop l=[]:=by
    apply List.eq_nil_of_length_eq_zero;omega
   refine ⟨some ⟨g,off,none⟩,0,by simp [Go.sliced,e0,hcl],.inr ⟨g,off,0,by simp,hB,hg,by simp [hz],by simp [maxLen],fun j hj=>by omega,fun j hj=>by simp [hz] at hj⟩⟩
  ·refine ⟨some ⟨g,off+l,none⟩,c - l,?_,.inr ⟨g,off+l,c - l,rfl,hB,hg,by omega,by omega,fun j hj=>?_,fun j hj=>?_⟩⟩
   ·simp [Go.sliced,e0,hcl,Addr.add]
   ·rw [Nat.add_assoc];exact hs (l+j) (by omega)
   ·rw [List.getElem_drop,List.getElem_take,Nat.add_assoc]
    exact hc (l+j) (by omega)
theorem OwnG.set_ {g off cap:Nat} {i:Nat} {y:α} (h:OwnG f w B (.slice (some ⟨g,off,none⟩) xs.length cap) xs) (hi:i<xs.length) :
  OwnG f (w.setCell ⟨g,off+i,none⟩ (f y)) B (.slice (some ⟨g,off,none⟩) (xs.set i y).length cap) (xs.set i y):=by
 rcases h with ⟨h1,_⟩ | ⟨g',off',cap',h1,hB,hg,hn,hm,hs,hc⟩
 ·cases h1
 ·cases h1
  refine .inr ⟨g,off,cap,rfl,hB,by simpa [World.setCell] using hg,by simpa using hn,hm,fun j hj=>⟨?_,?_⟩,fun j hj=>?_⟩
  ·by_cases hij:j=i
   ·subst hij
    obtain ⟨u,hu⟩:=Option.isSome_iff_exists.1 (hs j hj).1
    rw [World.cell?_setCell_same w _ _ hu];rfl
   ·rw [World.cell?_setCell_other _ _ _ _ (by simp only [ne_eq,Addr.mk.injEq];omega)];exact (hs j hj).1
  ·rw [World.frozen?_setCell];exact (hs j hj).2
  ·rw [List.length_set] at hj
   by_cases hij:j=i
   ·subst hij
    rw [World.cell?_setCell_same w _ _ (hc j hi)]
    simp
   ·rw [World.cell?_setCell_other _ _ _ _ (by simp only [ne_eq,Addr.mk.injEq];omega),hc j hj]
    rw [List.getElem_set_ne (by omega)]
end rows
section laws
variable {α:Type} {f:α→Value} {P:Program} (w:World) {ops:Array Oper} {rest:List Oper} {o:Oper} {a:Act} {Q:Exit→Act→World→Prop}
end laws
end Go.Proofs.YtpfecpcgdfbekaaGreatDoor
namespace Go.Proofs.YtpfecpcgdfbekaaGreatDoor
open Go.RowKit
def Nx (w w':World):Prop:=Below w.heap.size w w'
theorem Nx.refl (w:World):Nx w w:=Below.refl _ _
theorem Nx.trans {a b c:World} (h:Nx a b) (k:Nx b c):Nx a c:=nx h k
theorem Nx.drawn (w:World):Nx w { w with drawn:=w.drawn+1 }:=⟨rfl,rfl,rfl,Nat.le_refl _,fun _ _=>rfl⟩
theorem Nx.drewN (w:World) (n:Nat):Nx w (w.drewN n):=⟨rfl,rfl,rfl,Nat.le_refl _,fun _ _=>rfl⟩
abbrev Gr (w:World):={ w':World // Nx w w' }
instance grNonempty (w:World):Nonempty (Gr w):=⟨⟨w,Nx.refl w⟩⟩
section
variable {P:Program} {ops:Array Oper} {md:Region.Mode}
def calm (P:Program) (o:Oper) (a:Act) (w:World) (next:Act→Prop):Prop :=
 ∃ v,(∀ x:Gr w,o.quietAt P a (fun w''=>w''=x.1) x.1 v)∧next (a.put o.dst v)
def gOp (P:Program) (ops:Array Oper) (i:Nat) (K:Act→World→Prop) (a:Act) (w:World):Prop :=
 match ops[i]? with
 | none=>K a w
 | some o=>if Region.wanted o (yielded ops a.tmps) then o.wp P a w K (fun _ _ _=>False) else K (a.put o.dst undef) w
def GA (P:Program) (md:Region.Mode) (ops:Array Oper) (Q:Act→World→Prop):Nat→Array Bool→Act→World→Prop
 | 0,listed,a,w=>Region.ready md ops listed=[]∧∀ w1,Nx w w1→Q a w1
 | f+1,listed,a,w=>∀ w1,Nx w w1→(Region.ready md ops listed=[]→Q a w1) ∧
   ∀ i ∈ Region.ready md ops listed,gOp P ops i (fun a' w'=>Nx w1 w'∧GA P md ops Q f (listed.setIfInBounds i true) a' w') a w1
theorem GA.grow {Q:Act→World→Prop} {f:Nat} {listed:Array Bool} {a:Act} {w w1:World} (h:GA P md ops Q f listed a w) (hn:Nx w w1):GA P md ops Q f listed a w1:=by
 cases f with
 | zero=>exact ⟨h.1,fun w2 h2=>h.2 w2 (hn.trans h2)⟩
 | succ f=>exact fun w2 h2=>h w2 (hn.trans h2)
theorem wp_mono_both {o:Oper} {a:Act} {w:World} {K K':Act→World→Prop} {Q:Exit→Act→World→Prop} (h:∀ a w,K a w→K' a w) (hh:o.wp P a w K (fun _ _ _=>False)) (hl:True):o.wp P a w K' Q:=by
 unfold Oper.wp at *
 generalize (execOp a.eval o).run P w=r at *
 cases r with
 | ok n w' =>
  cases n <;> simp only [Oper.upon] at hh ⊢
  case value v=>exact h _ _ hh
  case skip=>exact h _ _ hh
  case defer d=>exact h _ _ hh
  case enter f args =>
   refine hh.mono fun e w'' he=>?_
   cases e with
   | returned v=>exact h _ _ he
   | panicked c=>exact he.elim
   | outgrown=>exact absurd he (by simp [LetsOut])
  case row r args=>exact hh.mono fun v w'' he=>h _ _ he
 | halt x w'=>cases x <;> simp only [Oper.upon] at hh
theorem wpAny_of_GA {Q:Act→World→Prop} {Q':Exit→Act→World→Prop} (hQ:∀ a w,Q a w→Q' .normal a w):∀ (f:Nat) (listed:Array Bool) (a:Act) (w:World),
  GA P md ops Q f listed a w→wpAny P md ops Q' f listed a w
 | 0,_,_,w,h=>⟨h.1,hQ _ _ (h.2 w (Nx.refl w))⟩
 | f+1,listed,a,w,h=>by
  refine ⟨fun h0=>hQ _ _ ((h w (Nx.refl w)).1 h0),fun i hi=>?_⟩
  have:=(h w (Nx.refl w)).2 i hi
  unfold gOp at this
  unfold wpOp
  split
  ·rename_i ho;simp only [ho] at this;exact wpAny_of_GA hQ f _ _ _ this.2
  ·rename_i o ho
   simp only [ho] at this
   split
   ·rename_i hw;simp only [hw,if_true] at this;exact .inl (wp_mono_both (fun a' w' h'=>wpAny_of_GA hQ f _ _ _ h'.2) this trivial)
   ·rename_i hw;simp only [hw] at this;exact wpAny_of_GA hQ f _ _ _ this.2
def YG (P:Program) (ops:Array Oper) (w:World) (o:Oper) (v:Value) (a:Act):Prop :=
 (Region.wanted o (yielded ops a.tmps)=true∧∀ x:Gr w,o.quietAt P a (fun w''=>w''=x.1) x.1 v) ∨
 (Region.wanted o (yielded ops a.tmps)=false∧v=undef)
theorem YG.grow {w w1:World} {o:Oper} {v:Value} {a:Act} (h:YG P ops w o v a) (hn:Nx w w1):YG P ops w1 o v a:=by
 rcases h with ⟨h1,h2⟩ | h
 ·exact .inl ⟨h1,fun x=>h2 ⟨x.1,hn.trans x.2⟩⟩
 ·exact .inr h
theorem YG.gOp {i:Nat} {w:World} {o:Oper} {v:Value} {a:Act} (hi:ops[i]? = some o) (hy:YG P ops w o v a) {K:Act→World→Prop} (h:K (a.put o.dst v) w):gOp P ops i K a w:=by
 unfold Go.Proofs.YtpfecpcgdfbekaaGreatDoor.gOp
 simp only [hi]
 rcases hy with ⟨hw,hv⟩ | ⟨hw,rfl⟩
 ·simp only [hw,if_true]
  have h3:=hv ⟨w,Nx.refl w⟩
  unfold Oper.quietAt at h3
  unfold Oper.wp
  generalize (execOp a.eval o).run P w=r at *
  cases r with
  | ok n w' =>
   cases n <;> simp only [Oper.quietUpon] at h3 <;> simp only [Oper.upon]
   case value u=>obtain ⟨e1,e2⟩:=h3;rw [e1,e2];exact h
   case skip=>obtain ⟨e1,e2⟩:=h3;rw [e1,← e2];exact h
   case enter f args =>
    obtain ⟨e1,hc⟩:=h3
    rw [e1]
    exact hc.mono fun e w'' ⟨he,hw''⟩=>by subst he;rw [hw''];exact h
  | halt x w'=>simp only [Oper.quietUpon] at h3
 ·simp only [hw,Bool.false_eq_true,if_false];exact h
theorem YG.of_same {w:World} {o:Oper} {v:Value} {a a':Act} (hy:YG P ops w o v a) (he:execOp a'.eval o=execOp a.eval o)
  (hw:Region.wanted o (yielded ops a'.tmps)=Region.wanted o (yielded ops a.tmps)):YG P ops w o v a':=by
 unfold YG Oper.quietAt at *
 rw [he,hw]
 exact hy
theorem defers_put (a:Act) (ds:List Deferred) (x:Option Tmp) (v:Value):({ a with defers:=ds }:Act).put x v = { a.put x v with defers:=ds }:=by cases x <;> rfl
theorem gOp_put {j:Nat} {w:World} {oi oj:Oper} {v:Value} (hj:ops[j]? = some oj) (hap:oi.apart ops oj=true)
  (hsi:∀ cs b,oi.op≠.select cs b) (hsj:∀ cs b,oj.op≠.select cs b) {K:Act→World→Prop} {a:Act}
  (hy:YG P ops w oi v a) (h:gOp P ops j K (a.put oi.dst v) w) :
  gOp P ops j (fun a' w'=>YG P ops w oi v a'∧K (a'.put oi.dst v) w') a w:=by
 obtain ⟨h1,h2,h3⟩:=Oper.apart_spec hap
 have keep:∀ u,YG P ops w oi v (a.put oj.dst u):=fun u =>
  hy.of_same (execOp_put oi hsi a oj.dst u h3) (wanted_put oi a oj.dst u h3)
 have pc:∀ u,(a.put oi.dst v).put oj.dst u=(a.put oj.dst u).put oi.dst v:=fun u=>Act.put_comm a v u h2
 unfold Go.Proofs.YtpfecpcgdfbekaaGreatDoor.gOp at *
 simp only [hj] at *
 rw [wanted_put oj a oi.dst v h1] at h
 split
 ·rename_i hw
  simp only [hw,if_true] at h
  unfold Oper.wp at *
  rw [execOp_put oj hsj a oi.dst v h1] at h
  generalize (execOp a.eval oj).run P w=r at *
  cases r with
  | ok n w' =>
   cases n <;> simp only [Oper.upon] at h ⊢
   case value u=>exact ⟨keep u,by rw [← pc];exact h⟩
   case skip=>exact ⟨keep _,by rw [← pc];exact h⟩
   case defer d =>
    have hd:(a.put oi.dst v).defers=a.defers:=by cases oi.dst <;> rfl
    rw [hd,defers_put,pc] at h
    rw [defers_put]
    refine ⟨(keep undef).of_same rfl rfl,?_⟩
    rw [defers_put]
    exact h
   case enter f args =>
    refine h.mono fun e w'' he=>?_
    cases e with
    | returned u=>exact ⟨keep u,by rw [← pc];exact he⟩
    | panicked c=>exact he.elim
    | outgrown=>exact absurd he (by simp [LetsOut])
   case row r args=>exact h.mono fun u w'' he=>⟨keep u,by rw [← pc];exact he⟩
  | halt x w'=>cases x <;> simp only [Oper.upon] at h
 ·rename_i hw
  simp only [hw] at h
  exact ⟨keep _,by rw [← pc];exact h⟩
theorem gOp_mono {i:Nat} {a:Act} {w:World} {K K':Act→World→Prop} (h:∀ a w,K a w→K' a w) (hh:gOp P ops i K a w):gOp P ops i K' a w:=by
 unfold Go.Proofs.YtpfecpcgdfbekaaGreatDoor.gOp at *
 split
 ·exact h _ _ (by simpa [*] using hh)
 ·rename_i o ho
  simp only [ho] at hh
  split
  ·rename_i hw;simp only [hw,if_true] at hh;exact wp_mono_both h hh trivial
  ·rename_i hw;simp only [hw] at hh;exact h _ _ hh
theorem GA_first {Q:Act→World→Prop} {i:Nat} {oi:Oper} {v:Value} (hi:ops[i]? = some oi) (hsel:∀ (j:Nat) (o:Oper) cs b,ops[j]? = some o→o.op≠.select cs b) :
  ∀ (f:Nat) (listed:Array Bool) (a:Act) (w:World),
   (∀ j oj,ops[j]? = some oj→j≠i→listed.getD j true=false→(∀ e ∈ oj.after,Region.binds md e=true→e.on≠i)→oi.apart ops oj=true) →
   i ∈ Region.ready md ops listed→YG P ops w oi v a →
   GA P md ops Q f (listed.setIfInBounds i true) (a.put oi.dst v) w→GA P md ops Q (f+1) listed a w:=by
 intro f
 induction f with
 | zero =>
  intro listed a w _ hr hy H w1 hn
  refine ⟨fun h=>(by rw [h] at hr;cases hr),fun j hj=>?_⟩
  by_cases hji:j=i
  ·subst hji;exact (hy.grow hn).gOp hi ⟨Nx.refl _,H.grow hn⟩
  ·have:=ready_mono hj hji
   rw [H.1] at this
   cases this
 | succ f ih =>
  intro listed a w hfree hr hy H w1 hn
  refine ⟨fun h=>(by rw [h] at hr;cases hr),fun j hj=>?_⟩
  by_cases hji:j=i
  ·subst hji;exact (hy.grow hn).gOp hi ⟨Nx.refl _,H.grow hn⟩
  ·have h1:=(H w1 hn).2 j (ready_mono hj hji)
   obtain ⟨hjun,oj,hoj,hall⟩:=mem_ready.1 hj
   have hnot:∀ e ∈ oj.after,Region.binds md e=true→e.on≠i:=fun e he hb heq=>by
    have h1:=hall e he hb
    have h0:=(mem_ready.1 hr).1
    rw [heq] at h1
    rcases Nat.lt_or_ge i listed.size with h' | h'
    ·simp [h'] at h0 h1;rw [h0] at h1;cases h1
    ·simp [Array.getElem?_eq_none h'] at h1
   have h2:=gOp_put hoj (hfree j oj hoj hji hjun hnot) (fun cs b=>hsel i oi cs b hi) (fun cs b=>hsel j oj cs b hoj) (hy.grow hn) h1
   have hfree':∀ k ok,ops[k]? = some ok→k≠i→(listed.setIfInBounds j true).getD k true=false →
     (∀ e ∈ ok.after,Region.binds md e=true→e.on≠i)→oi.apart ops ok=true:=fun k ok hk hki hun hno=>by
    refine hfree k ok hk hki ?_ hno
    by_cases hjk:j=k
    ·subst hjk;exact hjun
    ·rw [getD_set_ne true hjk] at hun;exact hun
   refine gOp_mono (fun a' w' h3=>⟨h3.2.1,ih (listed.setIfInBounds j true) a' w' hfree' (ready_mono hr (Ne.symm hji)) (h3.1.grow h3.2.1) ?_⟩) h2
   rw [Array.setIfInBounds_comm _ _ hji]
   exact h3.2.2
def wpHyb (P:Program) (ops:Array Oper) (Q:Act→World→Prop):List (Nat×Bool)→Act→World→Prop
 | [],a,w=>∀ w1,Nx w w1→Q a w1
 | (k,true) :: rest,a,w=>match ops[k]? with
  | none=>False
  | some o=>if Region.wanted o (yielded ops a.tmps) then calm P o a w (fun a'=>wpHyb P ops Q rest a' w) else wpHyb P ops Q rest (a.put o.dst undef) w
 | (k,false) :: rest,a,w=>∀ w1,Nx w w1→match ops[k]? with
  | none=>False
  | some o=>if Region.wanted o (yielded ops a.tmps) then o.wp P a w1 (fun a' w'=>Nx w1 w'∧wpHyb P ops Q rest a' w') (fun _ _ _=>False) else wpHyb P ops Q rest (a.put o.dst undef) w1
def hybFrom (md:Region.Mode) (ops:Array Oper):List (Nat×Bool)→Array Bool→Bool
 | [],listed=>(Region.ready md ops listed).isEmpty
 | (k,true) :: rest,listed=>(Region.ready md ops listed).contains k && Region.free md ops listed k && hybFrom md ops rest (listed.setIfInBounds k true)
 | (k,false) :: rest,listed=>Region.ready md ops listed == [k] && hybFrom md ops rest (listed.setIfInBounds k true)
def hybB (md:Region.Mode) (ops:Array Oper) (s:List (Nat×Bool)):Bool:=Region.noSelect ops && s.length == ops.size && hybFrom md ops s (Array.replicate ops.size false)
theorem GA_hyb {Q:Act→World→Prop} (hs:Region.noSelect ops=true):∀ (s:List (Nat×Bool)) (listed:Array Bool) (a:Act) (w:World),
  hybFrom md ops s listed=true→wpHyb P ops Q s a w→GA P md ops Q s.length listed a w
 | [],listed,a,w,hB,h=>⟨by simpa [hybFrom] using hB,h⟩
 | (k,true) :: rest,listed,a,w,hB,h=>by
  simp only [hybFrom,Bool.and_eq_true] at hB
  obtain ⟨⟨hr,hf⟩,hB'⟩:=hB
  have hr':k ∈ Region.ready md ops listed:=by simpa using hr
  obtain ⟨_,o,ho,_⟩:=mem_ready.1 hr'
  simp only [wpHyb,ho] at h
  by_cases hw:Region.wanted o (yielded ops a.tmps)=true
  ·simp only [hw,if_true] at h
   obtain ⟨v,h1,h2⟩:=h
   exact GA_first ho (Region.noSelect_spec hs) rest.length listed a w (Region.free_spec ho hf) hr' (.inl ⟨hw,h1⟩) (GA_hyb hs rest _ _ _ hB' h2)
  ·simp only [hw] at h
   exact GA_first ho (Region.noSelect_spec hs) rest.length listed a w (Region.free_spec ho hf) hr' (.inr ⟨by simpa using hw,rfl⟩) (GA_hyb hs rest _ _ _ hB' h)
 | (k,false) :: rest,listed,a,w,hB,h=>by
  simp only [hybFrom,Bool.and_eq_true,beq_iff_eq] at hB
  obtain ⟨hr,hB'⟩:=hB
  intro w1 hn
  refine ⟨fun h0=>(by rw [hr] at h0;cases h0),fun i hi=>?_⟩
  rw [hr] at hi
  obtain rfl:i=k:=by simpa using hi
  have h:=h w1 hn
  unfold gOp
  cases ho:ops[i]? with
  | none=>rw [ho] at h;exact h.elim
  | some o =>
   rw [ho] at h
   simp only at h ⊢
   by_cases hw:Region.wanted o (yielded ops a.tmps)=true
   ·simp only [hw,if_true] at h ⊢
    exact wp_mono_both (fun a' w' h'=>⟨h'.1,GA_hyb hs rest _ _ _ hB' h'.2⟩) h trivial
   ·simp only [hw] at h ⊢
    exact ⟨Nx.refl _,GA_hyb hs rest _ _ _ hB' h⟩
structure Hyb (P:Program) (ops:Array Oper) (Q:Act→World→Prop) (s:List (Nat×Bool)) (a:Act) (w:World):Prop where
 out:wpHyb P ops Q s a w
theorem wp_region_hyb {id:Nat} {Q:Exit→Act→World→Prop} {a:Act} {w:World} {l:List Oper} (s:List (Nat×Bool)) (hm:P.follows .mixedOrders=true) (hB:hybB .any l.toArray s=true)
  (h:Hyb P l.toArray (fun a w=>Q .normal a w) s a w):(Code.region id l.toArray true).wp P Q a w:=by
 simp only [hybB,Bool.and_eq_true,beq_iff_eq] at hB
 obtain ⟨⟨h1,h2⟩,h3⟩:=hB
 refine wp_region_any hm (wpAny_of_GA (Q:=fun a w=>Q .normal a w) (fun _ _ h=>h) _ _ _ _ ?_)
 have:=GA_hyb (md:=.any) h1 s _ _ _ h3 h.out
 rw [h2] at this
 exact this.grow (Nx.drawn w)
theorem hyb_calm {Q:Act→World→Prop} {k:Nat} {o:Oper} {rest:List (Nat×Bool)} {a:Act} {w:World} (ho:ops[k]? = some o)
  (h:∀ K:Act→Prop,(∀ a,Hyb P ops Q rest a w→K a)→if Region.wanted o (yielded ops a.tmps) then calm P o a w K else K (a.put o.dst undef)):Hyb P ops Q ((k,true) :: rest) a w:=by
 refine ⟨?_⟩
 simp only [wpHyb,ho]
 exact h _ (fun _ h=>h.out)
theorem hyb_alone {Q:Act→World→Prop} {k:Nat} {o:Oper} {rest:List (Nat×Bool)} {a:Act} {w:World} (ho:ops[k]? = some o)
  (h:∀ w1,Nx w w1→∀ K:Act→World→Prop,(∀ a' w',Nx w1 w'→Hyb P ops Q rest a' w'→K a' w')→if Region.wanted o (yielded ops a.tmps) then o.wp P a w1 K (fun _ _ _=>False) else K (a.put o.dst undef) w1):Hyb P ops Q ((k,false) :: rest) a w:=by
 refine ⟨?_⟩
 intro w1 hn
 simp only [ho]
 have:=h w1 hn (fun a' w'=>Nx w1 w'∧wpHyb P ops Q rest a' w') (fun a' w' h1 h2=>⟨h1,h2.out⟩)
 split
 ·rename_i hw;simpa [hw] using this
 ·rename_i hw;simp [hw] at this;exact this.2
theorem hyb_nil {Q:Act→World→Prop} {a:Act} {w:World} (h:∀ w1,Nx w w1→Q a w1):Hyb P ops Q [] a w:=⟨h⟩
end
attribute [go_sem] calm
end Go.Proofs.YtpfecpcgdfbekaaGreatDoor
namespace Go.Proofs.YtpfecpcgdfbekaaGreatDoor
open Go.RowKit
def Blk (w:World) (B g:Nat) (cs:Array Value) (T:TypeId):Prop:=B≤g∧w.heap[g]? = some (.cells cs T (0,0))
theorem Blk.lt {w:World} {B g:Nat} {cs:Array Value} {T:TypeId} (h:Blk w B g cs T):g<w.heap.size:=by
 rcases Nat.lt_or_ge g w.heap.size with h1 | h1
 ·exact h1
 ·have:=h.2;rw [Array.getElem?_eq_none h1] at this;cases this
theorem Blk.new (w:World) (cs:Array Value) (T:TypeId):Blk (w.alloc (.cells cs T)) w.heap.size w.heap.size cs T:=⟨Nat.le_refl _,heap_alloc_new w _⟩
theorem Blk.less {w:World} {B B' g:Nat} {cs:Array Value} {T:TypeId} (h:Blk w B g cs T) (hB:B'≤B):Blk w B' g cs T:=⟨Nat.le_trans hB h.1,h.2⟩
theorem Blk.below {w w':World} {B g:Nat} {cs:Array Value} {T:TypeId} (h:Blk w B g cs T) (hb:Below w.heap.size w w'):Blk w' B g cs T:=⟨h.1,by rw [hb.block g h.lt];exact h.2⟩
theorem Blk.alloc {w:World} {B g:Nat} {cs:Array Value} {T:TypeId} (h:Blk w B g cs T) (o:Obj):Blk (w.alloc o) B g cs T:=h.below (nx0 w o)
theorem Blk.cell {w:World} {B g:Nat} {cs:Array Value} {T:TypeId} (h:Blk w B g cs T) (i:Nat):w.cell? ⟨g,i,none⟩=cs[i]?:=by
 unfold World.cell?;rw [h.2];rfl
theorem Blk.free {w:World} {B g:Nat} {cs:Array Value} {T:TypeId} (h:Blk w B g cs T) (i:Nat):w.frozen? ⟨g,i,none⟩=false:=by
 unfold World.frozen?;rw [h.2];simp
theorem Blk.put {w:World} {B g:Nat} {cs:Array Value} {T:TypeId} (h:Blk w B g cs T) (i:Nat) (v:Value):Blk (w.setCell ⟨g,i,none⟩ v) B g (cs.setIfInBounds i v) T:=by
 refine ⟨h.1,?_⟩
 have hl:=h.lt
 have h2:=h.2
 rw [Array.getElem?_eq_getElem hl] at h2
 simp only [World.setCell]
 rw [Array.getElem?_modify,if_pos rfl,Array.getElem?_eq_getElem hl,Option.some.inj h2]
 rfl
theorem Blk.other {w:World} {B g k:Nat} {cs:Array Value} {T:TypeId} (h:Blk w B g cs T) (hk:k≠g) (i:Nat) (v:Value):Blk (w.setCell ⟨k,i,none⟩ v) B g cs T:=by
 refine ⟨h.1,?_⟩
 simp only [World.setCell]
 rw [Array.getElem?_modify,if_neg hk];exact h.2
theorem Blk.drew {w:World} {B g:Nat} {cs:Array Value} {T:TypeId} (h:Blk w B g cs T) (n:Nat):Blk (w.drewN n) B g cs T:=h
theorem Nx.put {w w':World} {B g:Nat} {cs:Array Value} {T:TypeId} (h:Nx w w') (hk:Blk w' w.heap.size g cs T) (i:Nat) (v:Value):Nx w (w'.setCell ⟨g,i,none⟩ v):=Below.setCell h hk.1 v
theorem Nx.put' {w w':World} {g:Nat} (h:Nx w w') (hk:w.heap.size≤g) (i:Nat) (v:Value):Nx w (w'.setCell ⟨g,i,none⟩ v):=Below.setCell h hk v
theorem Nx.dr {w w':World} (h:Nx w w') (n:Nat):Nx w (w'.drewN n):=⟨h.os,h.tape,h.output,h.size,h.block⟩
theorem Nx.al {w w':World} (h:Nx w w') (o:Obj):Nx w (w'.alloc o):=nxa h o
end Go.Proofs.YtpfecpcgdfbekaaGreatDoor
