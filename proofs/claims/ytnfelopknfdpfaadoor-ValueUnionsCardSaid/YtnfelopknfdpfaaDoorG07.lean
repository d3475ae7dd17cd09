/- The nearest binary64 to a fraction, as one number: which level, which nearest integer, that it rises, that it does not change where fraction and divisor are multiplied alike. Plain lemmas. Which texts are numbers, and which binary64 is nearest: as a function of the text's bytes. The words of a text: as a function of its bytes. The text of types: as a tree, and as a function of its bytes. Plain lemmas. Names as parts between full stops. Plain lemmas. The library's variable. Plain lemmas. The contracts of kind's small functions (what is plain of it). The contracts of kind's small functions. A region that draws its order: an invariant that knows what has been carried out. Plain lemmas over any program. The signs of types: a map that the call makes, in any order (what is plain of it). The signs of types: a map that the call makes, in any order. Rows of structs that the call owns last where one block alone changed. What lies where a cursor's block and a list's own one alone changed. Plain lemmas. A cursor over the text of a type: its cells, its names, what a call leaves of the world. Plain lemmas (what is plain of it). A cursor over the text of a type: its cells, its names, what a call leaves of the world. Plain lemmas. The contracts of the cursor's word and sign (what is plain of it). -/
import Derived.Test.YtnfelopknfdpfaaDoorG00
import Derived.Lib.IndexMore
import Derived.Test.YtnfelopknfdpfaaDoorProg
import Derived.Lib.SmallJoins
import Derived.Laws.Rows
import Derived.Laws.ResultCell
import Derived.IntWalk
import Derived.Test.YtnfelopknfdpfaaDoorShelf
import Derived.Test.YtnfelopknfdpfaaDoorG04
import Derived.DeepKeys4
import Derived.Maps.Keyed
import Derived.Maps.Own
set_option linter.unusedVariables false
set_option linter.unusedSimpArgs false
set_option linter.unnecessarySimpa false
namespace Go.Proofs.YtnfelopknfdpfaaDoor
open Go.RowKit
end Go.Proofs.YtnfelopknfdpfaaDoor
namespace Go.Proofs.YtnfelopknfdpfaaDoor
open Go.RowKit
def isDig (c:UInt8):Bool:=decide (48≤c.toNat) && decide (c.toNat≤57)
end Go.Proofs.YtnfelopknfdpfaaDoor
namespace Go.Proofs.YtnfelopknfdpfaaDoor
open Go.RowKit
structure TokV where
 k:Nat
 t:List UInt8
 n:Int
 d:Nat
 p:Nat
def isLetS (c:UInt8):Bool:=(decide (97≤c.toNat) && decide (c.toNat≤122)) || (decide (65≤c.toNat) && decide (c.toNat≤90))
def isNmS (c:UInt8):Bool:=isLetS c || isDig c || decide (c.toNat=95) || decide (c.toNat=46)
def spanN (p:UInt8→Bool):List UInt8→Nat
 | []=>0
 | c :: l=>if p c then spanN p l+1 else 0
theorem spanN_le (p:UInt8→Bool) (l:List UInt8):spanN p l≤l.length:=by
 induction l with
 | nil=>simp [spanN]
 | cons c l ih=>unfold spanN;split <;> simp <;> omega
theorem spanN_take (p:UInt8→Bool) (l:List UInt8):∀ c ∈ l.take (spanN p l),p c=true:=by
 induction l with
 | nil=>intro c h;simp at h
 | cons c l ih =>
  unfold spanN
  by_cases h:p c=true
  ·rw [if_pos h,List.take_succ_cons]
   intro d hd
   rcases List.mem_cons.1 hd with rfl | hd
   ·exact h
   ·exact ih d hd
  ·rw [if_neg h];intro d hd;simp at hd
end Go.Proofs.YtnfelopknfdpfaaDoor
namespace Go.Proofs.YtnfelopknfdpfaaDoor
def wordK (k:Nat):List UInt8 :=
 if k=2 then [98,111,111,108] else if k=3 then [105,56] else if k=4 then [100,111,117,98,108,101]
 else if k=6 then [105,49,54] else if k=8 then [105,51,50] else if k=10 then [105,54,52]
 else if k=11 then [115,116,114,105,110,103] else if k=13 then [109,97,112] else if k=14 then [115,101,116]
 else if k=15 then [108,105,115,116] else if k=16 then [98,105,110,97,114,121] else []
def kindW (l:List UInt8):Nat :=
 if l=[98,111,111,108] then 2 else if l=[105,56] then 3 else if l=[100,111,117,98,108,101] then 4
 else if l=[105,49,54] then 6 else if l=[105,51,50] then 8 else if l=[105,54,52] then 10
 else if l=[115,116,114,105,110,103] then 11 else if l=[109,97,112] then 13 else if l=[115,101,116] then 14
 else if l=[108,105,115,116] then 15 else if l=[98,105,110,97,114,121] then 16 else 0
def isKw (k:Nat):Prop:=k=2∨k=3∨k=4∨k=6∨k=8∨k=10∨k=11∨k=13∨k=14∨k=15∨k=16
def isBs (k:Nat):Prop:=k=2∨k=3∨k=4∨k=6∨k=8∨k=10∨k=11∨k=16
theorem kindW_is (l:List UInt8):kindW l=0∨(isKw (kindW l)∧l=wordK (kindW l)):=by
 unfold kindW
 repeat' split
 all_goals (first | exact .inl rfl | (subst l;exact .inr ⟨by simp [isKw],by simp [wordK]⟩))
def farF:Bool→List UInt8→Bool
 | b,[]=>!b
 | true,c :: r=>(!isDig c && decide (c≠46)) && farF false r
 | false,c :: r=>farF (decide (c=46)) r
def partN (l:List UInt8):Nat:=spanN (fun c=>decide (c≠46)) l
def nameOk (l:List UInt8):Bool:=farF true l && decide (kindW (l.take (partN l))=0)
inductive Ty where
 | nm (s:List UInt8)
 | bs (k:Nat)
 | l1 (k:Nat) (a:Ty)
 | mp (a b:Ty)
def showT:Ty→List UInt8
 | .nm s=>s
 | .bs k=>wordK k
 | .l1 k a=>wordK k++60 :: (showT a++[62])
 | .mp a b=>wordK 13++60 :: (showT a++44 :: (showT b++[62]))
def depthT:Ty→Nat
 | .nm _=>0
 | .bs _=>0
 | .l1 _ a=>depthT a+1
 | .mp a b=>max (depthT a) (depthT b)+1
def namesT:Ty→List (List UInt8)
 | .nm s=>[s]
 | .bs _=>[]
 | .l1 _ a=>namesT a
 | .mp a b=>namesT a++namesT b
def wfT:Ty→Prop
 | .nm s=>nameOk s=true∧∀ c ∈ s,isNmS c=true
 | .bs k=>isBs k
 | .l1 k a=>(k=14∨k=15)∧wfT a
 | .mp a b=>wfT a∧wfT b
def headT:Ty→Nat×List UInt8×List UInt8×List UInt8
 | .nm s=>(0,s,[],[])
 | .bs k=>(k,[],[],[])
 | .l1 k a=>(k,[],showT a,[])
 | .mp a b=>(13,[],showT a,showT b)
def noTy (e:Nat):Nat×Ty×Nat:=(e,.bs 0,0)
def parT:Nat→List UInt8→Nat×Ty×Nat
 | 0,l =>
  if kindW (l.take (spanN isNmS l))=0 then (if nameOk (l.take (spanN isNmS l)) then (0,.nm (l.take (spanN isNmS l)),spanN isNmS l) else noTy 2)
  else if kindW (l.take (spanN isNmS l))≠13∧kindW (l.take (spanN isNmS l))≠14∧kindW (l.take (spanN isNmS l))≠15 then (0,.bs (kindW (l.take (spanN isNmS l))),spanN isNmS l)
  else noTy 6
 | r+1,l =>
  if kindW (l.take (spanN isNmS l))=0 then (if nameOk (l.take (spanN isNmS l)) then (0,.nm (l.take (spanN isNmS l)),spanN isNmS l) else noTy 2)
  else if kindW (l.take (spanN isNmS l))≠13∧kindW (l.take (spanN isNmS l))≠14∧kindW (l.take (spanN isNmS l))≠15 then (0,.bs (kindW (l.take (spanN isNmS l))),spanN isNmS l)
  else if (l.drop (spanN isNmS l)).head?≠some 60 then noTy 2
  else
   let p:=parT r (l.drop (spanN isNmS l+1))
   if p.1≠0 then noTy p.1
   else if kindW (l.take (spanN isNmS l))=13 then
    if (l.drop (spanN isNmS l+1+p.2.2)).head?≠some 44 then noTy 2
    else
     let q:=parT r (l.drop (spanN isNmS l+1+p.2.2+1))
     if q.1≠0 then noTy q.1
     else if (l.drop (spanN isNmS l+1+p.2.2+1+q.2.2)).head?≠some 62 then noTy 2
     else (0,.mp p.2.1 q.2.1,spanN isNmS l+1+p.2.2+1+q.2.2+1)
   else if (l.drop (spanN isNmS l+1+p.2.2)).head?≠some 62 then noTy 2
   else (0,.l1 (kindW (l.take (spanN isNmS l))) p.2.1,spanN isNmS l+1+p.2.2+1)
theorem head_take (l:List UInt8) (c:UInt8) (n:Nat) (h:(l.drop n).head? = some c):l.take (n+1)=l.take n++[c]∧n+1≤l.length:=by
 rcases Nat.lt_or_ge n l.length with hn | hn
 ·rw [List.take_succ_eq_append_getElem hn]
  rw [List.head?_drop,List.getElem?_eq_getElem hn] at h
  cases h
  exact ⟨rfl,by omega⟩
 ·rw [List.drop_eq_nil_of_le hn] at h;cases h
theorem take_seg (l:List UInt8) (n m:Nat):l.take (n+m)=l.take n++(l.drop n).take m:=List.take_add
theorem parT_sound:∀ (r:Nat) (l:List UInt8),(parT r l).1=0→wfT (parT r l).2.1∧depthT (parT r l).2.1≤r∧(parT r l).2.2≤l.length∧l.take (parT r l).2.2=showT (parT r l).2.1:=by
 intro r
 induction r with
 | zero =>
  intro l h
  have hsp:=spanN_le isNmS l
  have htk:=spanN_take isNmS l
  unfold parT at h ⊢
  generalize spanN isNmS l=N at *
  rcases kindW_is (l.take N) with h0 | ⟨h1,h2⟩
  ·rw [if_pos h0] at h ⊢
   split at h
   ·rename_i hn
    rw [if_pos hn]
    exact ⟨⟨hn,htk⟩,Nat.le_refl _,hsp,rfl⟩
   ·cases h
  ·have h0:kindW (l.take N)≠0:=by intro e;rw [e] at h1;simp [isKw] at h1
   rw [if_neg h0] at h ⊢
   split at h
   ·rename_i hn
    rw [if_pos hn]
    refine ⟨?_,Nat.le_refl _,hsp,h2⟩
    show isBs _
    unfold isBs;unfold isKw at h1;omega
   ·cases h
 | succ r ih =>
  intro l h
  have hsp:=spanN_le isNmS l
  have htk:=spanN_take isNmS l
  unfold parT at h ⊢
  generalize spanN isNmS l=N at *
  rcases kindW_is (l.take N) with h0 | ⟨h1,h2⟩
  ·rw [if_pos h0] at h ⊢
   split at h
   ·rename_i hn
    rw [if_pos hn]
    exact ⟨⟨hn,htk⟩,Nat.zero_le _,hsp,rfl⟩
   ·cases h
  ·have h0:kindW (l.take N)≠0:=by intro e;rw [e] at h1;simp [isKw] at h1
   rw [if_neg h0] at h ⊢
   split at h
   ·rename_i hn
    rw [if_pos hn]
    refine ⟨?_,Nat.zero_le _,hsp,h2⟩
    show isBs _
    unfold isBs;unfold isKw at h1;omega
   ·rename_i hn
    rw [if_neg hn]
    split at h
    ·cases h
    ·rename_i h60
     rw [if_neg h60]
     have e60:=head_take l 60 N (by simpa using h60)
     have hA:=ih (l.drop (N+1))
     dsimp only at h ⊢
     generalize parT r (l.drop (N+1))=p at *
     obtain ⟨pe,pt,pn⟩:=p
     dsimp only at h hA ⊢
     by_cases hpe:pe≠0
     ·rw [if_pos hpe] at h;exact absurd h hpe
     ·rw [if_neg hpe] at h ⊢
      have hA':=hA (by simpa using hpe)
      have hlen:pn≤l.length - (N+1):=by simpa using hA'.2.2.1
      have tk1:l.take (N+1+pn)=l.take N++60 :: showT pt:=by rw [take_seg,hA'.2.2.2,e60.1];simp
      by_cases h13:kindW (l.take N)=13
      ·rw [if_pos h13] at h ⊢
       split at h
       ·cases h
       ·rename_i h44
        rw [if_neg h44]
        have e44:=head_take l 44 (N+1+pn) (by simpa using h44)
        have hB:=ih (l.drop (N+1+pn+1))
        generalize parT r (l.drop (N+1+pn+1))=q at *
        obtain ⟨qe,qt,qn⟩:=q
        dsimp only at h hB ⊢
        by_cases hqe:qe≠0
        ·rw [if_pos hqe] at h;exact absurd h hqe
        ·rw [if_neg hqe] at h ⊢
         have hB':=hB (by simpa using hqe)
         have hlen2:qn≤l.length - (N+1+pn+1):=by simpa using hB'.2.2.1
         split at h
         ·cases h
         ·rename_i h62
          rw [if_neg h62]
          have e62:=head_take l 62 (N+1+pn+1+qn) (by simpa using h62)
          have tk2:l.take (N+1+pn+1+qn)=l.take N++60 :: (showT pt++44 :: showT qt):=by rw [take_seg,hB'.2.2.2,e44.1,tk1];simp
          refine ⟨⟨hA'.1,hB'.1⟩,?_,e62.2,?_⟩
          ·show max _ _+1≤_
           have:=hA'.2.1
           have:=hB'.2.1
           omega
          ·dsimp only
           rw [e62.1,tk2,h2,h13]
           simp [showT]
      ·rw [if_neg h13] at h ⊢
       split at h
       ·cases h
       ·rename_i h62
        rw [if_neg h62]
        have e62:=head_take l 62 (N+1+pn) (by simpa using h62)
        refine ⟨⟨by unfold isKw at h1;omega,hA'.1⟩,?_,e62.2,?_⟩
        ·show _+1≤_
         have:=hA'.2.1
         omega
        ·dsimp only
         rw [e62.1,tk1]
         show _=wordK _++_
         rw [← h2]
         simp
def wholeT (l:List UInt8):Nat×Ty :=
 if (parT 12 l).1≠0 then ((parT 12 l).1,.bs 0) else if (parT 12 l).2.2<l.length then (2,.bs 0) else (0,(parT 12 l).2.1)
end Go.Proofs.YtnfelopknfdpfaaDoor
namespace Go.Proofs.YtnfelopknfdpfaaDoor
def isPartS:List UInt8→Bool
 | []=>false
 | c :: _=>!isDig c
theorem partN_le (l:List UInt8):partN l≤l.length:=spanN_le _ l
theorem partN_cons (c:UInt8) (l:List UInt8):partN (c :: l)=if c=46 then 0 else partN l+1:=by
 have e:partN (c :: l)=if decide (c≠46)=true then partN l+1 else 0:=rfl
 rw [e]
 by_cases h:c=46 <;> simp [h]
theorem index_dot (l:List UInt8):Lib.index l [46]=if partN l<l.length then (partN l:Int) else -1:=by
 induction l with
 | nil=>rfl
 | cons c l ih =>
  unfold Lib.index
  rw [ih,partN_cons]
  by_cases h:c=46
  ·subst h;simp [List.isPrefixOf]
  ·have h':([46].isPrefixOf (c :: l))=false:=by simp [List.isPrefixOf];exact fun e=>h e.symm
   rw [if_neg (by simp [h'])]
   have hl:=partN_le l
   by_cases hlt:partN l<l.length
   ·rw [if_pos hlt,if_neg (by simp),if_neg h,if_pos (by simpa using hlt)];simp
   ·rw [if_neg hlt,if_pos (by simp),if_neg h,if_neg (by simpa using hlt)]
theorem cut_dot (l:List UInt8):Lib.cut l [46]=(l.take (partN l),if partN l<l.length then l.drop (partN l+1) else [],decide (partN l<l.length)):=by
 unfold Lib.cut
 rw [index_dot]
 have hl:=partN_le l
 by_cases hlt:partN l<l.length
 ·rw [if_pos hlt,if_pos (by simp),if_pos hlt,decide_eq_true hlt];simp
 ·rw [if_neg hlt,if_neg (by simp),if_neg hlt,decide_eq_false hlt,List.take_of_length_le (by omega)]
theorem farF_false (l:List UInt8):farF false l=if partN l<l.length then farF true (l.drop (partN l+1)) else true:=by
 induction l with
 | nil=>rfl
 | cons c l ih =>
  have e:farF false (c :: l)=farF (decide (c=46)) l:=rfl
  rw [e,partN_cons]
  by_cases h:c=46
  ·subst h;rw [if_pos rfl,if_pos (by simp)];rfl
  ·rw [decide_eq_false h,ih,if_neg h,List.length_cons,List.drop_succ_cons]
   by_cases h2:partN l<l.length
   ·rw [if_pos h2,if_pos (by omega)]
   ·rw [if_neg h2,if_neg (by omega)]
theorem farF_true (l:List UInt8):farF true l=(isPartS (l.take (partN l)) && (if partN l<l.length then farF true (l.drop (partN l+1)) else true)):=by
 cases l with
 | nil=>rfl
 | cons c l =>
  have e:farF true (c :: l)=((!isDig c && decide (c≠46)) && farF false l):=rfl
  rw [e,partN_cons]
  by_cases h:c=46
  ·subst h;rw [if_pos rfl];rfl
  ·rw [farF_false,if_neg h,List.length_cons,List.drop_succ_cons,List.take_succ_cons]
   have e2:isPartS (c :: l.take (partN l)) = !isDig c:=rfl
   rw [e2,show decide (c≠46)=true from decide_eq_true h,Bool.and_true]
   by_cases h2:partN l<l.length
   ·rw [if_pos h2,if_pos (by omega)]
   ·rw [if_neg h2,if_neg (by omega)]
end Go.Proofs.YtnfelopknfdpfaaDoor
namespace Go.Proofs.YtnfelopknfdpfaaDoor
open Go.RowKit
def MaxC (w:World):Prop:=∃ m,w.cell? ⟨3,0,none⟩=some (.int .i64 m)
theorem MaxC.nx {w w':World} (h:MaxC w) (hn:Nx w w'):MaxC w':=by
 obtain ⟨m,hm⟩:=h
 exact ⟨m,(hn.cell (World.block_lt_of_cell? w _ hm)).trans hm⟩
theorem Oth.maxC {w w':World} {b:Nat} (h:Oth b w w') (hm:MaxC w) (hb:b≠3):MaxC w':=by
 obtain ⟨m,hm⟩:=hm
 refine ⟨m,?_⟩
 have:=h.block _ (World.block_lt_of_cell? w _ hm) (fun e=>hb e.symm)
 rw [← hm]
 unfold World.cell?
 simp only
 rw [this]
end Go.Proofs.YtnfelopknfdpfaaDoor
namespace Go.Proofs.YtnfelopknfdpfaaDoor
open Go.RowKit
theorem wpList_bytes {P:Program} (w:World) {ops:Array Oper} {rest:List Oper} {o:Oper} {a:Act} {Q:Exit→Act→World→Prop} {src dst e:TypeId} (hgd:o.guard=none) (x:Operand) (ho:o.op = .convert src dst x) (hs:P.underlying src=some .string) (hd:P.underlying dst=some (.slice e)) (he:P.underlying e=some (.int .u8))
  (s:ByteArray) (l:List UInt8) (hl:Tx s l) (hx:a.eval x = .string s)
  (h:∀ c w',Rd bv w' (some ⟨w.heap.size,0,none⟩) l→Nx w w'→wpList P ops Q rest (a.put o.dst (.slice (some ⟨w.heap.size,0,none⟩) l.length c)) w'):wpList P ops Q (o :: rest) a w:=by
 refine wpList_plain hgd fun K hK=>?_
 have hrun:=Lib.run_convert_string_bytes (P:=P) w src dst e s hs hd he
 have hn:Nx w (Lib.bytesWorld w e s):=Joins.below_bytesWorld _ w e s (Nat.le_refl _)
 have hr:Rd bv (Lib.bytesWorld w e s) (some ⟨w.heap.size,0,none⟩) l:=by
  intro h0
  refine ⟨w.heap.size,0,rfl,by rw [Lib.bytesWorld_size];omega,fun j hj=>?_⟩
  rw [Nat.zero_add,Lib.bytesWorld_cell w e s j (by rw [hl.size];exact hj),show s.data.toList=l from hl]
  simp [bv,hj]
 have:=hK _ _ (h (grownCap w s.size 0 e) _ hr hn)
 unfold Oper.wp execOp
 simp only [ho,Sem.run_bind,Sem.run_pure,Result.andThen_ok,hx,hrun]
 rw [hl.size] at *
 exact this
def kwB (k:Nat):ByteArray:=⟨(wordK k).toArray⟩
def kwV:Array Value:=#[.string (kwB 0),.string (kwB 1),.string (kwB 2),.string (kwB 3),.string (kwB 4),.string (kwB 5),.string (kwB 6),.string (kwB 7),.string (kwB 8),.string (kwB 9),.string (kwB 10),.string (kwB 11),.string (kwB 12),.string (kwB 13),.string (kwB 14),.string (kwB 15),.string (kwB 16)]
theorem kwV_at (i:Nat) (h:i<17):kwV[i]? = some (.string (kwB i)):=by
 have h':i ∈ List.range 17:=List.mem_range.2 h
 simp only [List.range,List.range.loop,List.mem_cons,List.not_mem_nil,or_false] at h'
 rcases h' with rfl | rfl | rfl | rfl | rfl | rfl | rfl | rfl | rfl | rfl | rfl | rfl | rfl | rfl | rfl | rfl | rfl <;> rfl
theorem wpList_index_arr {P:Program} (w:World) {ops:Array Oper} {rest:List Oper} {o:Oper} {a:Act} {Q:Exit→Act→World→Prop} (hgd:o.guard=none) (t e:TypeId) (n:Nat) (x i:Operand) (ho:o.op = .index t x i)
  (ht:P.underlying t=some (.array n e)) (d:TypeDesc) (he:P.underlying e=some d) (hd:(match d with | .struct _ | .array _ _=>false | _=>true)=true) (hz:(P.info? e).map (·.size)=some 1)
  (cs:Array Value) (hx:a.eval x = .agg cs) (k:Nat) (hi:a.eval i = .int .i64 k) (hk:k<n) (v:Value) (hv:cs[k]? = some v)
  (h:wpList P ops Q rest (a.put o.dst v) w):wpList P ops Q (o :: rest) a w:=by
 refine wpList_plain hgd fun K hK=>?_
 have:=hK _ _ h
 have hagg:(isAgg e).run P w = .ok false w:=by
  unfold isAgg
  rw [Sem.run_bind,run_underlying he w]
  cases d <;> simp_all
 have hk':(0:Int)≤(k:Int)∧(k:Int)<(n:Int):=by omega
 cases hq:P.info? e with
 | none=>rw [hq] at hz;cases hz
 | some inf =>
  have hs:inf.size=1:=by rw [hq] at hz;simpa using hz
  have hrun:(Instr.index t (.agg cs) (.int .i64 k)).run P w = .ok v w:=by
   unfold Instr.index
   simp only [asIntOf,Sem.run_bind,Sem.run_pure,Result.andThen_ok,run_underlying ht]
   rw [if_pos hk']
   simp [Sem.run_bind,sizeOf,typeInfo,hq,hs,part,hagg,hv]
  unfold Oper.wp execOp
  simp only [ho,Sem.run_bind,Sem.run_pure,Result.andThen_ok,hx,hi,hrun]
  exact this
theorem kind_at (l:List UInt8) (k:Nat) (hk:k<17) (h1:∀ j,j<k→wordK j≠l) (h2:wordK k=l):kindW l=k:=by
 subst h2
 have h':k ∈ List.range 17:=List.mem_range.2 hk
 simp only [List.range,List.range.loop,List.mem_cons,List.not_mem_nil,or_false] at h'
 rcases h' with rfl | rfl | rfl | rfl | rfl | rfl | rfl | rfl | rfl | rfl | rfl | rfl | rfl | rfl | rfl | rfl | rfl <;> first | decide | exact absurd rfl (h1 0 (by decide))
theorem kind_no (l:List UInt8) (h:∀ j,j<17→wordK j≠l):kindW l=0:=by
 rcases kindW_is l with h0 | ⟨h1,h2⟩
 ·exact h0
 ·exact absurd h2.symm (h _ (by unfold isKw at h1;omega))
theorem cut_parts (l:List UInt8):∃ A B C,Hid (Lib.cut l [46]=(A,B,C))∧Hid (farF true l=(isPartS A && (!C || farF true B)))∧Hid (nameOk l=(farF true l && decide (kindW A=0)))∧A.length≤l.length∧B.length≤l.length∧(C=true→B.length<l.length):=by
 refine ⟨l.take (partN l),if partN l<l.length then l.drop (partN l+1) else [],decide (partN l<l.length),cut_dot l,?_,rfl,by simp [Nat.min_le_right],?_,?_⟩
 ·unfold Hid
  rw [farF_true]
  by_cases h:partN l<l.length
  ·rw [if_pos h,if_pos h,decide_eq_true h];rfl
  ·rw [if_neg h,if_neg h,decide_eq_false h];rfl
 ·split <;> simp
 ·intro h
  have h:=of_decide_eq_true h
  rw [if_pos h,List.length_drop];omega
end Go.Proofs.YtnfelopknfdpfaaDoor
namespace Go.Proofs.YtnfelopknfdpfaaDoor
open Go.RowKit
set_option maxRecDepth 100000 in
set_option maxHeartbeats 800000 in
theorem kisLetter_any (c:UInt8) (w:World) :
  Calls Tryd.prog 65 #[.int .u8 (c.toNat:Int)] w fun e w'=>e = .returned (.bool (isLetS c))∧w'=w:=by
 go_enter Tryd.func65,Tryd.ntmps65
 go_wp2_with fail
 all_goals
  go_ret
  refine ⟨congrArg (fun b=>Ending.returned (Value.bool b)) ?_,rfl⟩
  rw [Bool.eq_iff_iff]
  simp [isLetS]
  omega
set_option maxRecDepth 100000 in
set_option maxHeartbeats 800000 in
theorem kisDigit_any (c:UInt8) (w:World) :
  Calls Tryd.prog 66 #[.int .u8 (c.toNat:Int)] w fun e w'=>e = .returned (.bool (isDig c))∧w'=w:=by
 go_enter Tryd.func66,Tryd.ntmps66
 go_wp2_with fail
 all_goals
  go_ret
  refine ⟨congrArg (fun b=>Ending.returned (Value.bool b)) ?_,rfl⟩
  rw [Bool.eq_iff_iff]
  simp [isDig]
  omega
set_option maxRecDepth 100000 in
set_option maxHeartbeats 1600000 in
theorem kisOfName_any (c:UInt8) (w:World) :
  Calls Tryd.prog 54 #[.int .u8 (c.toNat:Int)] w fun e w'=>e = .returned (.bool (isNmS c))∧w'=w:=by
 go_enter Tryd.func54,Tryd.ntmps54
 go_wp2_with fail
 refine (kisLetter_any c w).mono ?_;rintro e w' ⟨rfl,rfl⟩
 obtain ⟨L,HL⟩:∃ L,Hid (isLetS c=L):=⟨_,rfl⟩
 rw [HL.out]
 cases L
 ·go_wp2_with fail
  refine (kisDigit_any c _).mono ?_;rintro e w' ⟨rfl,rfl⟩
  obtain ⟨D,HD⟩:∃ D,Hid (isDig c=D):=⟨_,rfl⟩
  rw [HD.out]
  cases D
  ·go_wp2_with fail
   all_goals
    go_ret
    refine ⟨congrArg (fun b=>Ending.returned (Value.bool b)) ?_,rfl⟩
    rw [Bool.eq_iff_iff]
    simp [isNmS,HL.out,HD.out]
    omega
  ·go_wp2_with fail
   go_ret
   refine ⟨congrArg (fun b=>Ending.returned (Value.bool b)) ?_,rfl⟩
   simp [isNmS,HL.out,HD.out]
 ·go_wp2_with fail
  go_ret
  refine ⟨congrArg (fun b=>Ending.returned (Value.bool b)) ?_,rfl⟩
  simp [isNmS,HL.out]
set_option maxRecDepth 100000 in
set_option maxHeartbeats 800000 in
theorem isPart_any (s:ByteArray) (l:List UInt8) (w:World) (hl:Tx s l) :
  Calls Tryd.prog 57 #[.string s] w fun e w'=>e = .returned (.bool (isPartS l))∧w'=w:=by
 cases l with
 | nil =>
  have e1:=hl.nil.1
  have e2:s.toList.isEmpty=true:=by rw [e1];rfl
  have HL:=Lib.hid hl
  clear hl
  go_enter Tryd.func57,Tryd.ntmps57
  go_wp2_with fail
  go_ret
  exact ⟨rfl,rfl⟩
 | cons c l =>
  obtain ⟨hp,t,e0,e1,ht,e2,e3⟩:=hl.cons
  have HL:=Lib.hid hl
  clear hl ht e1
  go_enter Tryd.func57,Tryd.ntmps57
  go_wp2_with fail
  refine (kisDigit_any c w).mono ?_;rintro e w' ⟨rfl,rfl⟩
  go_wp2_with fail
  go_ret
  exact ⟨rfl,rfl⟩
set_option maxRecDepth 100000 in
set_option maxHeartbeats 800000 in
theorem fresh_any (s:ByteArray) (w:World) :
  Calls Tryd.prog 34 #[.string s] w fun e w'=>e = .returned (.string s)∧Nx w w':=by
 obtain ⟨l,hl⟩:∃ l,Tx s l:=⟨_,rfl⟩
 have he:=Lib.hid hl.eq
 go_enter Tryd.func34,Tryd.ntmps34
 go_wp2_with (first
  | (refine wpList_bytes _ (o:=⟨some 4,_,_,_,_,_⟩) rfl _ rfl Tryd.underlying9 Tryd.underlying45 Tryd.underlying5 s l hl rfl ?_;intro c1 w1 hr1 hw1)
  | (refine wpList_str _ (o:=⟨some 5,_,_,_,_,_⟩) rfl _ rfl Tryd.underlying45 Tryd.underlying5 Tryd.underlying9 _ l _ rfl hr1 ?_;intro t HT ht1 ht2))
 go_ret
 rw [HT.out,← he.out]
 exact ⟨rfl,hw1⟩
def TabK (w:World):Prop:=∃ t fr,w.heap[2]? = some (.cells kwV t fr)
theorem TabK.nx {w w':World} (h:TabK w) (hn:Nx w w'):TabK w':=by
 obtain ⟨t,fr,h⟩:=h
 refine ⟨t,fr,?_⟩
 rw [hn.block _ ?_]
 ·exact h
 ·rcases Nat.lt_or_ge 2 w.heap.size with h1 | h1
  ·exact h1
  ·rw [Array.getElem?_eq_none h1] at h;cases h
set_option maxRecDepth 100000 in
set_option maxHeartbeats 1600000 in
theorem kindOf_any (s:ByteArray) (l:List UInt8) (w:World) (hl:Tx s l) (ht:TabK w) :
  Calls Tryd.prog 49 #[.string s] w fun e w'=>e = .returned (.int .i64 (kindW l:Nat))∧w'=w:=by
 have HL:=Lib.hid hl
 have HT:=Lib.hid ht
 obtain ⟨tt,fr,hg⟩:=ht
 clear hl
 go_enter Tryd.func49,Tryd.ntmps49
 go_wp2_with (refine wpList_load_row rfl _ _ rfl 2 rfl tt kwV fr _ hg Tryd.underlying124 rfl (by kernel_rfl) ?_)
 go_loop [6] (fun i=>∃ k:Nat,k≤17∧i = .int .i64 k∧Hid (∀ j,j<k→wordK j≠l)) (fun i=>17 - (intOf i).toNat)
 case atStart=>exact ⟨0,by decide,rfl,fun j hj=>by omega⟩
 case round =>
  obtain ⟨k,hk,rfl,HK⟩:=hrel
  by_cases hlt:k<17
  ·have hkI:(k:Int)<17:=by omega
   have hkd:decide ((k:Int)<17)=true:=decide_eq_true hkI
   have hat:=kwV_at k hlt
   have hbt:((kwB k).toList == s.toList)=decide (wordK k=l):=by
    rw [HL.out.toL,show (kwB k).toList=wordK k from (Tx.of (wordK k)).toL,Bool.eq_iff_iff]
    simp
   by_cases he:wordK k=l
   ·rw [decide_eq_true he] at hbt
    have HR:=Lib.hid (kind_at l k hlt HK.out he)
    clear he
    go_wp2_with (refine wpList_index_arr _ (o:=⟨some 9,_,_,_,_,_⟩) rfl _ _ 17 _ _ rfl Tryd.underlying124 _ Tryd.underlying9 rfl (by kernel_rfl) kwV rfl k rfl hlt _ hat ?_)
    go_ret
    rw [HR.out]
    exact ⟨rfl,rfl⟩
   ·rw [decide_eq_false he] at hbt
    have HE:=Lib.hid he
    clear he
    go_wp2_with (refine wpList_index_arr _ (o:=⟨some 9,_,_,_,_,_⟩) rfl _ _ 17 _ _ rfl Tryd.underlying124 _ Tryd.underlying9 rfl (by kernel_rfl) kwV rfl k rfl hlt _ hat ?_)
    go_round
    case rel=>exact ⟨k+1,by omega,by go_num,fun j hj=>by
     rcases Nat.lt_or_ge j k with h | h
     ·exact HK.out j h
     ·obtain rfl:j=k:=by omega
      exact HE.out⟩
    case measure=>simp [intOf];omega
  ·obtain rfl:k=17:=by omega
   have HR:=Lib.hid (kind_no l HK.out)
   go_wp2_with fail
   go_ret
   rw [HR.out]
   exact ⟨rfl,rfl⟩
set_option maxRecDepth 100000 in
set_option maxHeartbeats 1600000 in
theorem isName_any (s:ByteArray) (l:List UInt8) (w:World) (hl:Tx s l) (hs:(l.length:Int)≤100000) (ht:TabK w) (hm:MaxC w) :
  Calls Tryd.prog 51 #[.string s] w fun e w'=>e = .returned (.bool (nameOk l))∧∃ n,w'=w.drewN n:=by
 have HL:=Lib.hid hl
 have HT:=Lib.hid ht
 obtain ⟨m,hm⟩:=hm
 have HM:=Lib.hid hm
 have hz:s.size<4294967281:=by rw [hl.size];omega
 have HZ:=Lib.hid hz
 obtain ⟨A,B,C,HC,HF,HN,hA,hB,hC⟩:=cut_parts l
 have HC':=Lib.hid hC
 clear hl ht hm hz hC
 go_enter Tryd.func51,Tryd.ntmps51
 go_wp2_with fail
 refine (Tryd.strings_Cut s ⟨#[46]⟩ m w HZ.out HM.out).mono ?_;rintro e w1 ⟨rfl,n1,hw1⟩
 subst hw1
 rw [show s.data.toList=l from HL.out,show (ByteArray.mk #[46]).data.toList=[46] from rfl,HC.out]
 dsimp only
 go_wp2_with fail
 refine (kindOf_any ⟨A.toArray⟩ A _ (Tx.of _) (HT.out.nx (Nx.drewN w n1))).mono ?_;rintro e w' ⟨rfl,rfl⟩
 by_cases hk:kindW A=0
 ·have HNO2:Hid (nameOk l=farF true l):=by unfold Hid;rw [HN.out,decide_eq_true hk,Bool.and_true]
  rw [hk]
  clear hk
  go_wp2_with fail
  go_loopw [3,4,5] (fun p r m wr=>∃ (A B:List UInt8) (C:Bool) (n:Nat),p = .string ⟨A.toArray⟩∧r = .string ⟨B.toArray⟩∧m = .bool C∧Hid ((isPartS A && (!C || farF true B))=nameOk l)∧B.length≤l.length∧(C=false∨B.length<l.length)∧wr=w.drewN n) (fun _ r m _=>match r,m with | .string b,.bool true=>b.size+1 | _,_=>0)
  case atStart=>exact ⟨A,B,C,n1,rfl,rfl,rfl,by unfold Hid;rw [HNO2.out,HF.out],hB,by cases C;exact .inl rfl;exact .inr (HC'.out rfl),rfl⟩
  case round =>
   obtain ⟨A',B',C',n,rfl,rfl,rfl,HX,hB',hC',rfl⟩:=hrel
   go_wp2_with fail
   refine (isPart_any ⟨A'.toArray⟩ A' _ (Tx.of _)).mono ?_;rintro e w' ⟨rfl,rfl⟩
   obtain ⟨P,HP⟩:∃ P,Hid (isPartS A'=P):=⟨_,rfl⟩
   rw [HP.out] at HX ⊢
   cases P
   ·go_wp2_with fail
    go_ret
    exact ⟨congrArg (fun b=>Ending.returned (Value.bool b)) HX.out,_,rfl⟩
   ·cases C'
    ·go_wp2_with fail
     go_ret
     exact ⟨congrArg (fun b=>Ending.returned (Value.bool b)) HX.out,_,rfl⟩
    ·obtain ⟨A2,B2,C2,HC2,HF2,-,hA2,hB2,hC2⟩:=cut_parts B'
     have HC2':=Lib.hid hC2
     clear hC2
     have hz2:(ByteArray.mk B'.toArray).size<4294967281:=by rw [(Tx.of B').size];omega
     have HZ2:=Lib.hid hz2
     clear hz2
     go_wp2_with fail
     refine (Tryd.strings_Cut ⟨B'.toArray⟩ ⟨#[46]⟩ m (w.drewN n) HZ2.out HM.out).mono ?_;rintro e w2 ⟨rfl,n2,hw2⟩
     subst hw2
     rw [show (ByteArray.mk B'.toArray).data.toList=B' from rfl,show (ByteArray.mk #[46]).data.toList=[46] from rfl,HC2.out]
     dsimp only
     go_wp2_with fail
     go_roundw
     case rel =>
      refine ⟨A2,B2,C2,n+n2,rfl,rfl,rfl,?_,by omega,?_,rfl⟩
      ·unfold Hid
       rw [← HX.out,← HF2.out];rfl
      ·rcases hC' with h | h
       ·cases h
       ·exact .inr (by omega)
     case measure =>
      have h1:(ByteArray.mk B'.toArray).size=B'.length:=(Tx.of B').size
      have h2:(ByteArray.mk B2.toArray).size=B2.length:=(Tx.of B2).size
      have h3:=HC2'.out
      cases C2
      ·simp
      ·have:=h3 rfl
       simp only [h1,h2]
       omega
 ·have hk2:((kindW A:Int) != 0)=true:=by rw [bne_iff_ne];omega
  have HNO2:Hid (nameOk l=false):=by unfold Hid;rw [HN.out,decide_eq_false hk,Bool.and_false]
  clear hk
  go_wp2_with fail
  go_ret
  rw [HNO2.out]
  exact ⟨rfl,_,rfl⟩
end Go.Proofs.YtnfelopknfdpfaaDoor
namespace Go.Proofs.YtnfelopknfdpfaaDoor
namespace RI
section
variable {P:Program} (L:List Oper) (a0:Act) (V:Nat→Value→World→Prop) (S:Array Bool→World→Prop) (R:World→World→Prop)
def StepN (P:Program) (i:Nat) (o:Oper):Prop :=
 ∀ (a:Act) (x:Nat→Value) (ls:Array Bool) (w:World),S ls w→ls.size=L.length→ls.getD i true=false→(∀ d i,slotB L d i=true→d<a0.tmps.size→a.eval (.tmp d)=x i)→(∀ d,(dsts L).contains d=false→a.eval (.tmp d)=a0.eval (.tmp d)) →
  (∀ e ∈ o.after.toList,Region.binds .any e=true→V e.on (x e.on) w) →
  ∀ K:Act→World→Prop,(∀ w' v,V i v w'→S (ls.setIfInBounds i true) w'→R w w'→K (a.put o.dst v) w')→o.wp P a w K (fun _ _ _=>False)
def StepsN (P:Program):List Oper→Nat→Prop
 | [],_=>True
 | o :: os,i=>StepN L a0 V S R P i o∧StepsN P os (i+1)
variable {L a0 V S R}
theorem StepsN.at_:∀ {os:List Oper} {k:Nat},StepsN L a0 V S R P os k→∀ i o,os[i]? = some o→StepN L a0 V S R P (k+i) o
 | [],_,_,i,o,h=>by simp at h
 | o' :: os,k,hs,i,o,h=>by
  cases i with
  | zero=>simp at h;subst h;exact hs.1
  | succ i=>rw [show k+(i+1)=k+1+i by omega];exact StepsN.at_ hs.2 i o (by simpa using h)
theorem inv_anyN {Q:Exit→Act→World→Prop} (hok:okB L=true) (hg:L.all (fun o=>o.guard == none)=true) (hV:∀ j v w w',V j v w→R w w'→V j v w') (hs:StepsN L a0 V S R P L 0)
  (hend:∀ (x:Nat→Value) ls w,S ls w→(∀ j,j<L.length→ls.getD j false=true)→(∀ j,j<L.length→V j (x j) w)→Q .normal (PA L 0 x a0) w) :
  ∀ (f:Nat) (listed:Array Bool) (x:Nat→Value) (w:World),listed.size=L.length→unl L.length listed≤f→S listed w→(∀ j,listed.getD j false=true→V j (x j) w) →
   wpAny P .any L.toArray Q f listed (PA L 0 x a0) w:=by
 simp only [okB,Bool.and_eq_true,decide_eq_true_eq] at hok
 obtain ⟨hb,hn⟩:=hok
 have fin:∀ (listed:Array Bool) (x:Nat→Value) (w:World),listed.size=L.length→S listed w→(∀ j,listed.getD j false=true→V j (x j) w)→(∀ i,i<L.length→listed.getD i true=true)→Q .normal (PA L 0 x a0) w:=by
  intro listed x w hz hS hx hall
  have hall':∀ j,j<L.length→listed.getD j false=true:=fun j hj=>by
   have h4:j<listed.size:=by omega
   simpa [h4] using hall j hj
  exact hend x listed w hS hall' fun j hj=>hx j (hall' j hj)
 intro f
 induction f with
 | zero =>
  intro listed x w hz hf hS hx
  have hall:∀ i,i<L.length→listed.getD i true=true:=by
   intro i hi
   cases h:listed.getD i true with
   | true=>rfl
   | false =>
    exfalso
    have:i ∈ (List.range L.length).filter fun i=>!listed.getD i true:=List.mem_filter.2 ⟨List.mem_range.2 hi,by rw [h];rfl⟩
    have:=List.length_pos_of_mem this
    unfold unl at hf
    omega
  refine ⟨?_,fin listed x w hz hS hx hall⟩
  rw [List.eq_nil_iff_forall_not_mem]
  intro i hi
  obtain ⟨h1,o,ho,-⟩:=mem_ready.1 hi
  have hi2:i<L.length:=by
   have:=(Array.getElem?_eq_some_iff.1 ho).1
   simpa using this
  rw [hall i hi2] at h1
  cases h1
 | succ f ih =>
  intro listed x w hz hf hS hx
  refine ⟨fun hr=>fin listed x w hz hS hx (all_listed hb hz hr),fun i hi=>?_⟩
  obtain ⟨h1,o,ho,hdep⟩:=mem_ready.1 hi
  have hi2:i<L.length:=by
   have:=(Array.getElem?_eq_some_iff.1 ho).1
   simpa using this
  have hol:L[i]? = some o:=by simpa using ho
  have hgd:o.guard=none:=by
   have:=List.all_eq_true.1 hg o (List.mem_of_getElem? hol)
   simpa using this
  have hst:=hs.at_ i o hol
  rw [Nat.zero_add] at hst
  have h:=hst (PA L 0 x a0) x listed w hS hz h1 (fun d i g1 g2=>PA_slot g1 g2) (fun d g1=>PA_old_slot g1) (fun e he hbd=>hx e.on (hdep e (by simpa using he) hbd)) (wpAny P .any L.toArray Q f (listed.setIfInBounds i true)) (by
   intro w' v hv hS' hR
   rw [PA_upd L 0 x a0 i o v hn hol,Nat.zero_add]
   refine ih (listed.setIfInBounds i true) (upd x i v) w' (by simpa using hz) ?_ hS' ?_
   ·have:unl L.length (listed.setIfInBounds i true)<unl L.length listed:=by
     refine filter_lt _ _ _ ?_ i (List.mem_range.2 hi2) ?_ ?_
     ·intro y hy hp
      by_cases hyi:i=y
      ·subst hyi
       have h4:i<listed.size:=by omega
       simp [h4] at hp
      ·rw [getD_set_ne true hyi] at hp;exact hp
     ·have h4:i<listed.size:=by omega
      simp [h4]
     ·rw [h1];rfl
    omega
   ·intro j hj
    by_cases hji:j=i
    ·subst hji;rw [upd_same];exact hv
    ·rw [upd_ne _ _ _ _ hji]
     rw [getD_set_ne false (Ne.symm hji)] at hj
     exact hV _ _ _ _ (hx j hj) hR)
  unfold wpOp
  rw [ho]
  dsimp only
  rw [if_pos (by unfold Region.wanted;rw [hgd])]
  exact .inl (wp_mono_both (fun _ _ h=>h) h trivial)
theorem wp_region_N {id:Nat} {Q:Exit→Act→World→Prop} {w:World} {ops:Array Oper} (V:Nat→Value→World→Prop) (S:Array Bool→World→Prop) (R:World→World→Prop) (hm:P.follows .mixedOrders=true) (hok:okB ops.toList=true) (hg:ops.toList.all (fun o=>o.guard == none)=true)
  (hV:∀ j v w w',V j v w→R w w'→V j v w') (hS:S (Array.replicate ops.size false) { w with drawn:=w.drawn+1 }) (hs:StepsN ops.toList a0 V S R P ops.toList 0)
  (hend:∀ (A:Act) (x:Nat→Value) ls w,S ls w→(∀ j,j<ops.toList.length→ls.getD j false=true)→(∀ d i,slotB ops.toList d i=true→d<a0.tmps.size→A.eval (.tmp d)=x i)→(∀ d,(dsts ops.toList).contains d=false→A.eval (.tmp d)=a0.eval (.tmp d))→(∀ j,j<ops.toList.length→V j (x j) w) →
   RowKit.Hid (A=⟨(setAll ops.toList 0 x a0.tmps.toList).toArray,a0.defers⟩)→Q .normal A w):(Code.region id ops true).wp P Q a0 w:=by
 refine wp_region_any hm ?_
 have hold:PA ops.toList 0 (old a0 ops.toList) a0=a0:=PA_old ops.toList 0 _ a0 (fun i o d h1 h2=>by unfold old;rw [Nat.zero_add,h1];simp [h2])
 have hrep:∀ j d,j<ops.toList.length→(Array.replicate ops.size false).getD j d=false:=by
  intro j d hj
  simp at hj
  simp [Array.getElem?_replicate,hj]
 have:=inv_anyN (P:=P) (Q:=Q) hok hg hV hs (fun x ls w h1 h2 h3=>hend (PA ops.toList 0 x a0) x ls w h1 h2 (fun d i g1 g2=>PA_slot g1 g2) (fun d g1=>PA_old_slot g1) h3 (PA_list ops.toList 0 x a0)) ops.size (Array.replicate ops.size false) (old a0 ops.toList) { w with drawn:=w.drawn+1 } (by simp) ?_ hS ?_
 ·rw [hold] at this
  simpa using this
 ·unfold unl
  have:=List.length_filter_le (fun i=>!(Array.replicate ops.size false).getD i true) (List.range ops.toList.length)
  simp only [List.length_range] at this
  simpa using this
 ·intro j hj
  exfalso
  revert hj
  rw [Array.getD_eq_getD_getElem?]
  cases h:(Array.replicate ops.size false)[j]? with
  | none=>simp
  | some b =>
   have:=Array.getElem?_eq_some_iff.1 h
   obtain ⟨h1,h2⟩:=this
   simp at h2
   simp [← h2]
end
end RI
end Go.Proofs.YtnfelopknfdpfaaDoor
namespace Go.Proofs.YtnfelopknfdpfaaDoor
open Go.RowKit
def plc (k n:Nat):Value:=.agg #[.int .i64 (k:Int),.int .i64 (n:Int)]
theorem plc_inj {k n k' n':Nat} (h:plc k n=plc k' n'):k=k'∧n=n':=by
 unfold plc at h
 simp at h
 omega
theorem laidOutK:laidOutB Tryd.prog=true:=by kernel_rfl
def signV (k n:Nat):Option Nat :=
 if (k=13∨k=14∨k=15)∧n=0 then some 60
 else if k=13∧n=1 then some 44
 else if (k=14∨k=15)∧n=1∨k=13∧n=2 then some 62 else none
theorem signV_lt {k n v:Nat} (h:signV k n=some v):k<17∧n<4:=by
 unfold signV at h
 split at h
 ·omega
 ·split at h
  ·omega
  ·split at h
   ·omega
   ·cases h
def GoodE (es:Array MapEntry):Prop:=∀ e ∈ es.toList,∃ k n v,signV k n=some v∧e.key=plc k n∧e.val = .int .u8 (v:Int)
def Sg (w:World) (g:Nat):Prop:=∃ es c,w.heap[g]? = some (.map es c)∧GoodE es∧∀ k n v,signV k n=some v→∃ e ∈ es.toList,e.key=plc k n
theorem zero_u8 (w:World):(zeroValue 5).run Tryd.prog w = .ok (.int .u8 0) w:=by kernel_rfl
def SgS (W:World) (ls:Array Bool) (w:World):Prop :=
 Nx W w∧((ls.getD 0 false=false∧w.heap.size=W.heap.size)∨(ls.getD 0 false=true∧∃ es c,w.heap[W.heap.size]? = some (.map es c)∧GoodE es))
def SgR (W w w':World):Prop:=∀ es c,w.heap[W.heap.size]? = some (.map es c)→∃ es' c',w'.heap[W.heap.size]? = some (.map es' c')∧∀ x ∈ es.toList,∃ y ∈ es'.toList,y.key=x.key
theorem SgR.refl (W w:World):SgR W w w:=fun es c h=>⟨es,c,h,fun x hx=>⟨x,hx,rfl⟩⟩
def SgV (W:World) (k n:Nat) (w:World):Prop:=∃ es c,w.heap[W.heap.size]? = some (.map es c)∧∃ e ∈ es.toList,e.key=plc k n
theorem SgV.keep {W w w':World} {k n:Nat} (h:SgV W k n w) (hr:SgR W w w'):SgV W k n w':=by
 obtain ⟨es,c,hg,e,he,hk⟩:=h
 obtain ⟨es',c',hg',hall⟩:=hr es c hg
 obtain ⟨y,hy,hyk⟩:=hall e he
 exact ⟨es',c',hg',y,hy,hyk.trans hk⟩
def SgM (W w:World):Prop:=∃ es c,w.heap[W.heap.size]? = some (.map es c)
theorem SgM.keep {W w w':World} (h:SgM W w) (hr:SgR W w w'):SgM W w':=by
 obtain ⟨es,c,h⟩:=h
 obtain ⟨es',c',h',-⟩:=hr es c h
 exact ⟨es',c',h'⟩
theorem SgS.set {W w:World} {ls:Array Bool} (h:SgS W ls w) (i:Nat) (hi:i≠0):SgS W (ls.setIfInBounds i true) w:=by
 obtain ⟨h1,h2⟩:=h
 refine ⟨h1,?_⟩
 rw [getD_set_ne false hi]
 exact h2
theorem SgS.first {W w:World} {ls:Array Bool} (h:SgS W ls w) (hz:0<ls.size) (hl:ls.getD 0 true=false):w.heap.size=W.heap.size∧Nx W w:=by
 have:ls.getD 0 false=false:=by
  simp [hz] at hl ⊢;exact hl
 rcases h.2 with h2 | ⟨h2,-⟩
 ·exact ⟨h2.2,h.1⟩
 ·rw [this] at h2;cases h2
theorem SgS.made {W w:World} {ls:Array Bool} (hz:0<ls.size) (hw:w.heap.size=W.heap.size) (hn:Nx W w):SgS W (ls.setIfInBounds 0 true) (w.alloc (.map #[] 0)):=by
 refine ⟨hn.al _,.inr ⟨by simp [hz],#[],0,?_,fun e he=>by simp at he⟩⟩
 rw [← hw];exact heap_alloc_new w _
theorem SgR.made {W w:World} (hw:w.heap.size=W.heap.size):SgR W w (w.alloc (.map #[] 0)):=fun es c h=>by
 rw [← hw] at h
 simp at h
end Go.Proofs.YtnfelopknfdpfaaDoor
namespace Go.Proofs.YtnfelopknfdpfaaDoor
open Go.RowKit
theorem plcIn:(116 : TypeId) < Tryd.prog.types.size:=of_decide_eq_true (by kernel_rfl)
theorem plcLaw:Maps.Keyed Tryd.prog 116:=Maps.Keyed.of_law (deep_law_laid laidOutK (m:=2) (by omega) plcIn (by kernel_rfl) (by rw [Tryd.underlying116]))
theorem plc_keys:∀ k ∈ List.range 17,∀ n ∈ List.range 4,(keyOf Tryd.prog 116 (plc k n)).isSome=true:=by decide +kernel
theorem plc_key {k n:Nat} (hk:k<17) (hn:n<4):∃ l,keyOf Tryd.prog 116 (plc k n)=some l :=
 Option.isSome_iff_exists.1 (plc_keys k (List.mem_range.2 hk) n (List.mem_range.2 hn))
theorem GoodE.keys {es:Array MapEntry} (h:GoodE es):∀ e ∈ es.toList,∃ l,keyOf Tryd.prog 116 e.key=some l:=by
 intro e he
 obtain ⟨k,n,v,h1,h2,-⟩:=h e he
 rw [h2]
 exact plc_key (signV_lt h1).1 (signV_lt h1).2
theorem look_sign {w:World} {g:Nat} (h:Sg w g) (k n:Nat) (hk:k<17) (hn:n<4) :
  (Instr.lookup 97 (.map (some g)) (plc k n) true).run Tryd.prog w = .ok (.tuple #[.int .u8 (((signV k n).getD 0:Nat):Int),.bool (signV k n).isSome]) w:=by
 obtain ⟨es,c,hg,hE,hall⟩:=h
 obtain ⟨kl,hkey⟩:=plc_key hk hn
 rcases plcLaw.find w hkey es.toList hE.keys with ⟨h1,h2⟩ | ⟨j,e,h1,h2,h3⟩
 ·have hs:signV k n=none:=by
   cases hv:signV k n with
   | none=>rfl
   | some v =>
    obtain ⟨e,he,hek⟩:=hall k n v hv
    exact absurd hek (h2 e he)
  simp [Instr.lookup,run_underlying Tryd.underlying97,MapKept.run_getObj_map hg,plcLaw.check w es.isEmpty hkey,h1,zero_u8,hs,Result.andThen]
 ·obtain ⟨k',n',v,hv,hk',hval⟩:=hE e (List.mem_of_getElem? h2)
  obtain ⟨rfl,rfl⟩:=plc_inj (h3.symm.trans hk')
  simp [Instr.lookup,run_underlying Tryd.underlying97,MapKept.run_getObj_map hg,plcLaw.check w es.isEmpty hkey,h1,hval,hv,Result.andThen]
theorem put_sign {w:World} {g:Nat} {es:Array MapEntry} {c:Nat} (hg:w.heap[g]? = some (.map es c)) (hE:GoodE es) (k n v:Nat) (hv:signV k n=some v) :
  ∃ es' c',(Instr.mapUpdate 97 (.map (some g)) (plc k n) (.int .u8 (v:Int))).run Tryd.prog w = .ok () (ChangeMaps.setBlock w g (.map es' c'))∧GoodE es' ∧
   (∃ e ∈ es'.toList,e.key=plc k n)∧∀ x ∈ es.toList,∃ y ∈ es'.toList,y.key=x.key:=by
 obtain ⟨kl,hkey⟩:=plc_key (signV_lt hv).1 (signV_lt hv).2
 rcases plcLaw.find w hkey es.toList hE.keys with ⟨h1,h2⟩ | ⟨j,e,h1,h2,h3⟩
 ·refine ⟨es.push ⟨plc k n,.int .u8 (v:Int),c⟩,c+1,?_,?_,⟨⟨plc k n,.int .u8 (v:Int),c⟩,by simp,rfl⟩,fun x hx=>⟨x,by simp at hx ⊢;exact .inl hx,rfl⟩⟩
  ·simp [Instr.mapUpdate,run_underlying Tryd.underlying97,MapKept.run_getObj_map hg,plcLaw.check w false hkey,h1,MapKept.run_setObj_map _ hg,Result.andThen,ChangeMaps.setBlock]
  ·intro e he
   simp only [Array.toList_push,List.mem_append,List.mem_singleton] at he
   rcases he with he | rfl
   ·exact hE e he
   ·exact ⟨k,n,v,hv,rfl,rfl⟩
 ·have hj:es[j]? = some e:=by simpa using h2
  have hlist:(es.modify j (fun e'=>{ e' with key:=plc k n,val:=.int .u8 (v:Int) })).toList=es.toList.set j { e with key:=plc k n,val:=.int .u8 (v:Int) }:=by rw [Array.toList_modify,ChangeMaps.modify_eq_set _ _ _ _ h2]
  refine ⟨es.modify j (fun e'=>{ e' with key:=plc k n,val:=.int .u8 (v:Int) }),c,?_,?_,?_,?_⟩
  ·simp [Instr.mapUpdate,run_underlying Tryd.underlying97,MapKept.run_getObj_map hg,plcLaw.check w false hkey,h1,hj,h3,plcLaw.stays w hkey,MapKept.run_setObj_map _ hg,Result.andThen,ChangeMaps.setBlock]
  ·intro x hx
   rw [hlist] at hx
   rcases List.mem_or_eq_of_mem_set hx with hx | rfl
   ·exact hE x hx
   ·exact ⟨k,n,v,hv,rfl,rfl⟩
  ·have hjl:j<es.toList.length:=(List.getElem?_eq_some_iff.1 h2).1
   exact ⟨_,by rw [hlist];exact List.mem_set hjl _,rfl⟩
  ·intro x hx
   obtain ⟨i,hi⟩:=List.getElem?_of_mem hx
   by_cases hij:j=i
   ·subst hij
    rw [h2] at hi
    cases hi
    have hjl:j<es.toList.length:=(List.getElem?_eq_some_iff.1 h2).1
    exact ⟨_,by rw [hlist];exact List.mem_set hjl _,h3.symm⟩
   ·refine ⟨x,?_,rfl⟩
    rw [hlist]
    exact List.mem_of_getElem? (by rw [List.getElem?_set_ne hij];exact hi)
theorem put_step {W w:World} {ls:Array Bool} {i:Nat} (hS:SgS W ls w) (h0:SgM W w) (hi:i≠0) (k n v:Nat) (hv:signV k n=some v) (vi:Int) (hvi:(v:Int)=vi) :
  ∃ w',(Instr.mapUpdate 97 (.map (some W.heap.size)) (plc k n) (.int .u8 vi)).run Tryd.prog w = .ok () w'∧SgV W k n w'∧SgS W (ls.setIfInBounds i true) w'∧SgR W w w':=by
 subst hvi
 obtain ⟨hN,h | ⟨h1,es,c,hg,hE⟩⟩:=hS
 ·obtain ⟨es,c,h2⟩:=h0
  rw [← h.2,Array.getElem?_eq_none (Nat.le_refl _)] at h2;cases h2
 ·obtain ⟨es',c',hrun,hE',hhas,hold⟩:=put_sign hg hE k n v hv
  have hlt:W.heap.size<w.heap.size:=(Array.getElem?_eq_some_iff.1 hg).1
  have hnew:(ChangeMaps.setBlock w W.heap.size (.map es' c')).heap[W.heap.size]? = some (.map es' c'):=by
   simp [ChangeMaps.setBlock,hlt]
  refine ⟨_,hrun,⟨es',c',hnew,hhas⟩,⟨⟨hN.os,hN.tape,hN.output,by simp [ChangeMaps.setBlock];exact hN.size,fun b hb=>?_⟩,.inr ⟨?_,es',c',hnew,hE'⟩⟩,fun es2 c2 h2=>?_⟩
  ·simp only [ChangeMaps.setBlock]
   rw [Array.getElem?_setIfInBounds_ne (by omega)]
   exact hN.block b hb
  ·rw [getD_set_ne false hi];exact h1
  ·rw [hg] at h2
   cases h2
   exact ⟨es',c',hnew,hold⟩
set_option maxRecDepth 100000 in
set_option maxHeartbeats 1600000 in
theorem signs_any (w:World) :
  Calls Tryd.prog 41 #[] w fun e w'=>e = .returned (.map (some w.heap.size))∧Sg w' w.heap.size∧Nx w w':=by
 go_enter Tryd.func41,Tryd.ntmps41
 go_wp2_with fail
 have hmm:=@run_makeMap Tryd.prog
 refine RI.wp_region_N (RI.Vof [fun v x=>v = .map (some w.heap.size)∧SgM w x,fun v _=>v=plc 15 0,fun _ x=>SgV w 15 0 x,fun v _=>v=plc 15 1,fun _ x=>SgV w 15 1 x,fun v _=>v=plc 14 0,fun _ x=>SgV w 14 0 x,
  fun v _=>v=plc 14 1,fun _ x=>SgV w 14 1 x,fun v _=>v=plc 13 0,fun _ x=>SgV w 13 0 x,fun v _=>v=plc 13 1,fun _ x=>SgV w 13 1 x,fun v _=>v=plc 13 2,fun _ x=>SgV w 13 2 x,
  fun v _=>v = .map (some w.heap.size),fun v _=>v = .map (some w.heap.size)]) (SgS w) (SgR w) (by kernel_rfl) (by kernel_rfl) (by kernel_rfl) ?_ ?_ ?_ ?_
 ·refine RI.Vof.keeps ?_
  intro p hp v w1 w2 h1 h2
  simp only [List.mem_cons,List.not_mem_nil,or_false] at hp
  rcases hp with rfl | rfl | rfl | rfl | rfl | rfl | rfl | rfl | rfl | rfl | rfl | rfl | rfl | rfl | rfl | rfl | rfl <;> first | exact h1 | exact SgV.keep h1 h2 | exact ⟨h1.1,h1.2.keep h2⟩
 ·exact ⟨Nx.drawn w,.inl ⟨rfl,rfl⟩⟩
 ·refine ⟨?_,?_,?_,?_,?_,?_,?_,?_,?_,?_,?_,?_,?_,?_,?_,?_,?_,trivial⟩
  ·intro a x ls w1 hS hsz hl hin hout hd K hK
   obtain ⟨hw,hn⟩:=hS.first (by rw [hsz];decide) hl
   have h1:=hK (w1.alloc (.map #[] 0)) (.map (some w.heap.size)) ⟨rfl,_,_,by rw [← hw];exact heap_alloc_new w1 _⟩ (SgS.made (by rw [hsz];decide) hw hn) (SgR.made hw)
   clear hK hS hl hd hin hout hsz
   go_simp
   exact h1
  ·intro a x ls w1 hS hsz hl hin hout hd K hK
   have h1:=hK w1 (plc 15 0) rfl (hS.set _ (by decide)) (SgR.refl _ _)
   clear hK hS hl hd hin hout hsz
   go_simp
   exact h1
  ·intro a x ls w1 hS hsz hl hin hout hd K hK
   have hv0:=hd ⟨0,.data⟩ (by simp) rfl
   have e1:a.tmps.getD 1 undef = .map (some w.heap.size):=(hin 1 0 (by decide) (by show 1<10;decide)).trans hv0.1
   have e2:a.tmps.getD 2 undef=plc 15 0:=(hin 2 1 (by decide) (by show 2<10;decide)).trans (hd ⟨1,.data⟩ (by simp) rfl)
   obtain ⟨w2,hrun,hv,hS',hR⟩:=put_step (i:=2) hS hv0.2 (by decide) 15 0 60 rfl 60 rfl
   have h1:=hK w2 undef hv hS' hR
   clear hK hS hl hd hin hout hsz hv hS' hR hv0
   go_simp
   exact h1
  ·intro a x ls w1 hS hsz hl hin hout hd K hK
   have h1:=hK w1 (plc 15 1) rfl (hS.set _ (by decide)) (SgR.refl _ _)
   clear hK hS hl hd hin hout hsz
   go_simp
   exact h1
  ·intro a x ls w1 hS hsz hl hin hout hd K hK
   have hv0:=hd ⟨0,.data⟩ (by simp) rfl
   have e1:a.tmps.getD 1 undef = .map (some w.heap.size):=(hin 1 0 (by decide) (by show 1<10;decide)).trans hv0.1
   have e2:a.tmps.getD 3 undef=plc 15 1:=(hin 3 3 (by decide) (by show 3<10;decide)).trans (hd ⟨3,.data⟩ (by simp) rfl)
   obtain ⟨w2,hrun,hv,hS',hR⟩:=put_step (i:=4) hS hv0.2 (by decide) 15 1 62 rfl 62 rfl
   have h1:=hK w2 undef hv hS' hR
   clear hK hS hl hd hin hout hsz hv hS' hR hv0
   go_simp
   exact h1
  ·intro a x ls w1 hS hsz hl hin hout hd K hK
   have h1:=hK w1 (plc 14 0) rfl (hS.set _ (by decide)) (SgR.refl _ _)
   clear hK hS hl hd hin hout hsz
   go_simp
   exact h1
  ·intro a x ls w1 hS hsz hl hin hout hd K hK
   have hv0:=hd ⟨0,.data⟩ (by simp) rfl
   have e1:a.tmps.getD 1 undef = .map (some w.heap.size):=(hin 1 0 (by decide) (by show 1<10;decide)).trans hv0.1
   have e2:a.tmps.getD 4 undef=plc 14 0:=(hin 4 5 (by decide) (by show 4<10;decide)).trans (hd ⟨5,.data⟩ (by simp) rfl)
   obtain ⟨w2,hrun,hv,hS',hR⟩:=put_step (i:=6) hS hv0.2 (by decide) 14 0 60 rfl 60 rfl
   have h1:=hK w2 undef hv hS' hR
   clear hK hS hl hd hin hout hsz hv hS' hR hv0
   go_simp
   exact h1
  ·intro a x ls w1 hS hsz hl hin hout hd K hK
   have h1:=hK w1 (plc 14 1) rfl (hS.set _ (by decide)) (SgR.refl _ _)
   clear hK hS hl hd hin hout hsz
   go_simp
   exact h1
  ·intro a x ls w1 hS hsz hl hin hout hd K hK
   have hv0:=hd ⟨0,.data⟩ (by simp) rfl
   have e1:a.tmps.getD 1 undef = .map (some w.heap.size):=(hin 1 0 (by decide) (by show 1<10;decide)).trans hv0.1
   have e2:a.tmps.getD 5 undef=plc 14 1:=(hin 5 7 (by decide) (by show 5<10;decide)).trans (hd ⟨7,.data⟩ (by simp) rfl)
   obtain ⟨w2,hrun,hv,hS',hR⟩:=put_step (i:=8) hS hv0.2 (by decide) 14 1 62 rfl 62 rfl
   have h1:=hK w2 undef hv hS' hR
   clear hK hS hl hd hin hout hsz hv hS' hR hv0
   go_simp
   exact h1
  ·intro a x ls w1 hS hsz hl hin hout hd K hK
   have h1:=hK w1 (plc 13 0) rfl (hS.set _ (by decide)) (SgR.refl _ _)
   clear hK hS hl hd hin hout hsz
   go_simp
   exact h1
  ·intro a x ls w1 hS hsz hl hin hout hd K hK
   have hv0:=hd ⟨0,.data⟩ (by simp) rfl
   have e1:a.tmps.getD 1 undef = .map (some w.heap.size):=(hin 1 0 (by decide) (by show 1<10;decide)).trans hv0.1
   have e2:a.tmps.getD 6 undef=plc 13 0:=(hin 6 9 (by decide) (by show 6<10;decide)).trans (hd ⟨9,.data⟩ (by simp) rfl)
   obtain ⟨w2,hrun,hv,hS',hR⟩:=put_step (i:=10) hS hv0.2 (by decide) 13 0 60 rfl 60 rfl
   have h1:=hK w2 undef hv hS' hR
   clear hK hS hl hd hin hout hsz hv hS' hR hv0
   go_simp
   exact h1
  ·intro a x ls w1 hS hsz hl hin hout hd K hK
   have h1:=hK w1 (plc 13 1) rfl (hS.set _ (by decide)) (SgR.refl _ _)
   clear hK hS hl hd hin hout hsz
   go_simp
   exact h1
  ·intro a x ls w1 hS hsz hl hin hout hd K hK
   have hv0:=hd ⟨0,.data⟩ (by simp) rfl
   have e1:a.tmps.getD 1 undef = .map (some w.heap.size):=(hin 1 0 (by decide) (by show 1<10;decide)).trans hv0.1
   have e2:a.tmps.getD 7 undef=plc 13 1:=(hin 7 11 (by decide) (by show 7<10;decide)).trans (hd ⟨11,.data⟩ (by simp) rfl)
   obtain ⟨w2,hrun,hv,hS',hR⟩:=put_step (i:=12) hS hv0.2 (by decide) 13 1 44 rfl 44 rfl
   have h1:=hK w2 undef hv hS' hR
   clear hK hS hl hd hin hout hsz hv hS' hR hv0
   go_simp
   exact h1
  ·intro a x ls w1 hS hsz hl hin hout hd K hK
   have h1:=hK w1 (plc 13 2) rfl (hS.set _ (by decide)) (SgR.refl _ _)
   clear hK hS hl hd hin hout hsz
   go_simp
   exact h1
  ·intro a x ls w1 hS hsz hl hin hout hd K hK
   have hv0:=hd ⟨0,.data⟩ (by simp) rfl
   have e1:a.tmps.getD 1 undef = .map (some w.heap.size):=(hin 1 0 (by decide) (by show 1<10;decide)).trans hv0.1
   have e2:a.tmps.getD 8 undef=plc 13 2:=(hin 8 13 (by decide) (by show 8<10;decide)).trans (hd ⟨13,.data⟩ (by simp) rfl)
   obtain ⟨w2,hrun,hv,hS',hR⟩:=put_step (i:=14) hS hv0.2 (by decide) 13 2 62 rfl 62 rfl
   have h1:=hK w2 undef hv hS' hR
   clear hK hS hl hd hin hout hsz hv hS' hR hv0
   go_simp
   exact h1
  ·intro a x ls w1 hS hsz hl hin hout hd K hK
   have hv0:=hd ⟨0,.data⟩ (by simp) rfl
   have e1:a.tmps.getD 1 undef = .map (some w.heap.size):=(hin 1 0 (by decide) (by show 1<10;decide)).trans hv0.1
   have h1:=hK w1 (.map (some w.heap.size)) rfl (hS.set _ (by decide)) (SgR.refl _ _)
   clear hK hS hl hd hin hout hsz hv0
   go_simp
   exact h1
  ·intro a x ls w1 hS hsz hl hin hout hd K hK
   have e1:a.tmps.getD 9 undef = .map (some w.heap.size):=(hin 9 15 (by decide) (by show 9<10;decide)).trans (hd ⟨15,.data⟩ (by simp) rfl)
   have h1:=hK w1 (.map (some w.heap.size)) rfl (hS.set _ (by decide)) (SgR.refl _ _)
   clear hK hS hl hd hin hout hsz
   go_simp
   exact h1
 ·intro A x ls w1 hS hall hin hout hV HA
  have e0:A.tmps.getD 0 undef = .map (some w.heap.size):=(hin 0 16 (by decide) (by show 0<10;decide)).trans (hV 16 (by decide))
  have hN:=hS.1
  have hSg:Sg w1 w.heap.size:=by
   obtain ⟨-,h | ⟨-,es,c,hg,hE⟩⟩:=hS
   ·have:=hall 0 (by decide)
    rw [this] at h;cases h.1
   ·refine ⟨es,c,hg,hE,?_⟩
    have key:∀ {k n:Nat},SgV w k n w1→∃ e ∈ es.toList,e.key=plc k n:=by
     intro k n ⟨es',c',hg',h⟩
     rw [hg] at hg'
     cases hg'
     exact h
    intro k n v hv
    unfold signV at hv
    have k0:=key (hV 2 (by decide))
    have k1:=key (hV 4 (by decide))
    have k2:=key (hV 6 (by decide))
    have k3:=key (hV 8 (by decide))
    have k4:=key (hV 10 (by decide))
    have k5:=key (hV 12 (by decide))
    have k6:=key (hV 14 (by decide))
    split at hv
    ·rename_i h
     obtain ⟨h | h | h,rfl⟩:=h <;> subst h <;> assumption
    ·split at hv
     ·rename_i h
      obtain ⟨rfl,rfl⟩:=h
      assumption
     ·split at hv
      ·rename_i h
       obtain ⟨h | h,rfl⟩ | ⟨rfl,rfl⟩:=h
       ·subst h;assumption
       ·subst h;assumption
       ·assumption
      ·cases hv
  have hdf:A.defers=[]:=by rw [HA.out]
  clear hV hall hin hout HA hS
  go_wp2_with fail
  exact bodyPost_ret (v:=.map (some w.heap.size)) (by simp [results,Tryd.results41,go_sem,← e0]) hdf ⟨rfl,hSg,hN⟩
end Go.Proofs.YtnfelopknfdpfaaDoor
namespace Go.Proofs.YtnfelopknfdpfaaDoor
end Go.Proofs.YtnfelopknfdpfaaDoor
namespace Go.Proofs.YtnfelopknfdpfaaDoor
open Go.RowKit
structure Fr (b:Nat) (v:Value) (w:World) (v':Value) (w':World):Prop where
 os:w'.os=w.os
 tape:w'.tape=w.tape
 output:w'.output=w.output
 size:w.heap.size≤w'.heap.size
 block:∀ k,k<w.heap.size→k≠b→v.ownBlock≠some k→w'.heap[k]? = w.heap[k]?
 own:∀ k,v'.ownBlock=some k→v.ownBlock=some k∨w.heap.size≤k
theorem Fr.refl (b:Nat) (v:Value) (w:World):Fr b v w v w:=⟨rfl,rfl,rfl,Nat.le_refl _,fun _ _ _ _=>rfl,fun _ h=>.inl h⟩
theorem Fr.trans {b:Nat} {v v1 v2:Value} {x y z:World} (h:Fr b v x v1 y) (k:Fr b v1 y v2 z):Fr b v x v2 z :=
  ⟨k.os.trans h.os,k.tape.trans h.tape,k.output.trans h.output,Nat.le_trans h.size k.size,
   fun i hi hb hv=>(k.block i (Nat.lt_of_lt_of_le hi h.size) hb (fun e=>(h.own i e).elim hv (by omega))).trans (h.block i hi hb hv),
   fun i e=>(k.own i e).elim (h.own i) (fun h'=>.inr (Nat.le_trans h.size h'))⟩
theorem Fr.oth {b:Nat} {w w':World} (h:Oth b w w') (v:Value):Fr b v w v w':=⟨h.os,h.tape,h.output,h.size,fun k hk hb _=>h.block k hk hb,fun _ h=>.inl h⟩
theorem Fr.nx {w w':World} (h:Nx w w') (b:Nat) (v:Value):Fr b v w v w':=⟨h.os,h.tape,h.output,h.size,fun k hk _ _=>h.block k hk,fun _ h=>.inl h⟩
theorem Fr.set (w:World) (b i:Nat) (u v:Value):Fr b v w v (w.setCell ⟨b,i,none⟩ u):=Fr.oth (Oth.set w b i u) v
end Go.Proofs.YtnfelopknfdpfaaDoor
namespace Go.Proofs.YtnfelopknfdpfaaDoor
open Go.RowKit
theorem Fr.blk {b B g:Nat} {v v':Value} {w w':World} {cs:Array Value} {T:TypeId} (h:Fr b v w v' w') (k:Blk w B g cs T) (hb:g≠b) (hv:v.ownBlock≠some g):Blk w' B g cs T :=
 ⟨k.1,by rw [h.block g k.lt hb hv];exact k.2⟩
theorem Fr.sg {b g:Nat} {v v':Value} {w w':World} (h:Fr b v w v' w') (k:Sg w g) (hb:g≠b) (hv:v.ownBlock≠some g):Sg w' g:=by
 obtain ⟨es,c,hg,h1,h2⟩:=k
 refine ⟨es,c,?_,h1,h2⟩
 rw [h.block g ?_ hb hv]
 ·exact hg
 ·exact (Array.getElem?_eq_some_iff.1 hg).1
theorem Fr.maxC {b:Nat} {v v':Value} {w w':World} (h:Fr b v w v' w') (k:MaxC w) (hb:3≠b) (hv:v.ownBlock≠some 3):MaxC w':=by
 obtain ⟨m,hm⟩:=k
 refine ⟨m,?_⟩
 have:=h.block _ (World.block_lt_of_cell? w _ hm) hb hv
 rw [← hm]
 unfold World.cell?
 simp only
 rw [this]
theorem Fr.to {b:Nat} {v v':Value} {w w1 w':World} (h:Fr b v w1 v' w') (hn:Nx w w1) (hb:w.heap.size≤b) (hv:∀ k,v.ownBlock=some k→w.heap.size≤k):Nx w w' :=
 ⟨h.os.trans hn.os,h.tape.trans hn.tape,h.output.trans hn.output,Nat.le_trans hn.size h.size,fun k hk =>
  (h.block k (Nat.lt_of_lt_of_le hk hn.size) (by omega) (fun e=>by have:=hv k e;omega)).trans (hn.block k hk)⟩
theorem Fr.mono {b:Nat} {v v':Value} {w w1 w':World} (h:Fr b v w1 v' w') (hn:Nx w w1):Fr b v w v' w':=(Fr.nx hn b v).trans h
theorem Fr.put {b g:Nat} {v v':Value} {w w':World} (h:Fr b v w v' w') (hg:w.heap.size≤g) (i:Nat) (u:Value):Fr b v w v' (w'.setCell ⟨g,i,none⟩ u) :=
 ⟨h.os,h.tape,h.output,by simp [World.setCell];exact h.size,fun k hk hb hv=>by simp only [World.setCell];rw [Array.getElem?_modify,if_neg (by omega)];exact h.block k hk hb hv,h.own⟩
def strC (s:ByteArray):Array Value:=#[.string s]
theorem strC_size (s:ByteArray):(strC s).size=1:=rfl
def OwnN (w:World) (B:Nat) (v:Value) (xs:List ByteArray):Prop:=OwnS strC 1 9 w B v xs
theorem OwnN.own {w:World} {B:Nat} {v:Value} {xs:List ByteArray} (h:OwnN w B v xs) (k:Nat) (e:v.ownBlock=some k):B≤k∧k<w.heap.size:=by
 have:=World.ownsRow.lt h k e
 exact ⟨this.1,this.2⟩
theorem OwnN.ne {w:World} {B B' g:Nat} {v:Value} {xs:List ByteArray} {cs:Array Value} {T:TypeId} (h:OwnN w B v xs) (k:Blk w B' g cs T) (hT:T≠9):v.ownBlock≠some g:=fun e=>by
 obtain ⟨h1,h2⟩:=h
 rcases h2 with ⟨rfl,_⟩ | ⟨g',cap,cur,rfl,hg,hh,r⟩
 ·cases e
 ·obtain rfl:g'=g:=by simpa [Value.ownBlock] using e
  have:=k.2
  rw [hh] at this
  simp only [Option.some.injEq,Obj.cells.injEq] at this
  exact hT this.2.1.symm
theorem OwnN.keep {w w':World} {B:Nat} {v:Value} {xs:List ByteArray} (h:OwnN w B v xs) (hk:∀ k,v.ownBlock=some k→w'.heap[k]? = w.heap[k]?):OwnN w' B v xs:=by
 obtain ⟨h1,h2⟩:=h
 refine ⟨h1,?_⟩
 rcases h2 with h2 | ⟨g,cap,cur,hv,hg,hh,r⟩
 ·exact .inl h2
 ·refine .inr ⟨g,cap,cur,hv,hg,?_,r⟩
  rw [hk g (by rw [hv];rfl)];exact hh
end Go.Proofs.YtnfelopknfdpfaaDoor
namespace Go.Proofs.YtnfelopknfdpfaaDoor
open Go.RowKit
theorem Fr.tab {b:Nat} {v v':Value} {w w':World} (h:Fr b v w v' w') (k:TabK w) (hb:2≠b) (hv:v.ownBlock≠some 2):TabK w':=by
 obtain ⟨t,fr,hg⟩:=k
 refine ⟨t,fr,?_⟩
 rw [h.block _ ?_ hb hv]
 ·exact hg
 ·exact (Array.getElem?_eq_some_iff.1 hg).1
def CurK (w:World) (b:Nat) (s:ByteArray) (at_ d dp:Int) (v:Value) (sb:Nat):Prop :=
 Blk w 0 b #[.string s,.int .i64 at_,.int .i64 d,.int .i64 dp,v,.map (some sb)] 99
end Go.Proofs.YtnfelopknfdpfaaDoor
namespace Go.Proofs.YtnfelopknfdpfaaDoor
open Go.RowKit
def atK (b:Nat) (w:World):Nat:=match w.cell? ⟨b,1,none⟩ with
 | some (.int _ n)=>n.toNat
 | _=>0
theorem Tx.byteK {s:ByteArray} {l:List UInt8} (h:Tx s l) (o:Nat) (c:UInt8) (r:List UInt8) (hd:l.drop o=c :: r):o<l.length∧∃ hp:o<s.size,s[o]'hp=c:=by
 have h1:o<l.length:=by
  rcases Nat.lt_or_ge o l.length with h | h
  ·exact h
  ·rw [List.drop_eq_nil_iff.2 h] at hd;cases hd
 obtain ⟨hp,e⟩:=h.idx o h1
 refine ⟨h1,hp,?_⟩
 rw [e]
 have e2:=List.drop_eq_getElem_cons h1
 rw [e2] at hd
 injection hd
theorem drop_cons {l r:List UInt8} {o:Nat} {c:UInt8} (hd:l.drop o=c :: r):l.drop (o+1)=r:=by
 rw [← List.drop_drop,hd];rfl
end Go.Proofs.YtnfelopknfdpfaaDoor
