/- Rows of words that a call owns; worlds that changed in one block alone. Plain lemmas. Names as parts between full stops. Plain lemmas. The contracts of kind's small functions. A region that draws its order: an invariant over what has been carried out serves every order. Plain lemmas over any program. -/
import Derived.Test.YtbblfkdmkpkmcaaGreatDoorG00
import Derived.Maps.AppendAt
import Derived.Test.YtbblfkdmkpkmcaaGreatDoorG02
import Derived.Test.YtbblfkdmkpkmcaaGreatDoorG01
import Derived.Lib.IndexMore
import Derived.Test.YtbblfkdmkpkmcaaGreatDoorProg
import Derived.Test.YtbblfkdmkpkmcaaGreatDoorShelf
import Derived.Lib.SmallJoins
import Derived.Laws.Rows
import Derived.Laws.ResultCell
import Derived.IntWalk
set_option linter.unusedVariables false
set_option linter.unusedSimpArgs false
set_option linter.unnecessarySimpa false
namespace Go.Proofs.YtbblfkdmkpkmcaaGreatDoor
open Go.RowKit
theorem Blk.put5 {w:World} {B g:Nat} {T:TypeId} {a0 a1 a2 a3 a4 v0 v1 v2 v3 v4:Value} (h:Blk w B g #[a0,a1,a2,a3,a4] T) :
  Blk (((((w.setCell ⟨g,0,none⟩ v0).setCell ⟨g,1,none⟩ v1).setCell ⟨g,2,none⟩ v2).setCell ⟨g,3,none⟩ v3).setCell ⟨g,4,none⟩ v4) B g #[v0,v1,v2,v3,v4] T :=
 ((((h.put 0 v0).put 1 v1).put 2 v2).put 3 v3).put 4 v4
theorem Nx.put5 {w w':World} {g:Nat} {v0 v1 v2 v3 v4:Value} (h:Nx w w') (hk:w.heap.size≤g) :
  Nx w (((((w'.setCell ⟨g,0,none⟩ v0).setCell ⟨g,1,none⟩ v1).setCell ⟨g,2,none⟩ v2).setCell ⟨g,3,none⟩ v3).setCell ⟨g,4,none⟩ v4) :=
 ((((h.put' hk 0 v0).put' hk 1 v1).put' hk 2 v2).put' hk 3 v3).put' hk 4 v4
def tokC (x:TokV):Array Value:=#[.int .i64 x.k,.string ⟨x.t.toArray⟩,.int .i64 x.n,.int .u64 x.d,.int .i64 x.p]
def tokL (xs:List TokV):List Value:=xs.flatMap fun x=>(tokC x).toList
theorem tokL_length (xs:List TokV):(tokL xs).length=xs.length * 5:=by
 induction xs with
 | nil=>rfl
 | cons x xs ih =>
  have:tokL (x :: xs)=(tokC x).toList++tokL xs:=rfl
  rw [this,List.length_append,ih]
  simp [tokC];omega
theorem tokL_snoc (xs:List TokV) (x:TokV):tokL (xs++[x])=tokL xs++(tokC x).toList:=by
 unfold tokL;simp
theorem tokL_get (xs:List TokV) (i:Nat) (hi:i<xs.length) (j:Nat) (hj:j<5):(tokL xs)[i * 5+j]? = (tokC xs[i])[j]?:=by
 induction xs generalizing i with
 | nil=>simp at hi
 | cons x xs ih =>
  have e:tokL (x :: xs)=(tokC x).toList++tokL xs:=rfl
  have e5:(tokC x).toList.length=5:=rfl
  rw [e]
  cases i with
  | zero =>
   rw [List.getElem?_append_left (by omega),Nat.zero_mul,Nat.zero_add]
   simp
  | succ i =>
   rw [List.getElem?_append_right (by omega),e5]
   have:(i+1) * 5+j - 5=i * 5+j:=by omega
   rw [this,ih i (by simpa using hi)]
   simp
theorem tokL_one (xs:List TokV):∀ u ∈ tokL xs,u.oneCell'=true:=by
 intro u hu
 obtain ⟨x,_,hx⟩:=List.mem_flatMap.1 hu
 simp [tokC] at hx
 rcases hx with rfl | rfl | rfl | rfl | rfl <;> rfl
def OwnT (w:World) (B:Nat) (v:Value) (xs:List TokV):Prop:=w.ownsRow B 68 5 v xs.length (tokL xs)
def RdT (w:World) (A:Option Addr) (xs:List TokV):Prop :=
 0<xs.length→∃ g,A=some ⟨g,0,none⟩∧g<w.heap.size∧∀ i (h:i<xs.length) j,j<5→w.cell? ⟨g,i * 5+j,none⟩=(tokC xs[i])[j]?
theorem OwnT.nil_ (w:World) (B:Nat):OwnT w B (.slice none 0 0) []:=World.ownsRow_nil w B _ _
theorem OwnT.alloc {w:World} {B:Nat} {v:Value} {xs:List TokV} (h:OwnT w B v xs) (o:Obj):OwnT (w.alloc o) B v xs:=World.ownsRow.alloc h o
theorem OwnT.less {w:World} {B B':Nat} {v:Value} {xs:List TokV} (h:OwnT w B v xs) (hB:B'≤B):OwnT w B' v xs:=by
 obtain ⟨h1,h2⟩:=h
 refine ⟨h1,?_⟩
 rcases h2 with h2 | ⟨g,cap,cur,hv,hg,r⟩
 ·exact .inl h2
 ·exact .inr ⟨g,cap,cur,hv,by omega,r⟩
theorem OwnT.oth {w w':World} {B b:Nat} {v:Value} {xs:List TokV} (h:OwnT w B v xs) (ho:Oth b w w') (hb:b<B):OwnT w' B v xs:=by
 obtain ⟨h1,h2⟩:=h
 refine ⟨h1,?_⟩
 rcases h2 with h2 | ⟨g,cap,cur,hv,hg,hh,r⟩
 ·exact .inl h2
 ·refine .inr ⟨g,cap,cur,hv,hg,?_,r⟩
  rw [ho.block g ?_ (by omega)];exact hh
  rcases Nat.lt_or_ge g w.heap.size with h | h
  ·exact h
  ·rw [Array.getElem?_eq_none h] at hh;cases hh
theorem OwnT.nx {w w':World} {B:Nat} {v:Value} {xs:List TokV} (h:OwnT w B v xs) (ho:Nx w w'):OwnT w' B v xs:=by
 obtain ⟨h1,h2⟩:=h
 refine ⟨h1,?_⟩
 rcases h2 with h2 | ⟨g,cap,cur,hv,hg,hh,r⟩
 ·exact .inl h2
 ·refine .inr ⟨g,cap,cur,hv,hg,?_,r⟩
  rw [ho.block g ?_];exact hh
  rcases Nat.lt_or_ge g w.heap.size with h | h
  ·exact h
  ·rw [Array.getElem?_eq_none h] at hh;cases hh
theorem OwnT.sl {w:World} {B:Nat} {v:Value} {xs:List TokV} (h:OwnT w B v xs):∃ A c,v = .slice A xs.length c∧xs.length≤c∧c≤maxLen∧RdT w A xs:=by
 obtain ⟨h1,h2⟩:=h
 rcases h2 with ⟨rfl,h0⟩ | ⟨g,cap,cur,rfl,hg,hh,hn,hm,hs,ht⟩
 ·have:xs=[]:=List.eq_nil_of_length_eq_zero h0
  subst this
  exact ⟨none,0,rfl,Nat.le_refl _,Nat.zero_le _,fun h=>by simp at h⟩
 ·refine ⟨_,cap,rfl,hn,hm,fun _=>⟨g,rfl,?_,fun i hi j hj=>?_⟩⟩
  ·rcases Nat.lt_or_ge g w.heap.size with h | h
   ·exact h
   ·rw [Array.getElem?_eq_none h] at hh;cases hh
  ·rw [cell_of_row w g (i * 5+j) cur _ (0,0) hh,← tokL_get xs i hi j hj,← ht,List.getElem?_take,if_pos (by omega)]
   simp
theorem RdT.nx {w w':World} {A:Option Addr} {xs:List TokV} (h:RdT w A xs) (hn:Nx w w'):RdT w' A xs:=fun h0=>by
 obtain ⟨g,e,hg,hc⟩:=h h0
 refine ⟨g,e,Nat.lt_of_lt_of_le hg hn.size,fun i hi j hj=>?_⟩
 rw [← hc i hi j hj]
 unfold World.cell?
 simp only
 rw [hn.block g hg]
theorem RdT.at_ {w:World} {A:Option Addr} {xs:List TokV} (h:RdT w A xs) (i:Nat) (hi:i<xs.length):∃ g,A=some ⟨g,0,none⟩∧g<w.heap.size ∧
  w.cell? ⟨g,i * 5+0,none⟩=some (.int .i64 (xs[i].k:Nat))∧w.cell? ⟨g,i * 5+1,none⟩=some (.string ⟨xs[i].t.toArray⟩)∧w.cell? ⟨g,i * 5+2,none⟩=some (.int .i64 xs[i].n) ∧
  w.cell? ⟨g,i * 5+3,none⟩=some (.int .u64 (xs[i].d:Nat))∧w.cell? ⟨g,i * 5+4,none⟩=some (.int .i64 (xs[i].p:Nat)):=by
 obtain ⟨g,e,hg,hc⟩:=h (by omega)
 exact ⟨g,e,hg,hc i hi 0 (by decide),hc i hi 1 (by decide),hc i hi 2 (by decide),hc i hi 3 (by decide),hc i hi 4 (by decide)⟩
theorem info_tok:(Tryz.prog.info? 68).map (fun i=>(i.zero,i.size,i.bytes))=some (some (.agg #[.int .i64 0,.string ⟨#[]⟩,.int .i64 0,.int .u64 0,.int .i64 0]),5,48):=by kernel_rfl
section
variable (w:World) {ops:Array Oper} {rest:List Oper} {o:Oper} {a:Act} {Q:Exit→Act→World→Prop}
theorem wpList_appT (hgd:o.guard=none) (s x:Operand) (ho:o.op = .call { callee:=.builtin .append,args:=#[s,x],argTypes:=#[64,64] })
  (B:Nat) (v:Value) (xs:List TokV) (y:TokV) (hs:a.eval s=v) (hown:OwnT w B v xs) (g:Nat) (hx:a.eval x = .slice (some ⟨g,0,none⟩) 1 1)
  (hy:∀ j,j<5→w.cell? ⟨g,j,none⟩=(tokC y)[j]?) (h63:(xs.length:Int)≤100000) (hB:B≤w.heap.size)
  (h:∀ v' w',OwnT w' B v' (xs++[y])→Below B w w'→(∀ k,k<w.heap.size→v.ownBlock≠some k→w'.heap[k]? = w.heap[k]?)→wpList Tryz.prog ops Q rest (a.put o.dst v') w'):wpList Tryz.prog ops Q (o :: rest) a w:=by
 refine wpList_plain hgd fun K hK=>?_
 obtain ⟨i,hi,hz,h1,h2⟩:=info_parts info_tok
 have hcells:∀ j u,((tokC y).toList)[j]? = some u→w.cell? ((⟨g,0,none⟩:Addr).add j)=some u:=by
  intro j u hu
  have hj:j<5:=by
   rcases Nat.lt_or_ge j 5 with h | h
   ·exact h
   ·rw [List.getElem?_eq_none (by simpa [tokC] using h)] at hu;cases hu
  rw [Addr.add_lit,Nat.zero_add,hy j hj]
  rw [← hu];simp
 have hone:∀ u ∈ (tokC y).toList,u.oneCell'=true:=by
  intro u hu
  simp [tokC] at hu
  rcases hu with rfl | rfl | rfl | rfl | rfl <;> rfl
 obtain ⟨v',w',hrun,ho',hg,_⟩:=run_append_own_at (P:=Tryz.prog) w B 64 o.type 68 i _ 5 48 Tryz.underlying64 hi hz h1 h2 rfl (by decide) v xs.length (tokL xs) hown ⟨g,0,none⟩ 1 1 (tokC y).toList rfl hcells hone (by simp [maxLen];omega) (by omega) hB
 have hbel:Below B w w':=(Below.refl B w).grown hg hB fun k hk=>(World.ownsRow.lt hown k hk).1
 have hown':OwnT w' B v' (xs++[y]):=by
  unfold OwnT
  rw [List.length_append,tokL_snoc]
  exact ho'
 have:=hK _ _ (h v' w' hown' hbel (fun k hk hne=>hg.block k hk (Ne.symm hne)))
 unfold Oper.wp execOp
 simp only [ho,resolve,invoke,builtin,Sem.run_bind,Sem.run_pure,Result.andThen_ok,List.map_toArray,List.map_cons,List.map_nil,hs,hx,hrun]
 exact this
end
end Go.Proofs.YtbblfkdmkpkmcaaGreatDoor
namespace Go.Proofs.YtbblfkdmkpkmcaaGreatDoor
def isPartS:List UInt8→Bool
 | []=>false
 | c :: _=>!isDig c
theorem partN_le (l:List UInt8):partN l≤l.length:=spanN_le _ l
theorem partN_cons (c:UInt8) (l:List UInt8):partN (c :: l)=if c=46 then 0 else partN l+1:=by
 have e:partN (c :: l)=if decide (c≠46)=true then partN l+1 else 0:=rfl
 rw [e]
 by_cases h:c=46 <;> simp [h]
theorem index_dot (l:List UInt8):Lib.index l [46]=if partN l<l.length then (partN l:Int) else -1:=by
 induction l with
 | nil=>rfl
 | cons c l ih =>
  unfold Lib.index
  rw [ih,partN_cons]
  by_cases h:c=46
  ·subst h;simp [List.isPrefixOf]
  ·have h':([46].isPrefixOf (c :: l))=false:=by simp [List.isPrefixOf];exact fun e=>h e.symm
   rw [if_neg (by simp [h'])]
   have hl:=partN_le l
   by_cases hlt:partN l<l.length
   ·rw [if_pos hlt,if_neg (by simp),if_neg h,if_pos (by simpa using hlt)];simp
   ·rw [if_neg hlt,if_pos (by simp),if_neg h,if_neg (by simpa using hlt)]
theorem cut_dot (l:List UInt8):Lib.cut l [46]=(l.take (partN l),if partN l<l.length then l.drop (partN l+1) else [],decide (partN l<l.length)):=by
 unfold Lib.cut
 rw [index_dot]
 have hl:=partN_le l
 by_cases hlt:partN l<l.length
 ·rw [if_pos hlt,if_pos (by simp),if_pos hlt,decide_eq_true hlt];simp
 ·rw [if_neg hlt,if_neg (by simp),if_neg hlt,decide_eq_false hlt,List.take_of_length_le (by omega)]
theorem farF_false (l:List UInt8):farF false l=if partN l<l.length then farF true (l.drop (partN l+1)) else true:=by
 induction l with
 | nil=>rfl
 | cons c l ih =>
  have e:farF false (c :: l)=farF (decide (c=46)) l:=rfl
  rw [e,partN_cons]
  by_cases h:c=46
  ·subst h;rw [if_pos rfl,if_pos (by simp)];rfl
  ·rw [decide_eq_false h,ih,if_neg h,List.length_cons,List.drop_succ_cons]
   by_cases h2:partN l<l.length
   ·rw [if_pos h2,if_pos (by omega)]
   ·rw [if_neg h2,if_neg (by omega)]
theorem farF_true (l:List UInt8):farF true l=(isPartS (l.take (partN l)) && (if partN l<l.length then farF true (l.drop (partN l+1)) else true)):=by
 cases l with
 | nil=>rfl
 | cons c l =>
  have e:farF true (c :: l)=((!isDig c && decide (c≠46)) && farF false l):=rfl
  rw [e,partN_cons]
  by_cases h:c=46
  ·subst h;rw [if_pos rfl];rfl
  ·rw [farF_false,if_neg h,List.length_cons,List.drop_succ_cons,List.take_succ_cons]
   have e2:isPartS (c :: l.take (partN l)) = !isDig c:=rfl
   rw [e2,show decide (c≠46)=true from decide_eq_true h,Bool.and_true]
   by_cases h2:partN l<l.length
   ·rw [if_pos h2,if_pos (by omega)]
   ·rw [if_neg h2,if_neg (by omega)]
end Go.Proofs.YtbblfkdmkpkmcaaGreatDoor
namespace Go.Proofs.YtbblfkdmkpkmcaaGreatDoor
open Go.RowKit
set_option maxRecDepth 100000 in
set_option maxHeartbeats 800000 in
theorem kisLetter_any (c:UInt8) (w:World) :
  Calls Tryz.prog 219 #[.int .u8 (c.toNat:Int)] w fun e w'=>e = .returned (.bool (isLetS c))∧w'=w:=by
 go_enter Tryz.func219,Tryz.ntmps219
 go_wp2_with fail
 all_goals
  go_ret
  refine ⟨congrArg (fun b=>Ending.returned (Value.bool b)) ?_,rfl⟩
  rw [Bool.eq_iff_iff]
  simp [isLetS]
  omega
set_option maxRecDepth 100000 in
set_option maxHeartbeats 800000 in
theorem kisDigit_any (c:UInt8) (w:World) :
  Calls Tryz.prog 220 #[.int .u8 (c.toNat:Int)] w fun e w'=>e = .returned (.bool (isDig c))∧w'=w:=by
 go_enter Tryz.func220,Tryz.ntmps220
 go_wp2_with fail
 all_goals
  go_ret
  refine ⟨congrArg (fun b=>Ending.returned (Value.bool b)) ?_,rfl⟩
  rw [Bool.eq_iff_iff]
  simp [isDig]
  omega
set_option maxRecDepth 100000 in
set_option maxHeartbeats 1600000 in
theorem kisOfName_any (c:UInt8) (w:World) :
  Calls Tryz.prog 194 #[.int .u8 (c.toNat:Int)] w fun e w'=>e = .returned (.bool (isNmS c))∧w'=w:=by
 go_enter Tryz.func194,Tryz.ntmps194
 go_wp2_with fail
 refine (kisLetter_any c w).mono ?_;rintro e w' ⟨rfl,rfl⟩
 obtain ⟨L,HL⟩:∃ L,Hid (isLetS c=L):=⟨_,rfl⟩
 rw [HL.out]
 cases L
 ·go_wp2_with fail
  refine (kisDigit_any c _).mono ?_;rintro e w' ⟨rfl,rfl⟩
  obtain ⟨D,HD⟩:∃ D,Hid (isDig c=D):=⟨_,rfl⟩
  rw [HD.out]
  cases D
  ·go_wp2_with fail
   all_goals
    go_ret
    refine ⟨congrArg (fun b=>Ending.returned (Value.bool b)) ?_,rfl⟩
    rw [Bool.eq_iff_iff]
    simp [isNmS,HL.out,HD.out]
    omega
  ·go_wp2_with fail
   go_ret
   refine ⟨congrArg (fun b=>Ending.returned (Value.bool b)) ?_,rfl⟩
   simp [isNmS,HL.out,HD.out]
 ·go_wp2_with fail
  go_ret
  refine ⟨congrArg (fun b=>Ending.returned (Value.bool b)) ?_,rfl⟩
  simp [isNmS,HL.out]
set_option maxRecDepth 100000 in
set_option maxHeartbeats 800000 in
theorem isPart_any (s:ByteArray) (l:List UInt8) (w:World) (hl:Tx s l) :
  Calls Tryz.prog 197 #[.string s] w fun e w'=>e = .returned (.bool (isPartS l))∧w'=w:=by
 cases l with
 | nil =>
  have e1:=hl.nil.1
  have e2:s.toList.isEmpty=true:=by rw [e1];rfl
  have HL:=Lib.hid hl
  clear hl
  go_enter Tryz.func197,Tryz.ntmps197
  go_wp2_with fail
  go_ret
  exact ⟨rfl,rfl⟩
 | cons c l =>
  obtain ⟨hp,t,e0,e1,ht,e2,e3⟩:=hl.cons
  have HL:=Lib.hid hl
  clear hl ht e1
  go_enter Tryz.func197,Tryz.ntmps197
  go_wp2_with fail
  refine (kisDigit_any c w).mono ?_;rintro e w' ⟨rfl,rfl⟩
  go_wp2_with fail
  go_ret
  exact ⟨rfl,rfl⟩
theorem wpList_bytes {P:Program} (w:World) {ops:Array Oper} {rest:List Oper} {o:Oper} {a:Act} {Q:Exit→Act→World→Prop} {src dst e:TypeId} (hgd:o.guard=none) (x:Operand) (ho:o.op = .convert src dst x) (hs:P.underlying src=some .string) (hd:P.underlying dst=some (.slice e)) (he:P.underlying e=some (.int .u8))
  (s:ByteArray) (l:List UInt8) (hl:Tx s l) (hx:a.eval x = .string s)
  (h:∀ c w',Rd bv w' (some ⟨w.heap.size,0,none⟩) l→Nx w w'→wpList P ops Q rest (a.put o.dst (.slice (some ⟨w.heap.size,0,none⟩) l.length c)) w'):wpList P ops Q (o :: rest) a w:=by
 refine wpList_plain hgd fun K hK=>?_
 have hrun:=Lib.run_convert_string_bytes (P:=P) w src dst e s hs hd he
 have hn:Nx w (Lib.bytesWorld w e s):=Joins.below_bytesWorld _ w e s (Nat.le_refl _)
 have hr:Rd bv (Lib.bytesWorld w e s) (some ⟨w.heap.size,0,none⟩) l:=by
  intro h0
  refine ⟨w.heap.size,0,rfl,by rw [Lib.bytesWorld_size];omega,fun j hj=>?_⟩
  rw [Nat.zero_add,Lib.bytesWorld_cell w e s j (by rw [hl.size];exact hj),show s.data.toList=l from hl]
  simp [bv,hj]
 have:=hK _ _ (h (grownCap w s.size 0 e) _ hr hn)
 unfold Oper.wp execOp
 simp only [ho,Sem.run_bind,Sem.run_pure,Result.andThen_ok,hx,hrun]
 rw [hl.size] at *
 exact this
set_option maxRecDepth 100000 in
set_option maxHeartbeats 800000 in
theorem fresh_any (s:ByteArray) (w:World) :
  Calls Tryz.prog 76 #[.string s] w fun e w'=>e = .returned (.string s)∧Nx w w':=by
 obtain ⟨l,hl⟩:∃ l,Tx s l:=⟨_,rfl⟩
 have he:=Lib.hid hl.eq
 go_enter Tryz.func76,Tryz.ntmps76
 go_wp2_with (first
  | (refine wpList_bytes _ (o:=⟨some 4,_,_,_,_,_⟩) rfl _ rfl Tryz.underlying9 Tryz.underlying34 Tryz.underlying5 s l hl rfl ?_;intro c1 w1 hr1 hw1)
  | (refine wpList_str _ (o:=⟨some 5,_,_,_,_,_⟩) rfl _ rfl Tryz.underlying34 Tryz.underlying5 Tryz.underlying9 _ l _ rfl hr1 ?_;intro t HT ht1 ht2))
 go_ret
 rw [HT.out,← he.out]
 exact ⟨rfl,hw1⟩
def kwB (k:Nat):ByteArray:=⟨(wordK k).toArray⟩
def kwV:Array Value:=#[.string (kwB 0),.string (kwB 1),.string (kwB 2),.string (kwB 3),.string (kwB 4),.string (kwB 5),.string (kwB 6),.string (kwB 7),.string (kwB 8),.string (kwB 9),.string (kwB 10),.string (kwB 11),.string (kwB 12),.string (kwB 13),.string (kwB 14),.string (kwB 15),.string (kwB 16)]
def TabK (w:World):Prop:=∃ t fr,w.heap[1]? = some (.cells kwV t fr)
theorem TabK.nx {w w':World} (h:TabK w) (hn:Nx w w'):TabK w':=by
 obtain ⟨t,fr,h⟩:=h
 refine ⟨t,fr,?_⟩
 rw [hn.block _ ?_]
 ·exact h
 ·rcases Nat.lt_or_ge 1 w.heap.size with h1 | h1
  ·exact h1
  ·rw [Array.getElem?_eq_none h1] at h;cases h
theorem kwV_at (i:Nat) (h:i<17):kwV[i]? = some (.string (kwB i)):=by
 have h':i ∈ List.range 17:=List.mem_range.2 h
 simp only [List.range,List.range.loop,List.mem_cons,List.not_mem_nil,or_false] at h'
 rcases h' with rfl | rfl | rfl | rfl | rfl | rfl | rfl | rfl | rfl | rfl | rfl | rfl | rfl | rfl | rfl | rfl | rfl <;> rfl
theorem wpList_index_arr {P:Program} (w:World) {ops:Array Oper} {rest:List Oper} {o:Oper} {a:Act} {Q:Exit→Act→World→Prop} (hgd:o.guard=none) (t e:TypeId) (n:Nat) (x i:Operand) (ho:o.op = .index t x i)
  (ht:P.underlying t=some (.array n e)) (d:TypeDesc) (he:P.underlying e=some d) (hd:(match d with | .struct _ | .array _ _=>false | _=>true)=true) (hz:(P.info? e).map (·.size)=some 1)
  (cs:Array Value) (hx:a.eval x = .agg cs) (k:Nat) (hi:a.eval i = .int .i64 k) (hk:k<n) (v:Value) (hv:cs[k]? = some v)
  (h:wpList P ops Q rest (a.put o.dst v) w):wpList P ops Q (o :: rest) a w:=by
 refine wpList_plain hgd fun K hK=>?_
 have:=hK _ _ h
 have hagg:(isAgg e).run P w = .ok false w:=by
  unfold isAgg
  rw [Sem.run_bind,run_underlying he w]
  cases d <;> simp_all
 have hk':(0:Int)≤(k:Int)∧(k:Int)<(n:Int):=by omega
 cases hq:P.info? e with
 | none=>rw [hq] at hz;cases hz
 | some inf =>
  have hs:inf.size=1:=by rw [hq] at hz;simpa using hz
  have hrun:(Instr.index t (.agg cs) (.int .i64 k)).run P w = .ok v w:=by
   unfold Instr.index
   simp only [asIntOf,Sem.run_bind,Sem.run_pure,Result.andThen_ok,run_underlying ht]
   rw [if_pos hk']
   simp [Sem.run_bind,sizeOf,typeInfo,hq,hs,part,hagg,hv]
  unfold Oper.wp execOp
  simp only [ho,Sem.run_bind,Sem.run_pure,Result.andThen_ok,hx,hi,hrun]
  exact this
theorem kind_at (l:List UInt8) (k:Nat) (hk:k<17) (h1:∀ j,j<k→wordK j≠l) (h2:wordK k=l):kindW l=k:=by
 subst h2
 have h':k ∈ List.range 17:=List.mem_range.2 hk
 simp only [List.range,List.range.loop,List.mem_cons,List.not_mem_nil,or_false] at h'
 rcases h' with rfl | rfl | rfl | rfl | rfl | rfl | rfl | rfl | rfl | rfl | rfl | rfl | rfl | rfl | rfl | rfl | rfl <;> first | decide | exact absurd rfl (h1 0 (by decide))
theorem kind_no (l:List UInt8) (h:∀ j,j<17→wordK j≠l):kindW l=0:=by
 rcases kindW_is l with h0 | ⟨h1,h2⟩
 ·exact h0
 ·exact absurd h2.symm (h _ (by unfold isKw at h1;omega))
set_option maxRecDepth 100000 in
set_option maxHeartbeats 1600000 in
theorem kindOf_any (s:ByteArray) (l:List UInt8) (w:World) (hl:Tx s l) (ht:TabK w) :
  Calls Tryz.prog 160 #[.string s] w fun e w'=>e = .returned (.int .i64 (kindW l:Nat))∧w'=w:=by
 have HL:=Lib.hid hl
 have HT:=Lib.hid ht
 obtain ⟨tt,fr,hg⟩:=ht
 clear hl
 go_enter Tryz.func160,Tryz.ntmps160
 go_wp2_with (refine wpList_load_row rfl _ _ rfl 1 rfl tt kwV fr _ hg Tryz.underlying202 rfl (by kernel_rfl) ?_)
 go_loop [6] (fun i=>∃ k:Nat,k≤17∧i = .int .i64 k∧Hid (∀ j,j<k→wordK j≠l)) (fun i=>17 - (intOf i).toNat)
 case atStart=>exact ⟨0,by decide,rfl,fun j hj=>by omega⟩
 case round =>
  obtain ⟨k,hk,rfl,HK⟩:=hrel
  by_cases hlt:k<17
  ·have hkI:(k:Int)<17:=by omega
   have hkd:decide ((k:Int)<17)=true:=decide_eq_true hkI
   have hat:=kwV_at k hlt
   have hbt:((kwB k).toList == s.toList)=decide (wordK k=l):=by
    rw [HL.out.toL,show (kwB k).toList=wordK k from (Tx.of (wordK k)).toL,Bool.eq_iff_iff]
    simp
   by_cases he:wordK k=l
   ·rw [decide_eq_true he] at hbt
    have HR:=Lib.hid (kind_at l k hlt HK.out he)
    clear he
    go_wp2_with (refine wpList_index_arr _ (o:=⟨some 9,_,_,_,_,_⟩) rfl _ _ 17 _ _ rfl Tryz.underlying202 _ Tryz.underlying9 rfl (by kernel_rfl) kwV rfl k rfl hlt _ hat ?_)
    go_ret
    rw [HR.out]
    exact ⟨rfl,rfl⟩
   ·rw [decide_eq_false he] at hbt
    have HE:=Lib.hid he
    clear he
    go_wp2_with (refine wpList_index_arr _ (o:=⟨some 9,_,_,_,_,_⟩) rfl _ _ 17 _ _ rfl Tryz.underlying202 _ Tryz.underlying9 rfl (by kernel_rfl) kwV rfl k rfl hlt _ hat ?_)
    go_round
    case rel=>exact ⟨k+1,by omega,by go_num,fun j hj=>by
     rcases Nat.lt_or_ge j k with h | h
     ·exact HK.out j h
     ·obtain rfl:j=k:=by omega
      exact HE.out⟩
    case measure=>simp [intOf];omega
  ·obtain rfl:k=17:=by omega
   have HR:=Lib.hid (kind_no l HK.out)
   go_wp2_with fail
   go_ret
   rw [HR.out]
   exact ⟨rfl,rfl⟩
theorem cut_parts (l:List UInt8):∃ A B C,Hid (Lib.cut l [46]=(A,B,C))∧Hid (farF true l=(isPartS A && (!C || farF true B)))∧Hid (nameOk l=(farF true l && decide (kindW A=0)))∧A.length≤l.length∧B.length≤l.length∧(C=true→B.length<l.length):=by
 refine ⟨l.take (partN l),if partN l<l.length then l.drop (partN l+1) else [],decide (partN l<l.length),cut_dot l,?_,rfl,by simp [Nat.min_le_right],?_,?_⟩
 ·unfold Hid
  rw [farF_true]
  by_cases h:partN l<l.length
  ·rw [if_pos h,if_pos h,decide_eq_true h];rfl
  ·rw [if_neg h,if_neg h,decide_eq_false h];rfl
 ·split <;> simp
 ·intro h
  have h:=of_decide_eq_true h
  rw [if_pos h,List.length_drop];omega
set_option maxRecDepth 100000 in
set_option maxHeartbeats 1600000 in
theorem isName_any (s:ByteArray) (l:List UInt8) (w:World) (hl:Tx s l) (hs:(l.length:Int)≤100000) (ht:TabK w) (hm:MaxC w) :
  Calls Tryz.prog 162 #[.string s] w fun e w'=>e = .returned (.bool (nameOk l))∧∃ n,w'=w.drewN n:=by
 have HL:=Lib.hid hl
 have HT:=Lib.hid ht
 obtain ⟨m,hm⟩:=hm
 have HM:=Lib.hid hm
 have hz:s.size<4294967281:=by rw [hl.size];omega
 have HZ:=Lib.hid hz
 obtain ⟨A,B,C,HC,HF,HN,hA,hB,hC⟩:=cut_parts l
 have HC':=Lib.hid hC
 clear hl ht hm hz hC
 go_enter Tryz.func162,Tryz.ntmps162
 go_wp2_with fail
 refine (Tryz.strings_Cut s ⟨#[46]⟩ m w HZ.out HM.out).mono ?_;rintro e w1 ⟨rfl,n1,hw1⟩
 subst hw1
 rw [show s.data.toList=l from HL.out,show (ByteArray.mk #[46]).data.toList=[46] from rfl,HC.out]
 dsimp only
 go_wp2_with fail
 refine (kindOf_any ⟨A.toArray⟩ A _ (Tx.of _) (HT.out.nx (Nx.drewN w n1))).mono ?_;rintro e w' ⟨rfl,rfl⟩
 by_cases hk:kindW A=0
 ·have HNO2:Hid (nameOk l=farF true l):=by unfold Hid;rw [HN.out,decide_eq_true hk,Bool.and_true]
  rw [hk]
  clear hk
  go_wp2_with fail
  go_loopw [3,4,5] (fun p r m wr=>∃ (A B:List UInt8) (C:Bool) (n:Nat),p = .string ⟨A.toArray⟩∧r = .string ⟨B.toArray⟩∧m = .bool C∧Hid ((isPartS A && (!C || farF true B))=nameOk l)∧B.length≤l.length∧(C=false∨B.length<l.length)∧wr=w.drewN n) (fun _ r m _=>match r,m with | .string b,.bool true=>b.size+1 | _,_=>0)
  case atStart=>exact ⟨A,B,C,n1,rfl,rfl,rfl,by unfold Hid;rw [HNO2.out,HF.out],hB,by cases C;exact .inl rfl;exact .inr (HC'.out rfl),rfl⟩
  case round =>
   obtain ⟨A',B',C',n,rfl,rfl,rfl,HX,hB',hC',rfl⟩:=hrel
   go_wp2_with fail
   refine (isPart_any ⟨A'.toArray⟩ A' _ (Tx.of _)).mono ?_;rintro e w' ⟨rfl,rfl⟩
   obtain ⟨P,HP⟩:∃ P,Hid (isPartS A'=P):=⟨_,rfl⟩
   rw [HP.out] at HX ⊢
   cases P
   ·go_wp2_with fail
    go_ret
    exact ⟨congrArg (fun b=>Ending.returned (Value.bool b)) HX.out,_,rfl⟩
   ·cases C'
    ·go_wp2_with fail
     go_ret
     exact ⟨congrArg (fun b=>Ending.returned (Value.bool b)) HX.out,_,rfl⟩
    ·obtain ⟨A2,B2,C2,HC2,HF2,-,hA2,hB2,hC2⟩:=cut_parts B'
     have HC2':=Lib.hid hC2
     clear hC2
     have hz2:(ByteArray.mk B'.toArray).size<4294967281:=by rw [(Tx.of B').size];omega
     have HZ2:=Lib.hid hz2
     clear hz2
     go_wp2_with fail
     refine (Tryz.strings_Cut ⟨B'.toArray⟩ ⟨#[46]⟩ m (w.drewN n) HZ2.out HM.out).mono ?_;rintro e w2 ⟨rfl,n2,hw2⟩
     subst hw2
     rw [show (ByteArray.mk B'.toArray).data.toList=B' from rfl,show (ByteArray.mk #[46]).data.toList=[46] from rfl,HC2.out]
     dsimp only
     go_wp2_with fail
     go_roundw
     case rel =>
      refine ⟨A2,B2,C2,n+n2,rfl,rfl,rfl,?_,by omega,?_,rfl⟩
      ·unfold Hid
       rw [← HX.out,← HF2.out];rfl
      ·rcases hC' with h | h
       ·cases h
       ·exact .inr (by omega)
     case measure =>
      have h1:(ByteArray.mk B'.toArray).size=B'.length:=(Tx.of B').size
      have h2:(ByteArray.mk B2.toArray).size=B2.length:=(Tx.of B2).size
      have h3:=HC2'.out
      cases C2
      ·simp
      ·have:=h3 rfl
       simp only [h1,h2]
       omega
 ·have hk2:((kindW A:Int) != 0)=true:=by rw [bne_iff_ne];omega
  have HNO2:Hid (nameOk l=false):=by unfold Hid;rw [HN.out,decide_eq_false hk,Bool.and_false]
  clear hk
  go_wp2_with fail
  go_ret
  rw [HNO2.out]
  exact ⟨rfl,_,rfl⟩
end Go.Proofs.YtbblfkdmkpkmcaaGreatDoor
namespace Go.Proofs.YtbblfkdmkpkmcaaGreatDoor
namespace RI
def PA:List Oper→Nat→(Nat→Value)→Act→Act
 | [],_,_,a=>a
 | o :: os,k,x,a=>PA os (k+1) x (a.put o.dst (x k))
def upd (x:Nat→Value) (i:Nat) (v:Value):Nat→Value:=fun j=>if j=i then v else x j
theorem PA_congr:∀ (os:List Oper) (k:Nat) (x y:Nat→Value) (a:Act),(∀ j,k≤j→x j=y j)→PA os k x a=PA os k y a
 | [],_,_,_,_,_=>rfl
 | o :: os,k,x,y,a,h=>by
  unfold PA
  rw [h k (Nat.le_refl _)]
  exact PA_congr os (k+1) x y _ (fun j hj=>h j (by omega))
def dsts (os:List Oper):List Nat:=os.filterMap (·.dst)
theorem put_put (a:Act) (d:Nat) (u v:Value):(a.put (some d) u).put (some d) v=a.put (some d) v:=by
 simp [Act.put]
theorem put_swap (a:Act) (d e:Nat) (u v:Value) (h:d≠e):(a.put (some d) u).put (some e) v=(a.put (some e) v).put (some d) u:=by
 simp only [Act.put]
 rw [Array.setIfInBounds_comm _ _ h]
theorem PA_put:∀ (os:List Oper) (k:Nat) (x:Nat→Value) (a:Act) (d:Nat) (v:Value),d ∉ dsts os→PA os k x (a.put (some d) v)=(PA os k x a).put (some d) v
 | [],_,_,_,_,_,_=>rfl
 | o :: os,k,x,a,d,v,h=>by
  unfold PA
  cases hd:o.dst with
  | none =>
   rw [hd] at *
   have h2:d ∉ dsts os:=fun h'=>h (by simp [dsts,hd] at h' ⊢;exact .inr h')
   exact PA_put os (k+1) x a d v h2
  | some e =>
   have h1:e≠d:=fun h'=>h (by simp [dsts,hd,h'])
   have h2:d ∉ dsts os:=fun h'=>h (by simp [dsts,hd] at h' ⊢;exact .inr h')
   rw [put_swap _ _ _ _ _ (Ne.symm h1)]
   exact PA_put os (k+1) x _ d v h2
theorem PA_upd:∀ (os:List Oper) (k:Nat) (x:Nat→Value) (a:Act) (i:Nat) (o:Oper) (v:Value),(dsts os).Nodup→os[i]? = some o→(PA os k x a).put o.dst v=PA os k (upd x (k+i) v) a
 | [],_,_,_,_,_,_,_,h=>by simp at h
 | o' :: os,k,x,a,i,o,v,hn,h=>by
  have hn2:(dsts os).Nodup:=by
   cases hd:o'.dst with
   | none=>simpa [dsts,hd] using hn
   | some e=>have:=hn;simp [dsts,hd] at this;exact this.2
  cases i with
  | zero =>
   simp at h
   subst h
   unfold PA
   have e1:upd x (k+0) v k=v:=by simp [upd]
   have e2:∀ j,k+1≤j→x j=upd x (k+0) v j:=fun j hj=>by unfold upd;rw [if_neg (by omega)]
   rw [e1,← PA_congr os (k+1) x _ _ e2]
   cases hd:o'.dst with
   | none=>rfl
   | some e =>
    have h2:e ∉ dsts os:=by
     have:=hn
     simp [dsts,hd] at this
     simpa [dsts] using this.1
    rw [← PA_put os (k+1) x _ e v h2,put_put]
  | succ i =>
   simp at h
   unfold PA
   have e1:upd x (k+(i+1)) v k=x k:=by unfold upd;rw [if_neg (by omega)]
   rw [e1,show k+(i+1)=k+1+i by omega]
   exact PA_upd os (k+1) x _ i o v hn2 h
def old (a:Act) (os:List Oper):Nat→Value:=fun j=>match (os[j]?).bind (·.dst) with
 | some d=>a.tmps.getD d undef
 | none=>undef
theorem put_own (a:Act) (d:Nat):a.put (some d) (a.tmps.getD d undef)=a:=by
 cases a with
 | mk t ds =>
  simp only [Act.put,Act.mk.injEq,and_true]
  apply Array.ext
  ·simp
  ·intro i h1 h2
   by_cases h:d=i
   ·subst h
    rw [Array.getElem_setIfInBounds_self]
    simp at h1
    simp [h1]
   ·rw [Array.getElem_setIfInBounds_ne _ h]
theorem PA_old:∀ (os:List Oper) (k:Nat) (x:Nat→Value) (a:Act),(∀ i o d,os[i]? = some o→o.dst=some d→x (k+i)=a.tmps.getD d undef)→PA os k x a=a
 | [],_,_,_,_=>rfl
 | o :: os,k,x,a,h=>by
  unfold PA
  have e:a.put o.dst (x k)=a:=by
   cases hd:o.dst with
   | none=>rfl
   | some d=>rw [show x k=a.tmps.getD d undef from h 0 o d rfl hd];exact put_own a d
  rw [e]
  exact PA_old os (k+1) x a (fun i o' d h1 h2=>by rw [show k+1+i=k+(i+1) by omega];exact h (i+1) o' d (by simpa using h1) h2)
section
variable {P:Program} {md:Region.Mode} (l:List Oper) (a0:Act) (V:Nat→Value→World→Prop) (S:World→Prop) (R:World→World→Prop)
def Step (P:Program) (i:Nat) (o:Oper):Prop:=∀ (x:Nat→Value) (w:World),S w→(∀ e ∈ o.after.toList,Region.binds .any e=true→V e.on (x e.on) w) →
 ∀ K:Act→World→Prop,(∀ a' w' v,a'=(PA l 0 x a0).put o.dst v→V i v w'→S w'→R w w'→K a' w') →
  if Region.wanted o (yielded l.toArray (PA l 0 x a0).tmps) then o.wp P (PA l 0 x a0) w K (fun _ _ _=>False) else K ((PA l 0 x a0).put o.dst undef) w
def Steps (P:Program):List Oper→Nat→Prop
 | [],_=>True
 | o :: os,i=>Step l a0 V S R P i o∧Steps P os (i+1)
variable {l a0 V S R}
theorem Steps.at_:∀ {os:List Oper} {k:Nat},Steps l a0 V S R P os k→∀ i o,os[i]? = some o→Step l a0 V S R P (k+i) o
 | [],_,_,i,o,h=>by simp at h
 | o' :: os,k,hs,i,o,h=>by
  cases i with
  | zero=>simp at h;subst h;exact hs.1
  | succ i=>rw [show k+(i+1)=k+1+i by omega];exact Steps.at_ hs.2 i o (by simpa using h)
def unl (n:Nat) (listed:Array Bool):Nat:=((List.range n).filter fun i=>!listed.getD i true).length
theorem filter_lt {α:Type} (p q:α→Bool) (xs:List α) (h:∀ y ∈ xs,p y=true→q y=true) (z:α) (hz:z ∈ xs) (h1:p z=false) (h2:q z=true):(xs.filter p).length<(xs.filter q).length:=by
 have le:∀ ys:List α,(∀ y ∈ ys,p y=true→q y=true)→(ys.filter p).length≤(ys.filter q).length:=by
  intro ys
  induction ys with
  | nil=>intro _;exact Nat.le_refl _
  | cons y ys ih =>
   intro h
   have:=ih (fun y hy=>h y (by simp [hy]))
   cases hp:p y
   ·rw [List.filter_cons_of_neg (by simp [hp])]
    cases hq:q y
    ·rw [List.filter_cons_of_neg (by simp [hq])];exact this
    ·rw [List.filter_cons_of_pos hq];simp;omega
   ·rw [List.filter_cons_of_pos hp,List.filter_cons_of_pos (h y (by simp) hp)];simp;exact this
 induction xs with
 | nil=>cases hz
 | cons y ys ih =>
  have hle:=le ys (fun y hy=>h y (by simp [hy]))
  rcases List.mem_cons.1 hz with rfl | hz
  ·rw [List.filter_cons_of_neg (by simp [h1]),List.filter_cons_of_pos h2];simp;omega
  ·have:=ih (fun y hy=>h y (by simp [hy])) hz
   cases hp:p y
   ·rw [List.filter_cons_of_neg (by simp [hp])]
    cases hq:q y
    ·rw [List.filter_cons_of_neg (by simp [hq])];exact this
    ·rw [List.filter_cons_of_pos hq];simp;omega
   ·rw [List.filter_cons_of_pos hp,List.filter_cons_of_pos (h y (by simp) hp)];simp;exact this
def backB (l:List Oper):Bool:=(List.range l.length).all fun i=>match l[i]? with
 | some o=>o.after.all fun e=>!Region.binds .any e || decide (e.on<i)
 | none=>true
def okB (l:List Oper):Bool:=backB l && decide ((dsts l).Nodup)
theorem all_listed (hb:backB l=true) {listed:Array Bool} (hz:listed.size=l.length) (hr:Region.ready .any l.toArray listed=[]):∀ i,i<l.length→listed.getD i true=true:=by
 intro i
 induction i using Nat.strongRecOn with
 | ind i ih =>
  intro hi
  cases h:listed.getD i true with
  | true=>rfl
  | false =>
   exfalso
   have hmem:i ∈ Region.ready .any l.toArray listed:=by
    rw [mem_ready]
    refine ⟨h,l[i],by simp [hi],fun e he hbd=>?_⟩
    have h1:=List.all_eq_true.1 hb i (List.mem_range.2 hi)
    simp only [List.getElem?_eq_getElem hi] at h1
    have h2:=Array.all_eq_true'.1 h1 e he
    simp [hbd] at h2
    have h3:=ih e.on h2 (by omega)
    have h4:e.on<listed.size:=by omega
    simpa [h4] using h3
   rw [hr] at hmem
   cases hmem
theorem upd_same (x:Nat→Value) (i:Nat) (v:Value):upd x i v i=v:=by simp [upd]
theorem upd_ne (x:Nat→Value) (i j:Nat) (v:Value) (h:j≠i):upd x i v j=x j:=by unfold upd;rw [if_neg h]
def StepZ (l:List Oper) (oz:Oper) (a0:Act) (V:Nat→Value→World→Prop) (S:World→Prop) (R:World→World→Prop) (P:Program) (i:Nat) (o:Oper):Prop:=∀ (x:Nat→Value) (w:World),S w→(∀ e ∈ o.after.toList,Region.binds .any e=true→V e.on (x e.on) w) →
 ∀ K:Act→World→Prop,(∀ a' w' v,a'=(PA l 0 x a0).put o.dst v→V i v w'→S w'→R w w'→K a' w') →
  if Region.wanted o (yielded (l++[oz]).toArray (PA l 0 x a0).tmps) then o.wp P (PA l 0 x a0) w K (fun _ _ _=>False) else K ((PA l 0 x a0).put o.dst undef) w
def StepsZ (l:List Oper) (oz:Oper) (a0:Act) (V:Nat→Value→World→Prop) (S:World→Prop) (R:World→World→Prop) (P:Program):List Oper→Nat→Prop
 | [],_=>True
 | o :: os,i=>StepZ l oz a0 V S R P i o∧StepsZ l oz a0 V S R P os (i+1)
theorem StepsZ.at_ {oz:Oper}:∀ {os:List Oper} {k:Nat},StepsZ l oz a0 V S R P os k→∀ i o,os[i]? = some o→StepZ l oz a0 V S R P (k+i) o
 | [],_,_,i,o,h=>by simp at h
 | o' :: os,k,hs,i,o,h=>by
  cases i with
  | zero=>simp at h;subst h;exact hs.1
  | succ i=>rw [show k+(i+1)=k+1+i by omega];exact StepsZ.at_ hs.2 i o (by simpa using h)
theorem PA_last:∀ (l:List Oper) (k:Nat) (x:Nat→Value) (a:Act) (oz:Oper),oz.dst=none→PA (l++[oz]) k x a=PA l k x a
 | [],k,x,a,oz,h=>by simp only [List.nil_append,PA,h];rfl
 | o :: l,k,x,a,oz,h=>by
  simp only [List.cons_append,PA]
  exact PA_last l (k+1) x _ oz h
def StepL (L:List Oper) (a0:Act) (V:Nat→Value→World→Prop) (S:World→Prop) (R:World→World→Prop) (P:Program) (i:Nat) (o:Oper):Prop:=∀ (x:Nat→Value) (w:World),S w→(∀ e ∈ o.after.toList,Region.binds .any e=true→V e.on (x e.on) w) →
 ∀ K:Act→World→Prop,(∀ a' w' v,a'=(PA L 0 x a0).put o.dst v→V i v w'→S w'→R w w'→K a' w') →
  if Region.wanted o (yielded L.toArray (PA L 0 x a0).tmps) then o.wp P (PA L 0 x a0) w K (fun _ _ _=>False) else K ((PA L 0 x a0).put o.dst undef) w
def StepsY (L:List Oper) (a0:Act) (V:Nat→Value→World→Prop) (S:World→Prop) (R:World→World→Prop) (P:Program) (Q:Exit→Act→World→Prop):List Oper→Nat→Prop
 | [],_=>True
 | [oz],n=>∀ (x:Nat→Value) (w:World),S w→(∀ j,j<n→V j (x j) w)→oz.wp P (PA L 0 x a0) w (fun a' w'=>Q .normal a' w') (fun _ _ _=>False)
 | o :: o' :: os,i=>StepL L a0 V S R P i o∧StepsY L a0 V S R P Q (o' :: os) (i+1)
theorem StepsY.split {Q:Exit→Act→World→Prop} {oz:Oper} (hd:oz.dst=none):∀ (os:List Oper) (k:Nat),StepsY (l++[oz]) a0 V S R P Q (os++[oz]) k →
  StepsZ l oz a0 V S R P os k∧(∀ (x:Nat→Value) (w:World),S w→(∀ j,j<k+os.length→V j (x j) w)→oz.wp P (PA l 0 x a0) w (fun a' w'=>Q .normal a' w') (fun _ _ _=>False))
 | [],k,h=>by
  refine ⟨trivial,fun x w h1 h2=>?_⟩
  have:=h x w h1 (by simpa using h2)
  rw [PA_last l 0 x a0 oz hd] at this
  exact this
 | o :: os,k,h=>by
  have h':StepL (l++[oz]) a0 V S R P k o∧StepsY (l++[oz]) a0 V S R P Q (os++[oz]) (k+1):=by
   cases os with
   | nil=>exact h
   | cons o2 os=>exact h
  obtain ⟨h1,h2⟩:=StepsY.split hd os (k+1) h'.2
  refine ⟨⟨?_,h1⟩,?_⟩
  ·intro x w hS hdp K hK
   have:=h'.1 x w hS hdp K (by rw [PA_last l 0 x a0 oz hd];exact hK)
   rw [PA_last l 0 x a0 oz hd] at this
   exact this
  ·rw [List.length_cons,show k+(os.length+1)=k+1+os.length by omega]
   exact h2
def Vof (Vs:List (Value→World→Prop)):Nat→Value→World→Prop:=fun j=>Vs.getD j fun _ _=>True
theorem Vof.keeps {Vs:List (Value→World→Prop)} {R:World→World→Prop} (h:∀ p ∈ Vs,∀ v w w',p v w→R w w'→p v w'):∀ j v w w',Vof Vs j v w→R w w'→Vof Vs j v w':=by
 intro j v w w' h1 h2
 unfold Vof at *
 rw [List.getD_eq_getElem?_getD] at *
 cases hj:Vs[j]? with
 | none=>trivial
 | some p =>
  rw [hj] at h1
  exact h p (List.mem_of_getElem? hj) v w w' h1 h2
theorem eval_put (a:Act) (d:Nat) (v:Value) (h:d<a.tmps.size):(a.put (some d) v).eval (.tmp d)=v:=by
 simp [Act.put,Act.eval,h]
theorem eval_put_ne (a:Act) (x:Option Tmp) (d:Nat) (v:Value) (h:x≠some d):(a.put x v).eval (.tmp d)=a.eval (.tmp d):=by
 cases x with
 | none=>rfl
 | some e =>
  have:e≠d:=fun h'=>h (by rw [h'])
  simp only [Act.put,Act.eval]
  rw [Array.getD_eq_getD_getElem?,Array.getElem?_setIfInBounds_ne this,← Array.getD_eq_getD_getElem?]
theorem PA_out:∀ (os:List Oper) (k:Nat) (x:Nat→Value) (a:Act) (d:Nat),d ∉ dsts os→(PA os k x a).eval (.tmp d)=a.eval (.tmp d)
 | [],_,_,_,_,_=>rfl
 | o :: os,k,x,a,d,h=>by
  unfold PA
  have h2:d ∉ dsts os:=fun h'=>h (by simp [dsts] at h' ⊢;exact .inr h')
  have h1:o.dst≠some d:=fun h'=>h (by simp [dsts,h'])
  rw [PA_out os (k+1) x _ d h2,eval_put_ne _ _ _ _ h1]
theorem PA_in:∀ (os:List Oper) (k:Nat) (x:Nat→Value) (a:Act) (i:Nat) (o:Oper) (d:Nat),(dsts os).Nodup→os[i]? = some o→o.dst=some d→d<a.tmps.size→(PA os k x a).eval (.tmp d)=x (k+i)
 | [],_,_,_,_,_,_,_,h,_,_=>by simp at h
 | o' :: os,k,x,a,i,o,d,hn,h,hd,hs=>by
  have hn2:(dsts os).Nodup:=by
   cases hd:o'.dst with
   | none=>simpa [dsts,hd] using hn
   | some e=>have:=hn;simp [dsts,hd] at this;exact this.2
  unfold PA
  cases i with
  | zero =>
   simp at h
   subst h
   have h2:d ∉ dsts os:=by
    have:=hn
    simp [dsts,hd] at this
    simpa [dsts] using this.1
   rw [PA_out os (k+1) x _ d h2,hd,eval_put _ _ _ hs,Nat.add_zero]
  | succ i =>
   rw [PA_in os (k+1) x _ i o d hn2 (by simpa using h) hd (by cases o'.dst <;> simp [Act.put,hs]),show k+1+i=k+(i+1) by omega]
def slotB (L:List Oper) (d i:Nat):Bool:=decide ((dsts L).Nodup) && ((L[i]?).bind (·.dst) == some d)
theorem PA_slot {L:List Oper} {x:Nat→Value} {a:Act} {d i:Nat} (h:slotB L d i=true) (hs:d<a.tmps.size):(PA L 0 x a).eval (.tmp d)=x i:=by
 unfold slotB at h
 simp only [Bool.and_eq_true,decide_eq_true_eq,beq_iff_eq] at h
 obtain ⟨hn,h⟩:=h
 cases ho:L[i]? with
 | none=>rw [ho] at h;cases h
 | some o =>
  rw [ho] at h
  rw [PA_in L 0 x a i o d hn ho h hs,Nat.zero_add]
theorem PA_old_slot {L:List Oper} {x:Nat→Value} {a:Act} {d:Nat} (h:(dsts L).contains d=false):(PA L 0 x a).eval (.tmp d)=a.eval (.tmp d) :=
 PA_out L 0 x a d (by simpa using h)
def setAll:List Oper→Nat→(Nat→Value)→List Value→List Value
 | [],_,_,l=>l
 | o :: os,k,x,l=>setAll os (k+1) x (match o.dst with | some d=>l.set d (x k) | none=>l)
theorem PA_list:∀ (os:List Oper) (k:Nat) (x:Nat→Value) (a:Act),PA os k x a=⟨(setAll os k x a.tmps.toList).toArray,a.defers⟩
 | [],_,_,a=>rfl
 | o :: os,k,x,a=>by
  unfold PA setAll
  rw [PA_list os (k+1) x _]
  cases o.dst with
  | none=>rfl
  | some d=>simp [Act.put]
end
end RI
end Go.Proofs.YtbblfkdmkpkmcaaGreatDoor
