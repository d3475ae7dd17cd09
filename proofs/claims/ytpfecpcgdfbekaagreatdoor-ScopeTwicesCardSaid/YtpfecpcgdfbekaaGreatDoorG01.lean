/- Texts as lists of bytes. Plain lemmas. Worlds that changed in one block alone. Plain lemmas. The library's variable. Plain lemmas. Rows of words that a call owns; worlds that changed in one block alone. Plain lemmas. The contracts of the document's letter and digit. The contracts of dec's cutting of texts: a sign, digits (what is plain of it). The contracts of token's small functions (what is plain of it). The contracts of token's gaps, signs, digits (what is plain of it). The contracts of token's numbers' lengths (what is plain of it). The contracts of token's numbers' values (what is plain of it). The contracts of the document's lexer: its small functions. The contracts of the document's lexer: what parts words. -/
import Derived.Test.YtpfecpcgdfbekaaGreatDoorProg
import Derived.Test.YtpfecpcgdfbekaaGreatDoorG00
import Derived.WalkSpells
import Derived.Deep.QuietTactic
import Derived.BigQuiet
import Derived.Lib.Strings
import Derived.Maps.AppendAt
import Derived.Deep.CutBlock
import Derived.Deep.DeepCutAuto
import Derived.Laws.Rows
import Derived.Laws.ResultCell
set_option linter.unusedVariables false
set_option linter.unusedSimpArgs false
set_option linter.unnecessarySimpa false
namespace Go.Proofs.YtpfecpcgdfbekaaGreatDoor
open Go.RowKit
def Tx (s:ByteArray) (l:List UInt8):Prop:=s.data.toList=l
theorem Tx.size {s:ByteArray} {l:List UInt8} (h:Tx s l):s.size=l.length:=by rw [Lib.size_eq,show s.data.toList=l from h]
theorem Tx.eq {s:ByteArray} {l:List UInt8} (h:Tx s l):s=⟨l.toArray⟩:=by rw [← show s.data.toList=l from h,Lib.mk_data]
theorem Tx.toL {s:ByteArray} {l:List UInt8} (h:Tx s l):s.toList=l:=by rw [Lib.toList_data];exact h
theorem Tx.of (l:List UInt8):Tx ⟨l.toArray⟩ l:=by unfold Tx;rfl
theorem Tx.nil {s:ByteArray} (h:Tx s []):s.toList=[]∧s.size=0:=⟨h.toL,h.size⟩
theorem Tx.cons {s:ByteArray} {c:UInt8} {l:List UInt8} (h:Tx s (c :: l)):∃ (hp:0<s.size) (t:ByteArray),s[0]'hp=c∧s.extract 1 s.size=t∧Tx t l∧¬ s.toList=[]∧s.toList.isEmpty=false:=by
 have hz:s.size=l.length+1:=by rw [h.size];rfl
 refine ⟨by omega,s.extract 1 s.size,?_,rfl,?_,by rw [h.toL];simp,by rw [h.toL];rfl⟩
 ·obtain ⟨⟨d⟩⟩:=s
  obtain rfl:d=c :: l:=h
  rfl
 ·unfold Tx
  rw [Lib.extract_data,show s.data.toList=c :: l from h,hz]
  simp
theorem Tx.idx {s:ByteArray} {l:List UInt8} (h:Tx s l) (i:Nat) (hi:i<l.length):∃ hp:i<s.size,s[i]'hp=l[i]:=by
 refine ⟨by rw [h.size];exact hi,?_⟩
 obtain ⟨⟨d⟩⟩:=s
 obtain rfl:d=l:=h
 rfl
theorem Tx.from_ {s:ByteArray} {l:List UInt8} (h:Tx s l) (n:Nat):∃ u,s.extract n s.size=u∧Hid (Tx u (l.drop n)) :=
 ⟨_,rfl,by unfold Hid Tx;rw [Lib.extract_data,show s.data.toList=l from h,h.size,List.take_of_length_le (by simp)]⟩
theorem Tx.upto {s:ByteArray} {l:List UInt8} (h:Tx s l) (n:Nat):∃ u,s.extract 0 n=u∧Hid (Tx u (l.take n)) :=
 ⟨_,rfl,by unfold Hid Tx;rw [Lib.extract_data,show s.data.toList=l from h];simp⟩
theorem Tx.mid {s:ByteArray} {l:List UInt8} (h:Tx s l) (a n:Nat):∃ u,s.extract a n=u∧Hid (Tx u ((l.take n).drop a)) :=
 ⟨_,rfl,by unfold Hid Tx;rw [Lib.extract_data,show s.data.toList=l from h,List.drop_take]⟩
theorem Tx.app {s t:ByteArray} {a b:List UInt8} (h:Tx s a) (g:Tx t b):Tx (s++t) (a++b):=by
 unfold Tx at *
 rw [← h,← g]
 simp
end Go.Proofs.YtpfecpcgdfbekaaGreatDoor
namespace Go.Proofs.YtpfecpcgdfbekaaGreatDoor
open Go.RowKit
structure Oth (b:Nat) (w w':World):Prop where
 os:w'.os=w.os
 tape:w'.tape=w.tape
 output:w'.output=w.output
 size:w.heap.size≤w'.heap.size
 block:∀ k,k<w.heap.size→k≠b→w'.heap[k]? = w.heap[k]?
theorem Oth.refl (b:Nat) (w:World):Oth b w w:=⟨rfl,rfl,rfl,Nat.le_refl _,fun _ _ _=>rfl⟩
theorem Oth.trans {b:Nat} {x y z:World} (h:Oth b x y) (k:Oth b y z):Oth b x z :=
 ⟨k.os.trans h.os,k.tape.trans h.tape,k.output.trans h.output,Nat.le_trans h.size k.size,fun i hi hb=>(k.block i (Nat.lt_of_lt_of_le hi h.size) hb).trans (h.block i hi hb)⟩
theorem Oth.nx {b:Nat} {w w':World} (h:Nx w w'):Oth b w w':=⟨h.os,h.tape,h.output,h.size,fun k hk _=>h.block k hk⟩
theorem Oth.set (w:World) (b i:Nat) (v:Value):Oth b w (w.setCell ⟨b,i,none⟩ v) :=
 ⟨rfl,rfl,rfl,by simp [World.setCell],fun k _ hk=>by simp only [World.setCell];rw [Array.getElem?_modify,if_neg (fun e=>hk e.symm)]⟩
theorem Oth.to {w w1 w':World} {b:Nat} (h:Oth b w1 w') (hn:Nx w w1) (hb:w.heap.size≤b):Nx w w' :=
 ⟨h.os.trans hn.os,h.tape.trans hn.tape,h.output.trans hn.output,Nat.le_trans hn.size h.size,fun k hk=>(h.block k (Nat.lt_of_lt_of_le hk hn.size) (by omega)).trans (hn.block k hk)⟩
theorem Oth.blk {w w':World} {b B g:Nat} {cs:Array Value} {T:TypeId} (h:Oth b w w') (k:Blk w B g cs T) (hg:g≠b):Blk w' B g cs T :=
 ⟨k.1,by rw [h.block g k.lt hg];exact k.2⟩
theorem Oth.mono {w w1 w':World} {b:Nat} (h:Oth b w1 w') (hn:Nx w w1):Oth b w w':=(Oth.nx hn).trans h
theorem Oth.put {w w':World} {b g:Nat} (h:Oth b w w') (hg:w.heap.size≤g) (i:Nat) (v:Value):Oth b w (w'.setCell ⟨g,i,none⟩ v) :=
 ⟨h.os,h.tape,h.output,by simp [World.setCell];exact h.size,fun k hk hb=>by simp only [World.setCell];rw [Array.getElem?_modify,if_neg (by omega)];exact h.block k hk hb⟩
theorem Oth.put5 {w w':World} {b g:Nat} {v0 v1 v2 v3 v4:Value} (h:Oth b w w') (hk:w.heap.size≤g) :
  Oth b w (((((w'.setCell ⟨g,0,none⟩ v0).setCell ⟨g,1,none⟩ v1).setCell ⟨g,2,none⟩ v2).setCell ⟨g,3,none⟩ v3).setCell ⟨g,4,none⟩ v4) :=
 ((((h.put hk 0 v0).put hk 1 v1).put hk 2 v2).put hk 3 v3).put hk 4 v4
theorem Oth.own {w w':World} {b i:Nat} {v:Value} (h:Oth b w w'):Oth b w (w'.setCell ⟨b,i,none⟩ v):=h.trans (Oth.set _ _ _ _)
end Go.Proofs.YtpfecpcgdfbekaaGreatDoor
namespace Go.Proofs.YtpfecpcgdfbekaaGreatDoor
open Go.RowKit
def MaxC (w:World):Prop:=∃ m,w.cell? ⟨1,0,none⟩=some (.int .i64 m)
theorem MaxC.nx {w w':World} (h:MaxC w) (hn:Nx w w'):MaxC w':=by
 obtain ⟨m,hm⟩:=h
 exact ⟨m,(hn.cell (World.block_lt_of_cell? w _ hm)).trans hm⟩
end Go.Proofs.YtpfecpcgdfbekaaGreatDoor
namespace Go.Proofs.YtpfecpcgdfbekaaGreatDoor
open Go.RowKit
theorem Blk.put5 {w:World} {B g:Nat} {T:TypeId} {a0 a1 a2 a3 a4 v0 v1 v2 v3 v4:Value} (h:Blk w B g #[a0,a1,a2,a3,a4] T) :
  Blk (((((w.setCell ⟨g,0,none⟩ v0).setCell ⟨g,1,none⟩ v1).setCell ⟨g,2,none⟩ v2).setCell ⟨g,3,none⟩ v3).setCell ⟨g,4,none⟩ v4) B g #[v0,v1,v2,v3,v4] T :=
 ((((h.put 0 v0).put 1 v1).put 2 v2).put 3 v3).put 4 v4
theorem Nx.put5 {w w':World} {g:Nat} {v0 v1 v2 v3 v4:Value} (h:Nx w w') (hk:w.heap.size≤g) :
  Nx w (((((w'.setCell ⟨g,0,none⟩ v0).setCell ⟨g,1,none⟩ v1).setCell ⟨g,2,none⟩ v2).setCell ⟨g,3,none⟩ v3).setCell ⟨g,4,none⟩ v4) :=
 ((((h.put' hk 0 v0).put' hk 1 v1).put' hk 2 v2).put' hk 3 v3).put' hk 4 v4
def tokC (x:TokV):Array Value:=#[.int .i64 x.k,.string ⟨x.t.toArray⟩,.int .i64 x.n,.int .u64 x.d,.int .i64 x.p]
def tokL (xs:List TokV):List Value:=xs.flatMap fun x=>(tokC x).toList
theorem tokL_snoc (xs:List TokV) (x:TokV):tokL (xs++[x])=tokL xs++(tokC x).toList:=by
 unfold tokL;simp
theorem tokL_get (xs:List TokV) (i:Nat) (hi:i<xs.length) (j:Nat) (hj:j<5):(tokL xs)[i * 5+j]? = (tokC xs[i])[j]?:=by
 induction xs generalizing i with
 | nil=>simp at hi
 | cons x xs ih =>
  have e:tokL (x :: xs)=(tokC x).toList++tokL xs:=rfl
  have e5:(tokC x).toList.length=5:=rfl
  rw [e]
  cases i with
  | zero =>
   rw [List.getElem?_append_left (by omega),Nat.zero_mul,Nat.zero_add]
   simp
  | succ i =>
   rw [List.getElem?_append_right (by omega),e5]
   have:(i+1) * 5+j - 5=i * 5+j:=by omega
   rw [this,ih i (by simpa using hi)]
   simp
def OwnT (w:World) (B:Nat) (v:Value) (xs:List TokV):Prop:=w.ownsRow B 124 5 v xs.length (tokL xs)
def RdT (w:World) (A:Option Addr) (xs:List TokV):Prop :=
 0<xs.length→∃ g,A=some ⟨g,0,none⟩∧g<w.heap.size∧∀ i (h:i<xs.length) j,j<5→w.cell? ⟨g,i * 5+j,none⟩=(tokC xs[i])[j]?
theorem OwnT.nil_ (w:World) (B:Nat):OwnT w B (.slice none 0 0) []:=World.ownsRow_nil w B _ _
theorem OwnT.alloc {w:World} {B:Nat} {v:Value} {xs:List TokV} (h:OwnT w B v xs) (o:Obj):OwnT (w.alloc o) B v xs:=World.ownsRow.alloc h o
theorem OwnT.less {w:World} {B B':Nat} {v:Value} {xs:List TokV} (h:OwnT w B v xs) (hB:B'≤B):OwnT w B' v xs:=by
 obtain ⟨h1,h2⟩:=h
 refine ⟨h1,?_⟩
 rcases h2 with h2 | ⟨g,cap,cur,hv,hg,r⟩
 ·exact .inl h2
 ·exact .inr ⟨g,cap,cur,hv,by omega,r⟩
theorem OwnT.oth {w w':World} {B b:Nat} {v:Value} {xs:List TokV} (h:OwnT w B v xs) (ho:Oth b w w') (hb:b<B):OwnT w' B v xs:=by
 obtain ⟨h1,h2⟩:=h
 refine ⟨h1,?_⟩
 rcases h2 with h2 | ⟨g,cap,cur,hv,hg,hh,r⟩
 ·exact .inl h2
 ·refine .inr ⟨g,cap,cur,hv,hg,?_,r⟩
  rw [ho.block g ?_ (by omega)];exact hh
  rcases Nat.lt_or_ge g w.heap.size with h | h
  ·exact h
  ·rw [Array.getElem?_eq_none h] at hh;cases hh
theorem OwnT.nx {w w':World} {B:Nat} {v:Value} {xs:List TokV} (h:OwnT w B v xs) (ho:Nx w w'):OwnT w' B v xs:=by
 obtain ⟨h1,h2⟩:=h
 refine ⟨h1,?_⟩
 rcases h2 with h2 | ⟨g,cap,cur,hv,hg,hh,r⟩
 ·exact .inl h2
 ·refine .inr ⟨g,cap,cur,hv,hg,?_,r⟩
  rw [ho.block g ?_];exact hh
  rcases Nat.lt_or_ge g w.heap.size with h | h
  ·exact h
  ·rw [Array.getElem?_eq_none h] at hh;cases hh
theorem OwnT.sl {w:World} {B:Nat} {v:Value} {xs:List TokV} (h:OwnT w B v xs):∃ A c,v = .slice A xs.length c∧xs.length≤c∧c≤maxLen∧RdT w A xs:=by
 obtain ⟨h1,h2⟩:=h
 rcases h2 with ⟨rfl,h0⟩ | ⟨g,cap,cur,rfl,hg,hh,hn,hm,hs,ht⟩
 ·have:xs=[]:=List.eq_nil_of_length_eq_zero h0
  subst this
  exact ⟨none,0,rfl,Nat.le_refl _,Nat.zero_le _,fun h=>by simp at h⟩
 ·refine ⟨_,cap,rfl,hn,hm,fun _=>⟨g,rfl,?_,fun i hi j hj=>?_⟩⟩
  ·rcases Nat.lt_or_ge g w.heap.size with h | h
   ·exact h
   ·rw [Array.getElem?_eq_none h] at hh;cases hh
  ·rw [cell_of_row w g (i * 5+j) cur _ (0,0) hh,← tokL_get xs i hi j hj,← ht,List.getElem?_take,if_pos (by omega)]
   simp
theorem RdT.nx {w w':World} {A:Option Addr} {xs:List TokV} (h:RdT w A xs) (hn:Nx w w'):RdT w' A xs:=fun h0=>by
 obtain ⟨g,e,hg,hc⟩:=h h0
 refine ⟨g,e,Nat.lt_of_lt_of_le hg hn.size,fun i hi j hj=>?_⟩
 rw [← hc i hi j hj]
 unfold World.cell?
 simp only
 rw [hn.block g hg]
theorem RdT.at_ {w:World} {A:Option Addr} {xs:List TokV} (h:RdT w A xs) (i:Nat) (hi:i<xs.length):∃ g,A=some ⟨g,0,none⟩∧g<w.heap.size ∧
  w.cell? ⟨g,i * 5+0,none⟩=some (.int .i64 (xs[i].k:Nat))∧w.cell? ⟨g,i * 5+1,none⟩=some (.string ⟨xs[i].t.toArray⟩)∧w.cell? ⟨g,i * 5+2,none⟩=some (.int .i64 xs[i].n) ∧
  w.cell? ⟨g,i * 5+3,none⟩=some (.int .u64 (xs[i].d:Nat))∧w.cell? ⟨g,i * 5+4,none⟩=some (.int .i64 (xs[i].p:Nat)):=by
 obtain ⟨g,e,hg,hc⟩:=h (by omega)
 exact ⟨g,e,hg,hc i hi 0 (by decide),hc i hi 1 (by decide),hc i hi 2 (by decide),hc i hi 3 (by decide),hc i hi 4 (by decide)⟩
theorem info_tok:(Tryz.prog.info? 124).map (fun i=>(i.zero,i.size,i.bytes))=some (some (.agg #[.int .i64 0,.string ⟨#[]⟩,.int .i64 0,.int .u64 0,.int .i64 0]),5,48):=by kernel_rfl
section
variable (w:World) {ops:Array Oper} {rest:List Oper} {o:Oper} {a:Act} {Q:Exit→Act→World→Prop}
theorem wpList_appT (hgd:o.guard=none) (s x:Operand) (ho:o.op = .call { callee:=.builtin .append,args:=#[s,x],argTypes:=#[115,115] })
  (B:Nat) (v:Value) (xs:List TokV) (y:TokV) (hs:a.eval s=v) (hown:OwnT w B v xs) (g:Nat) (hx:a.eval x = .slice (some ⟨g,0,none⟩) 1 1)
  (hy:∀ j,j<5→w.cell? ⟨g,j,none⟩=(tokC y)[j]?) (h63:(xs.length:Int)≤100000) (hB:B≤w.heap.size)
  (h:∀ v' w',OwnT w' B v' (xs++[y])→Below B w w'→(∀ k,k<w.heap.size→v.ownBlock≠some k→w'.heap[k]? = w.heap[k]?)→wpList Tryz.prog ops Q rest (a.put o.dst v') w'):wpList Tryz.prog ops Q (o :: rest) a w:=by
 refine wpList_plain hgd fun K hK=>?_
 obtain ⟨i,hi,hz,h1,h2⟩:=info_parts info_tok
 have hcells:∀ j u,((tokC y).toList)[j]? = some u→w.cell? ((⟨g,0,none⟩:Addr).add j)=some u:=by
  intro j u hu
  have hj:j<5:=by
   rcases Nat.lt_or_ge j 5 with h | h
   ·exact h
   ·rw [List.getElem?_eq_none (by simpa [tokC] using h)] at hu;cases hu
  rw [Addr.add_lit,Nat.zero_add,hy j hj]
  rw [← hu];simp
 have hone:∀ u ∈ (tokC y).toList,u.oneCell'=true:=by
  intro u hu
  simp [tokC] at hu
  rcases hu with rfl | rfl | rfl | rfl | rfl <;> rfl
 obtain ⟨v',w',hrun,ho',hg,_⟩:=run_append_own_at (P:=Tryz.prog) w B 115 o.type 124 i _ 5 48 Tryz.underlying115 hi hz h1 h2 rfl (by decide) v xs.length (tokL xs) hown ⟨g,0,none⟩ 1 1 (tokC y).toList rfl hcells hone (by simp [maxLen];omega) (by omega) hB
 have hbel:Below B w w':=(Below.refl B w).grown hg hB fun k hk=>(World.ownsRow.lt hown k hk).1
 have hown':OwnT w' B v' (xs++[y]):=by
  unfold OwnT
  rw [List.length_append,tokL_snoc]
  exact ho'
 have:=hK _ _ (h v' w' hown' hbel (fun k hk hne=>hg.block k hk (Ne.symm hne)))
 unfold Oper.wp execOp
 simp only [ho,resolve,invoke,builtin,Sem.run_bind,Sem.run_pure,Result.andThen_ok,List.map_toArray,List.map_cons,List.map_nil,hs,hx,hrun]
 exact this
end
end Go.Proofs.YtpfecpcgdfbekaaGreatDoor
namespace Go.Proofs.YtpfecpcgdfbekaaGreatDoor
open Go.RowKit
def isLtS (c:UInt8):Bool:=isLetS c || decide (c.toNat=95)
theorem isNm_iff (c:UInt8):isNmS c=(isLtS c || isDig c || decide (c.toNat=46)):=by
 unfold isNmS isLtS
 cases isLetS c <;> cases isDig c <;> simp
set_option maxRecDepth 100000 in
set_option maxHeartbeats 800000 in
theorem refLetter_any (c:UInt8) (w:World) :
  Calls Tryz.prog 30 #[.int .u8 (c.toNat:Int)] w fun e w'=>e = .returned (.bool (isLtS c))∧w'=w:=by
 go_enter Tryz.func30,Tryz.ntmps30
 go_wp2_with fail
 all_goals
  go_ret
  refine ⟨congrArg (fun b=>Ending.returned (Value.bool b)) ?_,rfl⟩
  rw [Bool.eq_iff_iff]
  simp [isLtS,isLetS]
  omega
set_option maxRecDepth 100000 in
set_option maxHeartbeats 800000 in
theorem refDigit_any (c:UInt8) (w:World) :
  Calls Tryz.prog 32 #[.int .u8 (c.toNat:Int)] w fun e w'=>e = .returned (.bool (isDig c))∧w'=w:=by
 go_enter Tryz.func32,Tryz.ntmps32
 go_wp2_with fail
 all_goals
  go_ret
  refine ⟨congrArg (fun b=>Ending.returned (Value.bool b)) ?_,rfl⟩
  rw [Bool.eq_iff_iff]
  simp [isDig]
  omega
theorem results_none {P:Program} {fn:Func} (h:fn.results=#[]) (tmps:Array Value) (w:World):(results fn tmps).run P w = .ok (.tuple #[]) w:=by
 simp [results,h]
end Go.Proofs.YtpfecpcgdfbekaaGreatDoor
namespace Go.Proofs.YtpfecpcgdfbekaaGreatDoor
open Go.RowKit
theorem isDig_iff (c:UInt8):isDig c=true↔48≤c.toNat∧c.toNat≤57:=by unfold isDig;simp
end Go.Proofs.YtpfecpcgdfbekaaGreatDoor
namespace Go.Proofs.YtpfecpcgdfbekaaGreatDoor
open Go.RowKit
structure Such (F:Nat) (p:UInt8→Bool):Prop where
 enter:∀ args w,(callFunc F args).run Tryz.prog w = .ok (.enter F args) w
 calls:∀ (c:UInt8) (w:World),Calls Tryz.prog F #[.int .u8 (c.toNat:Int)] w fun e w'=>e = .returned (.bool (p c))∧w'=w
end Go.Proofs.YtpfecpcgdfbekaaGreatDoor
namespace Go.Proofs.YtpfecpcgdfbekaaGreatDoor
open Go.RowKit
end Go.Proofs.YtpfecpcgdfbekaaGreatDoor
namespace Go.Proofs.YtpfecpcgdfbekaaGreatDoor
open Go.RowKit
theorem sgnN_le (l:List UInt8):sgnN l≤l.length∧sgnN l≤1:=by
 cases l with
 | nil=>exact ⟨Nat.le_refl _,Nat.zero_le _⟩
 | cons c l=>unfold sgnN;dsimp only;split <;> simp
theorem digN_le (l:List UInt8):digN l≤l.length:=spanN_le _ _
end Go.Proofs.YtpfecpcgdfbekaaGreatDoor
namespace Go.Proofs.YtpfecpcgdfbekaaGreatDoor
open Go.RowKit
theorem fracN_le (l:List UInt8):fracN l≤l.length:=by
 cases l with
 | nil=>exact Nat.le_refl _
 | cons c r =>
  unfold fracN;dsimp only
  have:=digN_le r
  split
  ·simp;omega
  ·simp
theorem expN_le (l:List UInt8):expN l≤l.length:=by
 cases l with
 | nil=>exact Nat.le_refl _
 | cons c r =>
  unfold expN;dsimp only
  have h1:=digN_le (r.drop (sgnN r))
  have h2:=(sgnN_le r).1
  split
  ·simp at h1 ⊢;omega
  ·simp
theorem isHex_iff (c:UInt8):isHexS c=true↔(48≤c.toNat∧c.toNat≤57)∨(97≤c.toNat∧c.toNat≤102)∨(65≤c.toNat∧c.toNat≤70):=by
 unfold isHexS isDig;simp;omega
theorem hexV_lt (c:UInt8) (h:isHexS c=true):hexV c≤15:=by
 have:=(isHex_iff c).1 h
 unfold hexV;split
 ·omega
 ·split <;> omega
end Go.Proofs.YtpfecpcgdfbekaaGreatDoor
namespace Go.Proofs.YtpfecpcgdfbekaaGreatDoor
open Go.RowKit
def hexI (c:UInt8):Int:=if isHexS c then (hexV c:Nat) else -1
set_option maxRecDepth 100000 in
set_option maxHeartbeats 1600000 in
theorem refHex_any (c:UInt8) (w:World) :
  Calls Tryz.prog 117 #[.int .u8 (c.toNat:Int)] w fun e w'=>e = .returned (.int .i64 (hexI c))∧w'=w:=by
 go_enter Tryz.func117,Tryz.ntmps117
 go_wp2_with fail
 refine (refDigit_any c w).mono ?_;rintro e w' ⟨rfl,rfl⟩
 obtain ⟨D,HD⟩:∃ D,Hid (isDig c=D):=⟨_,rfl⟩
 have hD:isDig c=D:=HD.out
 have h8:(c.toNat:Int)≤255:=by have:=c.toNat_lt;omega
 cases D
 ·have hnd:¬ (48≤c.toNat∧c.toNat≤57):=by rw [← Bool.not_eq_true,isDig_iff] at hD;exact hD
  rw [HD.out]
  by_cases c1:97≤c.toNat∧c.toNat≤102
  ·obtain ⟨R,hR⟩:∃ R:Nat,(c.toNat:Int) - 97=(R:Int):=⟨c.toNat - 97,by omega⟩
   have hX:Hid (hexI c=(R:Int)+10):=by unfold Hid hexI;rw [if_pos ((isHex_iff c).2 (.inr (.inl c1)))];unfold hexV;rw [if_pos c1];omega
   have i1:(97:Int)≤(c.toNat:Int):=by omega
   have i2:(c.toNat:Int)≤102:=by omega
   have b1:decide ((97:Int)≤(c.toNat:Int))=true:=decide_eq_true i1
   have b2:decide ((c.toNat:Int)≤102)=true:=decide_eq_true i2
   have i3:(R:Int)≤5:=by omega
   clear hnd c1 hD
   go_wp2_with fail
   go_ret
   rw [hX.out]
   exact ⟨by first | rfl | go_num,rfl⟩
  ·by_cases c2:65≤c.toNat∧c.toNat≤70
   ·obtain ⟨R,hR⟩:∃ R:Nat,(c.toNat:Int) - 65=(R:Int):=⟨c.toNat - 65,by omega⟩
    have hX:Hid (hexI c=(R:Int)+10):=by unfold Hid hexI;rw [if_pos ((isHex_iff c).2 (.inr (.inr c2)))];unfold hexV;rw [if_neg c1,if_pos c2];omega
    have i1:(65:Int)≤(c.toNat:Int):=by omega
    have i2:(c.toNat:Int)≤70:=by omega
    have b0:decide ((97:Int)≤(c.toNat:Int))=false:=decide_eq_false (by omega)
    have b1:decide ((65:Int)≤(c.toNat:Int))=true:=decide_eq_true i1
    have b2:decide ((c.toNat:Int)≤70)=true:=decide_eq_true i2
    have i3:(R:Int)≤5:=by omega
    clear hnd c1 c2 hD
    go_wp2_with fail
    go_ret
    rw [hX.out]
    exact ⟨by first | rfl | go_num,rfl⟩
   ·have hX:Hid (hexI c = -1):=by unfold Hid hexI;rw [if_neg];rw [isHex_iff];omega
    by_cases d1:97≤c.toNat
    ·have b0:decide ((97:Int)≤(c.toNat:Int))=true:=decide_eq_true (by omega)
     have b1:decide ((c.toNat:Int)≤102)=false:=decide_eq_false (by omega)
     have b2:decide ((65:Int)≤(c.toNat:Int))=true:=decide_eq_true (by omega)
     have b3:decide ((c.toNat:Int)≤70)=false:=decide_eq_false (by omega)
     clear hnd c1 c2 hD
     go_wp2_with fail
     go_ret
     rw [hX.out]
     exact ⟨rfl,rfl⟩
    ·have b0:decide ((97:Int)≤(c.toNat:Int))=false:=decide_eq_false (by omega)
     by_cases d2:65≤c.toNat
     ·have b2:decide ((65:Int)≤(c.toNat:Int))=true:=decide_eq_true (by omega)
      have b3:decide ((c.toNat:Int)≤70)=false:=decide_eq_false (by omega)
      clear hnd c1 c2 hD
      go_wp2_with fail
      go_ret
      rw [hX.out]
      exact ⟨rfl,rfl⟩
     ·have b2:decide ((65:Int)≤(c.toNat:Int))=false:=decide_eq_false (by omega)
      clear hnd c1 c2 hD
      go_wp2_with fail
      go_ret
      rw [hX.out]
      exact ⟨rfl,rfl⟩
 ·have hd:=(isDig_iff c).1 hD
  obtain ⟨R,hR⟩:∃ R:Nat,(c.toNat:Int) - 48=(R:Int):=⟨c.toNat - 48,by omega⟩
  have hX:Hid (hexI c=(R:Int)):=by unfold Hid hexI;rw [if_pos ((isHex_iff c).2 (.inl hd))];unfold hexV;rw [if_neg (by omega),if_neg (by omega)];omega
  have i1:(48:Int)≤(c.toNat:Int):=by omega
  have i2:(c.toNat:Int)≤57:=by omega
  have i3:(R:Int)≤9:=by omega
  rw [HD.out]
  clear hd hD
  go_wp2_with fail
  go_ret
  rw [hX.out]
  exact ⟨rfl,rfl⟩
set_option maxRecDepth 100000 in
set_option maxHeartbeats 1600000 in
theorem starts_any (s:ByteArray) (l:List UInt8) (o:Nat) (a b:UInt8) (w:World) (hl:Tx s l) (hs:(l.length:Int)≤100000) (ho:(o:Int)≤100000) :
  Calls Tryz.prog 93 #[.string s,.int .i64 (o:Int),.string ⟨#[a,b]⟩] w fun e w'=>e = .returned (.bool (decide ((l.drop o).head? = some a∧((l.drop o).drop 1).head? = some b)))∧w'=w:=by
 have hz:(s.size:Int)=(l.length:Int):=by rw [hl.size]
 obtain ⟨B,hB⟩:∃ B,Hid (decide ((l.drop o).head? = some a∧((l.drop o).drop 1).head? = some b)=B):=⟨_,rfl⟩
 rw [hB.out]
 by_cases hlt:o+2≤l.length
 ·obtain ⟨u,hu,HU⟩:=hl.mid o (o+2)
  have g1:decide ((o:Int)+2≤(l.length:Int))=true:=decide_eq_true (by omega)
  have i1:(o:Int)+2≤(l.length:Int):=by omega
  have e1:(u.toList == [a,b])=B:=by
   rw [HU.out.toL,← hB.out,List.drop_take,Bool.eq_iff_iff,beq_iff_eq,decide_eq_true_iff]
   have:o+2 - o=2:=by omega
   rw [this]
   have hd:∃ x y r,l.drop o=x :: y :: r:=by
    have h1:(l.drop o).length=l.length - o:=List.length_drop ..
    match hdl:l.drop o with
    | []=>rw [hdl] at h1;simp at h1;omega
    | [x]=>rw [hdl] at h1;simp at h1;omega
    | x :: y :: r=>exact ⟨x,y,r,rfl⟩
   obtain ⟨x,y,r,hd⟩:=hd
   rw [hd]
   simp
  have e2:((⟨#[a,b]⟩:ByteArray).toList)=[a,b]:=(Tx.of [a,b]).toL
  clear hl
  go_enter Tryz.func93,Tryz.ntmps93
  go_wp2_with fail
  go_ret
  exact ⟨rfl,rfl⟩
 ·have g1:decide ((o:Int)+2≤(l.length:Int))=false:=decide_eq_false (by omega)
  have hb:B=false:=by
   rw [← hB.out]
   rw [decide_eq_false_iff_not]
   rintro ⟨h1,h2⟩
   have h3:(l.drop o).length=l.length - o:=List.length_drop ..
   match hdl:l.drop o with
   | []=>rw [hdl] at h1;simp at h1
   | [x]=>rw [hdl] at h2;simp at h2
   | x :: y :: r=>rw [hdl] at h3;simp at h3;omega
  subst hb
  clear hl hlt
  go_enter Tryz.func93,Tryz.ntmps93
  go_wp2_with fail
  go_ret
  exact ⟨rfl,rfl⟩
end Go.Proofs.YtpfecpcgdfbekaaGreatDoor
namespace Go.Proofs.YtpfecpcgdfbekaaGreatDoor
open Go.RowKit
abbrev Lxb (w:World) (b:Nat) (s:ByteArray) (i e a:Nat):Prop:=Blk w b b #[.string s,.int .i64 (i:Int),.int .i64 (e:Int),.int .i64 (a:Int)] 157
theorem Lxb.put1 {w:World} {b:Nat} {s:ByteArray} {i e a:Nat} (h:Lxb w b s i e a) (i':Nat):Lxb (w.setCell ⟨b,1,none⟩ (.int .i64 (i':Int))) b s i' e a:=h.put 1 _
theorem Lxb.fail {w:World} {b:Nat} {s:ByteArray} {i e a:Nat} (h:Lxb w b s i e a) (e' a':Nat):Lxb ((w.setCell ⟨b,2,none⟩ (.int .i64 (e':Int))).setCell ⟨b,3,none⟩ (.int .i64 (a':Int))) b s i e' a':=(h.put 2 _).put 3 _
theorem Lxb.cells {w:World} {b:Nat} {s:ByteArray} {i e a:Nat} (h:Lxb w b s i e a) :
  w.cell? ⟨b,0,none⟩=some (.string s)∧w.cell? ⟨b,1,none⟩=some (.int .i64 (i:Int))∧w.cell? ⟨b,2,none⟩=some (.int .i64 (e:Int))∧w.cell? ⟨b,3,none⟩=some (.int .i64 (a:Int)) ∧
  w.frozen? ⟨b,0,none⟩=false∧w.frozen? ⟨b,1,none⟩=false∧w.frozen? ⟨b,2,none⟩=false∧w.frozen? ⟨b,3,none⟩=false :=
 ⟨h.cell 0,h.cell 1,h.cell 2,h.cell 3,h.free 0,h.free 1,h.free 2,h.free 3⟩
set_option maxRecDepth 100000 in
set_option maxHeartbeats 800000 in
theorem lxfail_any (b:Nat) (s:ByteArray) (i e a E A:Nat) (w:World) (hB:Lxb w b s i e a) :
  Calls Tryz.prog 94 #[.pointer (some ⟨b,0,none⟩),.int .i64 (E:Int),.int .i64 (A:Int)] w fun e' w'=>e' = .returned (.tuple #[])∧Lxb w' b s i E A∧Oth b w w':=by
 obtain ⟨c0,c1,c2,c3,f0,f1,f2,f3⟩:=hB.cells
 have HB:=Lib.hid hB
 clear hB
 go_enter Tryz.func94,Tryz.ntmps94
 go_wp2_with fail
 go_end0
 exact ⟨rfl,HB.out.fail E A,(Oth.set _ _ _ _).own⟩
theorem gap_cons (c:UInt8) (r:List UInt8):gapS (c :: r)=if c=35∨(c=47∧r.head? = some 47) then (lineN (c :: r),true)
  else if c=47∧r.head? = some 42 then (match noteN (r.drop 1) with | none=>(0,false) | some n=>(n+4,true))
  else (spanN isWhS (c :: r),true):=rfl
theorem skip_white (c:UInt8) (r:List UInt8) (h:isWhS c=true):skipS (c :: r)=((skipS r).1+1,(skipS r).2):=by
 have hc:¬ (c=35∨(c=47∧r.head? = some 47))∧¬ (c=47∧r.head? = some 42):=by
  have h1:c≠35:=by rintro rfl;revert h;decide
  have h2:c≠47:=by rintro rfl;revert h;decide
  simp [h1,h2]
 have hg:gapS (c :: r)=(spanN isWhS r+1,true):=by
  rw [gap_cons,if_neg hc.1,if_neg hc.2]
  conv=>lhs;unfold spanN
  rw [if_pos h]
 rw [skipS_step (c :: r),hg]
 dsimp only
 rw [if_neg (by omega),List.drop_succ_cons]
 cases r with
 | nil=>rfl
 | cons d r =>
  by_cases hd:isWhS d=true
  ·have hcd:¬ (d=35∨(d=47∧r.head? = some 47))∧¬ (d=47∧r.head? = some 42):=by
    have h1:d≠35:=by rintro rfl;revert hd;decide
    have h2:d≠47:=by rintro rfl;revert hd;decide
    simp [h1,h2]
   have hgd:gapS (d :: r)=(spanN isWhS (d :: r),true):=by
    rw [gap_cons,if_neg hcd.1,if_neg hcd.2]
   have hpos:spanN isWhS (d :: r)≠0:=by unfold spanN;rw [if_pos hd];omega
   conv=>rhs;rw [skipS_step (d :: r),hgd]
   dsimp only
   rw [if_neg hpos]
   ext
   ·dsimp only;omega
   ·rfl
  ·have h0:spanN isWhS (d :: r)=0:=by unfold spanN;rw [if_neg hd]
   rw [h0,List.drop_zero]
   ext
   ·dsimp only;omega
   ·rfl
theorem skip_line (c:UInt8) (r:List UInt8) (h:c=35∨(c=47∧r.head? = some 47)):skipS (c :: r)=(lineN (c :: r)+(skipS ((c :: r).drop (lineN (c :: r)))).1,(skipS ((c :: r).drop (lineN (c :: r)))).2)∧lineN (c :: r)≠0:=by
 have hg:gapS (c :: r)=(lineN (c :: r),true):=by
  rw [gap_cons,if_pos h]
 have hp:lineN (c :: r)≠0:=by
  unfold lineN spanN
  rw [if_pos]
  ·omega
  ·rcases h with rfl | ⟨rfl,_⟩ <;> decide
 refine ⟨?_,hp⟩
 rw [skipS_step (c :: r),hg]
 dsimp only
 rw [if_neg hp]
theorem skip_note (r:List UInt8) (h:r.head? = some 42):(noteN (r.drop 1)=none→skipS (47 :: r)=(0,false)) ∧
  ∀ n,noteN (r.drop 1)=some n→skipS (47 :: r)=(n+4+(skipS ((47 :: r).drop (n+4))).1,(skipS ((47 :: r).drop (n+4))).2):=by
 have hg:gapS (47 :: r)=match noteN (r.drop 1) with | none=>(0,false) | some n=>(n+4,true):=by
  rw [gap_cons,if_neg (by rw [h];simp),if_pos ⟨rfl,h⟩]
 refine ⟨fun h1=>?_,fun n h1=>?_⟩
 ·rw [skipS_step,hg,h1];rfl
 ·rw [skipS_step,hg,h1]
  dsimp only
  rw [if_neg (by omega)]
theorem skip_none (c:UInt8) (r:List UInt8) (h1:isWhS c=false) (h2:¬ (c=35∨(c=47∧r.head? = some 47))) (h3:¬ (c=47∧r.head? = some 42)):skipS (c :: r)=(0,true):=by
 have hg:gapS (c :: r)=(0,true):=by
  rw [gap_cons,if_neg h2,if_neg h3]
  unfold spanN
  rw [if_neg (by rw [h1];decide)]
 rw [skipS_step,hg]
 rfl
theorem noteN_step (l:List UInt8):(l.head? = some 42∧(l.drop 1).head? = some 47→noteN l=some 0) ∧
  (¬ (l.head? = some 42∧(l.drop 1).head? = some 47)→noteN l=(noteN (l.drop 1)).map (· + 1)):=by
 cases l with
 | nil=>exact ⟨fun h=>by simp at h,fun _=>rfl⟩
 | cons c l =>
  constructor
  ·rintro ⟨h1,h2⟩
   unfold noteN
   rw [if_pos ⟨by simpa using h1,by simpa using h2⟩]
  ·intro h
   conv=>lhs;unfold noteN
   rw [if_neg (fun h'=>h ⟨by simp [h'.1],by simpa using h'.2⟩)]
   rfl
end Go.Proofs.YtpfecpcgdfbekaaGreatDoor
