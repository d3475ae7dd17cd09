/- KinHdp OwnB KinLp AlO AlP AlA KinA -/
import Derived.Test.YtpfecpcgdfbekaaGreatDoorG09
import Derived.Test.YtpfecpcgdfbekaaGreatDoorR00
import Derived.Test.YtpfecpcgdfbekaaGreatDoorG01
import Derived.Deep.Upon
import Derived.Deep.AppendSrc
import Derived.Deep.MidRow
import Derived.Lib.SmallJoins
import Derived.Test.YtpfecpcgdfbekaaGreatDoorG02
import Derived.Test.YtpfecpcgdfbekaaGreatDoorG33
import Derived.Test.YtpfecpcgdfbekaaGreatDoorG26
import Derived.Test.YtpfecpcgdfbekaaGreatDoorG22
import Derived.Test.YtpfecpcgdfbekaaGreatDoorG31
import Derived.Test.YtpfecpcgdfbekaaGreatDoorProg
import Derived.Test.YtpfecpcgdfbekaaGreatDoorShelf
import Derived.Test.YtpfecpcgdfbekaaGreatDoorG08
import Derived.Laws.Rows
import Derived.Laws.ResultCell
import Derived.IntWalk
set_option linter.unusedVariables false
set_option linter.unusedSimpArgs false
set_option linter.unnecessarySimpa false
set_option linter.unusedSectionVars false
namespace Go.Proofs.YtpfecpcgdfbekaaGreatDoor
open Go.RowKit
def headW (l:List UInt8):Nat×List UInt8×List UInt8×List UInt8:=if (wholeT l).1≠0 then (0,[],[],[]) else headT (wholeT l).2
def bA (l:List UInt8):ByteArray:=⟨l.toArray⟩
theorem bA_tx {s:ByteArray} {l:List UInt8} (h:Tx s l):s=bA l:=h.eq
theorem ReadR.form {w w':World} {s:ByteArray} {l:List UInt8} {e:Ending} (h:ReadR w s l e w'):∃ (o D:Int) (T:ByteArray) (v:Value) (m:Option Nat),
  e = .returned (.tuple #[.agg #[.int .i64 ((headW l).1:Nat),.string (bA (headW l).2.1),.string (bA (headW l).2.2.1),.string (bA (headW l).2.2.2)],.agg #[.string T,.int .i64 o,.int .i64 0,.int .i64 D,v,.map m],.int .i64 ((wholeT l).1:Nat)]) ∧
  D=((if (wholeT l).1≠0 then 0 else depthT (wholeT l).2:Nat):Int)∧OwnN w' w.heap.size v (if (wholeT l).1≠0 then [] else nmB (wholeT l).2)∧Nx w w'∧∃ A n c,v = .slice A n c:=by
 obtain ⟨hn,⟨h1,rfl⟩ | ⟨h1,K,N,A,C,o,v,sb,rfl,hh,ho⟩⟩:=h
 ·refine ⟨0,0,⟨#[]⟩,.slice none 0 0,none,?_,by rw [if_pos h1];rfl,by rw [if_pos h1];exact OwnS.nil_ _ _,hn,_,_,_,rfl⟩
  unfold headW
  rw [if_pos h1]
  rfl
 ·obtain ⟨hK,hN,hA,hC⟩:=hh
  obtain ⟨A5,q5,hv5,-,-,-⟩:=OwnS.sl strC_size ho
  refine ⟨o,_,s,v,some sb,?_,rfl,by rw [if_neg (by simpa using h1)];exact ho,hn,_,_,_,hv5⟩
  unfold headW
  rw [if_neg (by simpa using h1),if_neg (by simpa using h1),h1,hK,bA_tx hN,bA_tx hA,bA_tx hC]
  rfl
end Go.Proofs.YtpfecpcgdfbekaaGreatDoor
namespace Go.Proofs.YtpfecpcgdfbekaaGreatDoor
open Go.RowKit
theorem wpList_bytesB {P:Program} (w:World) {ops:Array Oper} {rest:List Oper} {o:Oper} {a:Act} {Q:Exit→Act→World→Prop} {src dst e:TypeId} (hgd:o.guard=none) (x:Operand) (ho:o.op = .convert src dst x) (hs:P.underlying src=some .string) (hd:P.underlying dst=some (.slice e)) (he:P.underlying e=some (.int .u8))
  (s:ByteArray) (l:List UInt8) (hl:Tx s l) (hx:a.eval x = .string s) (hm:l.length≤maxLen)
  (h:∀ v w',OwnB w' w.heap.size v l→Nx w w'→wpList P ops Q rest (a.put o.dst v) w'):wpList P ops Q (o :: rest) a w:=by
 refine wpList_plain hgd fun K hK=>?_
 have hrun:=Lib.run_convert_string_bytes (P:=P) w src dst e s hs hd he
 have hn:Nx w (Lib.bytesWorld w e s):=Joins.below_bytesWorld _ w e s (Nat.le_refl _)
 have hsz:s.size=l.length:=hl.size
 have hge:=grownCap_ge w s.size 0 e
 have hcs:(Lib.bytesCells w e s).size=grownCap w s.size 0 e:=by
  unfold Lib.bytesCells
  simp
  have:s.data.size=s.size:=rfl
  omega
 have hnew:=Lib.bytesWorld_at_new w e s
 have hr:OwnB (Lib.bytesWorld w e s) w.heap.size (.slice (some ⟨w.heap.size,0,none⟩) s.size (grownCap w s.size 0 e)) l:=by
  refine ⟨w.heap.size,grownCap w s.size 0 e,by rw [hsz],Nat.le_refl _,by rw [Lib.bytesWorld_size];omega,by omega,grownCap_le_maxLen _ _ _ _ (by omega),fun j hj=>?_,fun j hj=>?_⟩
  ·rw [← hcs] at hj
   constructor
   ·simp only [World.cell?,hnew]
    simp [hj]
   ·simp only [World.frozen?,hnew]
    simp
    omega
  ·rw [Lib.bytesWorld_cell w e s j (by omega),show s.data.toList=l from hl]
   simp [bv,hj]
 have:=hK _ _ (h _ _ hr hn)
 unfold Oper.wp execOp
 simp only [ho,Sem.run_bind,Sem.run_pure,Result.andThen_ok,hx,hrun]
 exact this
theorem heap_setCells_tape (b:Nat):∀ (vs:List Value) (o:Nat) (w:World),(w.setCells b o vs).tape=w.tape∧(w.setCells b o vs).heap.size=w.heap.size
 | [],_,_=>⟨rfl,rfl⟩
 | v :: r,o,w=>by
  have h:=heap_setCells_tape b r (o+1) (w.setCell ⟨b,o,none⟩ v)
  rw [World.setCells]
  exact ⟨h.1,by rw [h.2];simp [World.setCell]⟩
theorem wpList_appB {P:Program} (w:World) {ops:Array Oper} {rest:List Oper} {o:Oper} {a:Act} {Q:Exit→Act→World→Prop} (hgd:o.guard=none) (s x:Operand) (t tx e:TypeId)
  (ho:o.op = .call { callee:=.builtin .append,args:=#[s,x],argTypes:=#[t,tx] })
  (ht:P.underlying t=some (.slice e)) (hinf:(P.info? e).map (fun i=>(i.zero,i.size,i.bytes))=some (some (.int .u8 0),1,1))
  (B:Nat) (v:Value) (xs ys:List UInt8) (hs:a.eval s=v) (hown:OwnB w B v xs) (xv:Value) (hx:a.eval x=xv) (hsrc:Src P 1 tx xv ys.length (ys.map bv) w)
  (h63:(xs.length:Int)+(ys.length:Int)≤1000000) (hB:B≤w.heap.size)
  (h:∀ v' w',OwnB w' B v' (xs++ys)→Gb v w v' w'→wpList P ops Q rest (a.put o.dst v') w'):wpList P ops Q (o :: rest) a w:=by
 refine wpList_plain hgd fun K hK=>?_
 obtain ⟨i,hi,hz,h1,h2⟩:=info_parts hinf
 have key:∃ v' w',(Builtin.append_ #[t,tx] o.type #[v,xv]).run P w = .ok v' w'∧OwnB w' B v' (xs++ys)∧Gb v w v' w':=by
  obtain ⟨g,c,rfl,b1,b2,b3,b4,b5,b6⟩:=hown
  by_cases hroom:xs.length+ys.length≤c
  ·have hr:=run_append_room_src (P:=P) w t tx o.type e i ht hi g 0 xs.length c xv ys.length (ys.map bv) (by rw [h1];exact hsrc) hroom
    (fun j hj=>by rw [h1];simp at hj;rw [show 0+xs.length * 1+j=xs.length+j by omega];exact (b5 _ (by omega)).1)
    (fun j hj=>by rw [h1];simp at hj;rw [show 0+xs.length * 1+j=xs.length+j by omega];exact (b5 _ (by omega)).2)
   rw [h1,show 0+xs.length * 1=xs.length by omega] at hr
   have hin:=World.cell?_setCells_in g (ys.map bv) xs.length w (fun j hj=>by simp at hj;exact (b5 _ (by omega)).1)
   refine ⟨_,_,hr,⟨g,c,by rw [List.length_append],b1,by rw [(heap_setCells_tape g _ _ w).2];exact b2,by rw [List.length_append];exact hroom,b4,fun j hj=>⟨World.isSome_setCells g _ _ w _ (b5 j hj).1,by rw [World.frozen?_setCells];exact (b5 j hj).2⟩,fun j hj=>?_⟩,
    ⟨World.os_setCells w _ _ _,(heap_setCells_tape g _ _ w).1,World.output_setCells w _ _ _,by rw [(heap_setCells_tape g _ _ w).2];exact Nat.le_refl _,fun k hk hne=>World.heap_setCells_other w _ _ _ hk (fun e'=>hne (by rw [e'];rfl))⟩⟩
   by_cases hlt:j<xs.length
   ·rw [World.cell?_setCells_out g _ _ w ⟨g,j,none⟩ (fun _ _=>.inl hlt),List.getElem_append_left hlt]
    exact b6 j hlt
   ·rw [List.length_append] at hj
    have:=hin (j - xs.length) (by simp;omega)
    rw [show xs.length+(j - xs.length)=j by omega] at this
    rw [this,List.getElem_append_right (by omega)]
    simp
  ·have hold:(Builtin.firstCells i.size xs.length (.slice (some ⟨g,0,none⟩) xs.length c)).run P w.drew = .ok (xs.map bv).toArray w.drew:=by
    refine run_firstCells_some w.drew i.size xs.length ⟨g,0,none⟩ xs.length c (xs.map bv) (by rw [h1];simp) fun j u hu=>?_
    have hj:j<xs.length:=by
     rcases Nat.lt_or_ge j xs.length with h | h
     ·exact h
     ·rw [List.getElem?_eq_none (by simpa using h)] at hu;cases hu
    rw [Addr.add_lit,Nat.zero_add]
    have:=b6 j hj
    simp [hj] at hu
    rw [← hu]
    exact this
   have hr:=run_append_grow_src (P:=P) w t tx o.type e i (.int .u8 0) ht hi hz (some ⟨g,0,none⟩) xs.length c (xs.map bv) hold xv ys.length (ys.map bv) (by rw [h1];exact hsrc) (by omega) (by omega) (growslice_fits (by omega) (by rw [h2];omega))
   have hge:=grownCap_ge w (xs.length+ys.length) c e
   refine ⟨_,_,hr,⟨w.heap.size,grownCap w (xs.length+ys.length) c e,by rw [List.length_append],hB,by simp,by rw [List.length_append];exact hge,grownCap_le_maxLen _ _ _ _ (by unfold maxLen;omega),fun j hj=>?_,fun j hj=>?_⟩,⟨rfl,rfl,rfl,by simp,fun k hk _=>(nx0 w.drew _).block k hk⟩⟩
   ·have hnew:=Blk.new w.drew ((xs.map bv++ys.map bv).toArray++Builtin.zeroCells (Value.int .u8 0).cells (grownCap w (xs.length+ys.length) c e - (xs.length+ys.length))) e
    refine ⟨?_,hnew.free j⟩
    rw [show (⟨w.heap.size,j,none⟩:Addr)=⟨w.drew.heap.size,j,none⟩ from rfl,hnew.cell j]
    simp [size_zeroCells,Value.cells]
    omega
   ·have hnew:=Blk.new w.drew ((xs.map bv++ys.map bv).toArray++Builtin.zeroCells (Value.int .u8 0).cells (grownCap w (xs.length+ys.length) c e - (xs.length+ys.length))) e
    rw [show (⟨w.heap.size,j,none⟩:Addr)=⟨w.drew.heap.size,j,none⟩ from rfl,hnew.cell j]
    rw [List.length_append] at hj
    rw [Array.getElem?_append_left (by simp;exact hj),← List.map_append]
    have hj2:j<(xs++ys).length:=by rw [List.length_append];exact hj
    rw [List.getElem?_toArray,List.getElem?_map,List.getElem?_eq_getElem hj2]
    rfl
 obtain ⟨v',w',hrun,ho',hgb⟩:=key
 have:=hK _ _ (h v' w' ho' hgb)
 unfold Oper.wp execOp
 simp only [ho,resolve,invoke,builtin,Sem.run_bind,Sem.run_pure,Result.andThen_ok,List.map_toArray,List.map_cons,List.map_nil,hs,hx,hrun]
 exact this
end Go.Proofs.YtpfecpcgdfbekaaGreatDoor
namespace Go.Proofs.YtpfecpcgdfbekaaGreatDoor
open Go.RowKit
theorem show_name (n a b:List UInt8):showS 0 n a b=n:=by simp [showS]
theorem show_none (k:Int) (n a b:List UInt8) (h0:k≠0) (h:k<0∨17≤k):showS k n a b=[]:=by unfold showS;rw [if_neg h0,if_pos h]
theorem show_word (k:Nat) (n a b:List UInt8) (h0:k≠0) (h:k<17):showS (k:Int) n a b=wordK k++partS k a b:=by
 unfold showS
 rw [if_neg (by omega),if_neg (by omega)]
 rfl
def prefS (k:Nat) (a b:List UInt8):Nat→List UInt8
 | 0=>[]
 | 1=>60 :: a
 | 2=>if k=13 then 60 :: a++44 :: b else 60 :: a++[62]
 | _=>60 :: a++44 :: b++[62]
def stopN (k:Nat):Nat:=if k=14∨k=15 then 2 else if k=13 then 3 else 0
theorem pref_stop (k:Nat) (a b:List UInt8):prefS k a b (stopN k)=partS k a b:=by
 unfold stopN partS
 split
 ·rename_i h
  simp [prefS,show k≠13 by omega]
 ·split
  ·simp [prefS]
  ·rfl
theorem sign_stop (k:Nat):signV k (stopN k)=none:=by
 unfold stopN signV
 split
 ·rename_i h
  rw [if_neg (by omega),if_neg (by omega),if_neg (by omega)]
 ·split
  ·rename_i h1 h2;subst h2;rfl
  ·rw [if_neg (by omega),if_neg (by omega),if_neg (by omega)]
theorem sign_before (k i:Nat) (h:i<stopN k):∃ x:UInt8,signV k i=some x.toNat∧(x=60∨x=44∨x=62)∧(x=62→∀ a b,prefS k a b (i+1)=prefS k a b i++[62])∧(x≠62→i<2∧∀ a b,prefS k a b (i+1)=prefS k a b i++x :: (if i=0 then a else b)):=by
 unfold stopN at h
 split at h
 ·rename_i hk
  have h13:k≠13:=by omega
  rcases (show i=0∨i=1 by omega) with rfl | rfl
  ·exact ⟨60,by rcases hk with rfl | rfl <;> rfl,.inl rfl,fun h=>absurd h (by decide),fun _=>⟨by omega,fun a b=>rfl⟩⟩
  ·exact ⟨62,by rcases hk with rfl | rfl <;> rfl,.inr (.inr rfl),fun _ a b=>by simp [prefS,h13],fun h=>absurd rfl h⟩
 ·split at h
  ·rename_i h1 hk
   subst hk
   rcases (show i=0∨i=1∨i=2 by omega) with rfl | rfl | rfl
   ·exact ⟨60,rfl,.inl rfl,fun h=>absurd h (by decide),fun _=>⟨by omega,fun a b=>rfl⟩⟩
   ·exact ⟨44,rfl,.inr (.inl rfl),fun h=>absurd h (by decide),fun _=>⟨by omega,fun a b=>by simp [prefS]⟩⟩
   ·exact ⟨62,rfl,.inr (.inr rfl),fun _ a b=>by simp [prefS],fun h=>absurd rfl h⟩
  ·omega
theorem pref_len (k:Nat) (a b:List UInt8) (i:Nat):(prefS k a b i).length≤a.length+b.length+3:=by
 unfold prefS
 split
 ·simp
 ·simp;omega
 ·split <;> simp <;> omega
 ·simp;omega
theorem word_len (k:Nat):(wordK k).length≤6:=by
 unfold wordK
 repeat' split
 all_goals decide
theorem src_one (P:Program) (w:World) (t e T:TypeId) (x:UInt8) (ht:P.underlying t=some (.slice e)):Src P 1 t (.slice (some ⟨w.heap.size,0,none⟩) 1 1) [x].length ([x].map bv) (w.alloc (.cells #[.int .u8 (x.toNat:Int)] T)):=by
 refine Src.ofSlice _ ht _ 1 1 _ rfl (fun j u hu=>?_) (fun u hu=>?_)
 ·cases j with
  | zero =>
   rw [Addr.add_lit,Nat.zero_add,(Blk.new w #[.int .u8 (x.toNat:Int)] T).cell 0]
   simpa [bv] using hu
  | succ j=>simp at hu
 ·simp at hu;subst hu;rfl
theorem src_str (P:Program) (w:World) (u:TypeId) (s:ByteArray) (l:List UInt8) (hl:Tx s l) (hu:P.underlying u=some .string):Src P 1 u (.string s) l.length (l.map bv) w:=by
 have:=Src.ofString (P:=P) w hu s
 rw [hl.size] at this
 have e:byteCells s=l.map bv:=by unfold byteCells;rw [show s.data.toList=l from hl];rfl
 rw [e] at this
 exact this
end Go.Proofs.YtpfecpcgdfbekaaGreatDoor
namespace Go.Proofs.YtpfecpcgdfbekaaGreatDoor
open Go.RowKit
def defQ (files:List Fil) (i:Int) (j:Nat):Option Dfn:=(files[i.toNat]?).bind fun f=>f.defs[j]?
theorem defQ_at {files:List Fil} {k j:Nat} (hk:k<files.length) (hj:j<files[k].defs.length):defQ files (k:Int) j=some files[k].defs[j]:=by
 unfold defQ
 rw [Int.toNat_natCast,List.getElem?_eq_getElem hk]
 show files[k].defs[j]? = _
 rw [List.getElem?_eq_getElem hj]
theorem txqW_mem:∀ (xs:List (List UInt8×List UInt8)) (nm:List UInt8),(txtW xs nm).getD []=[]∨∃ x ∈ xs,x.2=(txtW xs nm).getD []
 | [],_=>.inl rfl
 | x :: r,nm=>by
  unfold txtW
  split
  ·exact .inr ⟨x,by simp,rfl⟩
  ·rcases txqW_mem r nm with h | ⟨y,hy,h⟩
   ·exact .inl h
   ·exact .inr ⟨y,by simp [hy],h⟩
def txqB (xs:List (List UInt8×List UInt8)):Bool:=xs.all fun x=>numB x.2 && decide (x.1.length≤8000) && decide (x.2.length≤8000)
theorem loadq_w (w:World) (root:List UInt8) (A:Option Addr) (n c:Nat) (xs:List (List UInt8×List UInt8)) (hn:xs.length=n) (hrd:RdW w A xs) (hx:txqB xs=true) (hn6:n≤5)
  (names:List (List UInt8)) (files:List Fil) (m:Nat) (h1:(loadW root xs).names=names) (h2:(loadW root xs).files=files) (he:(loadW root xs).e=0) (hf:(loadW root xs).file=[]) (ha:(loadW root xs).at_=0) (hm:names.length=m) (hok:ldB names files=true) :
  Calls Tryz.prog 8 #[.agg #[.string ⟨root.toArray⟩,.slice A n c]] w fun e w'=>∃ nA nc fA fc,e = .returned (.tuple #[.agg #[.slice nA m nc,.slice fA m fc],.int .i64 0,.string ⟨#[]⟩,.int .i64 0])∧Ldn w' nA fA m nc fc names files∧Nx w w':=by
 have hx':∀ x ∈ xs,numB x.2=true∧x.1.length≤8000∧x.2.length≤8000:=by
  unfold txqB at hx
  simp only [List.all_eq_true,Bool.and_eq_true,decide_eq_true_eq] at hx
  exact fun x h=>⟨(hx x h).1.1,(hx x h).1.2,(hx x h).2⟩
 have hdoc:∀ nm,DocOk ((txtW xs nm).getD []):=fun nm=>by
  rcases txqW_mem xs nm with h | ⟨x,h,e⟩
  ·rw [h];exact docOk_w [] (by decide) rfl
  ·rw [← e];exact docOk_w _ (by have:=(hx' x h).2.2;omega) (hx' x h).1
 refine (dload_of w root A n c xs hn hrd (fun x h=>⟨(hx' x h).2.1,by have:=(hx' x h).2.2;omega⟩) (by omega) hdoc).mono ?_
 rintro e w' ⟨vn,vf,rfl,hnm,hfl,hn1⟩
 rw [h1] at hnm
 rw [h2] at hfl
 have hlf:files.length=m:=by
  unfold ldB at hok
  simp only [Bool.and_eq_true,decide_eq_true_eq] at hok
  omega
 obtain ⟨nA,nc,_,rfl,-⟩:=hnm.sl strA_size
 obtain ⟨fA,fc,_,rfl,-⟩:=hfl.sl (show ∀ x,(filA x).size=3 from fun _=>rfl)
 rw [hm] at hnm ⊢
 rw [hlf] at hfl ⊢
 rw [he,hf,ha]
 exact ⟨nA,nc,fA,fc,rfl,⟨RepL.less REq.lasts hnm (Nat.zero_le _),RepL.less RFile.lasts hfl (Nat.zero_le _),hm,hlf,hok⟩,hn1⟩
end Go.Proofs.YtpfecpcgdfbekaaGreatDoor
namespace Go.Proofs.YtpfecpcgdfbekaaGreatDoor
open Go.RowKit
structure Rs where
 tx:List UInt8
 k:Nat
 d:Nat
def rs0:Rs:=⟨[],0,0⟩
structure Vi where
 en:Bool
 wh:Rs
def vi0:Vi:=⟨false,rs0⟩
abbrev Vis:=List ((List UInt8×List UInt8)×Vi)
structure Alo where
 e:Nat
 r:Rs
 vis:Vis
def isK (k:Nat):Bool:=[2,3,6,8,10,4,11,16,17].contains k
def rsB (r:Rs):Bool:=decide (r.tx.length≤8000) && decide (r.k≤100) && decide (r.d≤100000)
def aroP (k:Nat) (a b:Rs):Rs:=⟨if 1+max a.d b.d≤12 then showS k [] a.tx b.tx else [],k,1+max a.d b.d⟩
def noAl (e:Nat) (vis:Vis):Alo:=⟨e,rs0,vis⟩
def alB (a:Alo):Alo:=if rsB a.r then a else noAl 99 a.vis
def conW (rec:Vis→List UInt8→List UInt8→Alo) (vis:Vis) (file:List UInt8) (k:Nat) (a b:List UInt8):Alo :=
 if (rec vis file a).e≠0 then noAl (rec vis file a).e (rec vis file a).vis
 else if k≠15∧isK (rec vis file a).r.k=false then noAl 11 (rec vis file a).vis
 else if k=13 then
  if (rec (rec vis file a).vis file b).e≠0 then noAl (rec (rec vis file a).vis file b).e (rec (rec vis file a).vis file b).vis
  else ⟨0,aroP k (rec vis file a).r (rec (rec vis file a).vis file b).r,(rec (rec vis file a).vis file b).vis⟩
 else ⟨0,aroP k (rec vis file a).r rs0,(rec vis file a).vis⟩
def typW (rec:Vis→List UInt8→List UInt8→Alo) (vis:Vis) (at_:List UInt8×List UInt8) (t:List UInt8):Alo:=match getG vis at_ with
 | some v=>if v.en then ⟨0,v.wh,vis⟩ else noAl 9 vis
 | none=>if (rec (putG vis at_ vi0) at_.1 t).e≠0 then rec (putG vis at_ vi0) at_.1 t
  else ⟨0,(rec (putG vis at_ vi0) at_.1 t).r,putG (rec (putG vis at_ vi0) at_.1 t).vis at_ ⟨true,(rec (putG vis at_ vi0) at_.1 t).r⟩⟩
def namW (names:List (List UInt8)) (files:List Fil) (rec:Vis→List UInt8→List UInt8→Alo) (vis:Vis) (file name:List UInt8):Alo:=match findP names files file name with
 | none=>noAl 7 vis
 | some (i,j)=>match defQ files i j with
  | none=>noAl 99 vis
  | some d =>
   if d.k=1 then typW rec vis (names.getD i.toNat [],d.nm) d.ty
   else if d.k=2 then ⟨0,⟨names.getD i.toNat []++[46]++d.nm,17,0⟩,vis⟩
   else if d.k=4∨d.k=5∨d.k=6 then ⟨0,⟨names.getD i.toNat []++[46]++d.nm,12,0⟩,vis⟩
   else noAl 10 vis
def resW (names:List (List UInt8)) (files:List Fil):Nat→Vis→List UInt8→List UInt8→Alo
 | 0,vis,_,_=>noAl 99 vis
 | f+1,vis,file,t =>
  if 8000<t.length∨8000<file.length∨8000<(headW t).2.1.length then noAl 99 vis
  else if (wholeT t).1≠0 then noAl 2 vis
  else if (headW t).1=0 then alB (namW names files (resW names files f) vis file (headW t).2.1)
  else if (headW t).1=15∨(headW t).1=14∨(headW t).1=13 then alB (conW (resW names files f) vis file (headW t).1 (headW t).2.2.1 (headW t).2.2.2)
  else alB ⟨0,⟨showS (headW t).1 [] [] [],(headW t).1,0⟩,vis⟩
def typP (names:List (List UInt8)) (files:List Fil) (file t:List UInt8):List UInt8×Nat×Nat :=
 if (resW names files 60 [] file t).e≠0 then ([],0,(resW names files 60 [] file t).e)
 else if 12<(resW names files 60 [] file t).r.d then ([],0,6)
 else ((resW names files 60 [] file t).r.tx,(resW names files 60 [] file t).r.k,0)
end Go.Proofs.YtpfecpcgdfbekaaGreatDoor
namespace Go.Proofs.YtpfecpcgdfbekaaGreatDoor
open Go.RowKit
def kvA (k:List UInt8×List UInt8):Value:=.agg #[bt k.1,bt k.2]
def vvA (v:Vi):Value:=.agg #[.bool v.en,bt v.wh.tx,.int .i64 (v.wh.k:Int),.int .i64 (v.wh.d:Int)]
def okA (k:List UInt8×List UInt8):Prop:=k.1.length≤8000∧k.2.length≤8000
theorem keyA_in:(139 : TypeId) < Tryz.prog.types.size:=of_decide_eq_true (by kernel_rfl)
theorem keyA_ty:Tryz.prog.keyType 139 = true:=by kernel_rfl
theorem keyA_co:Tryz.prog.cellsOf 139 = 2∧Tryz.prog.cellsOf 9 = 1:=⟨by kernel_rfl,by kernel_rfl⟩
theorem keyA (k:List UInt8×List UInt8) (h:okA k):∃ l,keyOf Tryz.prog 139 (kvA k)=some l:=by
 obtain ⟨s,t⟩:=k
 obtain ⟨h1,h2⟩:=h
 dsimp only at h1 h2
 have hf:(kvA (s,t)).formed Tryz.prog 139 = true:=by
  simp [Value.formed,kvA,Tryz.underlying139,keyA_co.1]
 have hl:(Tryz.prog.keyLits (Tryz.prog.types.size+1) 139 [bt s,bt t])=some [.string s,.string t]:=by
  obtain ⟨m,hm⟩:∃ m,Tryz.prog.types.size=m+1:=⟨Tryz.prog.types.size - 1,by have:=Nat.lt_of_le_of_lt (Nat.zero_le _) keyA_in;omega⟩
  rw [hm]
  have e2:∀ x:List UInt8,x.length≤8000→Tryz.prog.keyLits (m+1) 9 [bt x]=some [.string x]:=fun x hx=>by
   unfold Program.keyLits;rw [Tryz.underlying9];simp [bt,show (ByteArray.mk x.toArray).size≤maxLen from by simp [ByteArray.size,maxLen];omega]
  unfold Program.keyLits
  rw [Tryz.underlying139]
  simp [keyA_co,e2 s h1,e2 t h2,List.range,List.range.loop]
 unfold keyOf
 rw [Tryz.underlying139]
 simp only [keyA_ty,hf,Bool.and_self,if_true]
 exact ⟨_,by rw [show (kvA (s,t)).cells.toList=[bt s,bt t] from rfl,hl];rfl⟩
theorem lawA:Maps.Keyed Tryz.prog 139:=Maps.Keyed.of_law (deep_law_laid laidOutK (m:=2) (by omega) keyA_in (by kernel_rfl) (by rw [Tryz.underlying139]))
theorem mapA:MapL 78 139 169 kvA vvA okA vi0 where
 und:=Tryz.underlying78
 law:=lawA
 key:=keyA
 inj:=fun a b h=>by
  obtain ⟨a1,a2⟩:=a
  obtain ⟨b1,b2⟩:=b
  unfold kvA bt at h
  simp at h
  rw [h.1,h.2]
 zero:=fun w=>by kernel_rfl
theorem isKey_any (w:World) (k:Nat) (hk:k≤100) :
  Calls Tryz.prog 24 #[.int .i64 (k:Int)] w fun e w'=>e = .returned (.bool (isK k))∧w'=w:=by
 have key:∀ k:Nat,k≤17∨isK k=false:=fun k=>by
  by_cases h:k≤17
  ·exact .inl h
  ·right
   simp [isK]
   omega
 rcases key k with h | h
 ·rcases (show k=0∨k=1∨k=2∨k=3∨k=4∨k=5∨k=6∨k=7∨k=8∨k=9∨k=10∨k=11∨k=12∨k=13∨k=14∨k=15∨k=16∨k=17 by omega) with rfl | rfl | rfl | rfl | rfl | rfl | rfl | rfl | rfl | rfl | rfl | rfl | rfl | rfl | rfl | rfl | rfl | rfl <;>
  ·go_enter Tryz.func24,Tryz.ntmps24
   go_wp2_with fail
   go_ret
   exact ⟨rfl,rfl⟩
 ·rw [h]
  simp [isK] at h
  have h2:=h
  go_enter Tryz.func24,Tryz.ntmps24
  have n2:¬ (k:Int)=2:=by omega
  have n3:¬ (k:Int)=3:=by omega
  have n6:¬ (k:Int)=6:=by omega
  have n8:¬ (k:Int)=8:=by omega
  have n10:¬ (k:Int)=10:=by omega
  have n4:¬ (k:Int)=4:=by omega
  have n11:¬ (k:Int)=11:=by omega
  have n16:¬ (k:Int)=16:=by omega
  have n17:¬ (k:Int)=17:=by omega
  clear h h2
  go_wp2_with fail
  go_ret
  exact ⟨rfl,rfl⟩
end Go.Proofs.YtpfecpcgdfbekaaGreatDoor
namespace Go.Proofs.YtpfecpcgdfbekaaGreatDoor
open Go.RowKit
set_option maxRecDepth 100000 in
set_option maxHeartbeats 800000 in
theorem kisLetter_any (c:UInt8) (w:World) :
  Calls Tryz.prog 143 #[.int .u8 (c.toNat:Int)] w fun e w'=>e = .returned (.bool (isLetS c))∧w'=w:=by
 go_enter Tryz.func143,Tryz.ntmps143
 go_wp2_with fail
 all_goals
  go_ret
  refine ⟨congrArg (fun b=>Ending.returned (Value.bool b)) ?_,rfl⟩
  rw [Bool.eq_iff_iff]
  simp [isLetS]
  omega
set_option maxRecDepth 100000 in
set_option maxHeartbeats 800000 in
theorem kisDigit_any (c:UInt8) (w:World) :
  Calls Tryz.prog 144 #[.int .u8 (c.toNat:Int)] w fun e w'=>e = .returned (.bool (isDig c))∧w'=w:=by
 go_enter Tryz.func144,Tryz.ntmps144
 go_wp2_with fail
 all_goals
  go_ret
  refine ⟨congrArg (fun b=>Ending.returned (Value.bool b)) ?_,rfl⟩
  rw [Bool.eq_iff_iff]
  simp [isDig]
  omega
set_option maxRecDepth 100000 in
set_option maxHeartbeats 1600000 in
theorem kisOfName_any (c:UInt8) (w:World) :
  Calls Tryz.prog 126 #[.int .u8 (c.toNat:Int)] w fun e w'=>e = .returned (.bool (isNmS c))∧w'=w:=by
 go_enter Tryz.func126,Tryz.ntmps126
 go_wp2_with fail
 refine (kisLetter_any c w).mono ?_;rintro e w' ⟨rfl,rfl⟩
 obtain ⟨L,HL⟩:∃ L,Hid (isLetS c=L):=⟨_,rfl⟩
 rw [HL.out]
 cases L
 ·go_wp2_with fail
  refine (kisDigit_any c _).mono ?_;rintro e w' ⟨rfl,rfl⟩
  obtain ⟨D,HD⟩:∃ D,Hid (isDig c=D):=⟨_,rfl⟩
  rw [HD.out]
  cases D
  ·go_wp2_with fail
   all_goals
    go_ret
    refine ⟨congrArg (fun b=>Ending.returned (Value.bool b)) ?_,rfl⟩
    rw [Bool.eq_iff_iff]
    simp [isNmS,HL.out,HD.out]
    omega
  ·go_wp2_with fail
   go_ret
   refine ⟨congrArg (fun b=>Ending.returned (Value.bool b)) ?_,rfl⟩
   simp [isNmS,HL.out,HD.out]
 ·go_wp2_with fail
  go_ret
  refine ⟨congrArg (fun b=>Ending.returned (Value.bool b)) ?_,rfl⟩
  simp [isNmS,HL.out]
set_option maxRecDepth 100000 in
set_option maxHeartbeats 800000 in
theorem isPart_any (s:ByteArray) (l:List UInt8) (w:World) (hl:Tx s l) :
  Calls Tryz.prog 128 #[.string s] w fun e w'=>e = .returned (.bool (isPartS l))∧w'=w:=by
 cases l with
 | nil =>
  have e1:=hl.nil.1
  have e2:s.toList.isEmpty=true:=by rw [e1];rfl
  have HL:=Lib.hid hl
  clear hl
  go_enter Tryz.func128,Tryz.ntmps128
  go_wp2_with fail
  go_ret
  exact ⟨rfl,rfl⟩
 | cons c l =>
  obtain ⟨hp,t,e0,e1,ht,e2,e3⟩:=hl.cons
  have HL:=Lib.hid hl
  clear hl ht e1
  go_enter Tryz.func128,Tryz.ntmps128
  go_wp2_with fail
  refine (kisDigit_any c w).mono ?_;rintro e w' ⟨rfl,rfl⟩
  go_wp2_with fail
  go_ret
  exact ⟨rfl,rfl⟩
set_option maxRecDepth 100000 in
set_option maxHeartbeats 800000 in
theorem fresh_any (s:ByteArray) (w:World) :
  Calls Tryz.prog 57 #[.string s] w fun e w'=>e = .returned (.string s)∧Nx w w':=by
 obtain ⟨l,hl⟩:∃ l,Tx s l:=⟨_,rfl⟩
 have he:=Lib.hid hl.eq
 go_enter Tryz.func57,Tryz.ntmps57
 go_wp2_with (first
  | (refine wpList_bytes _ (o:=⟨some 4,_,_,_,_,_⟩) rfl _ rfl Tryz.underlying9 Tryz.underlying22 Tryz.underlying5 s l hl rfl ?_;intro c1 w1 hr1 hw1)
  | (refine wpList_str _ (o:=⟨some 5,_,_,_,_,_⟩) rfl _ rfl Tryz.underlying22 Tryz.underlying5 Tryz.underlying9 _ l _ rfl hr1 ?_;intro t HT ht1 ht2))
 go_ret
 rw [HT.out,← he.out]
 exact ⟨rfl,hw1⟩
def TabK (w:World):Prop:=∃ t fr,w.heap[0]? = some (.cells kwV t fr)
theorem TabK.nx {w w':World} (h:TabK w) (hn:Nx w w'):TabK w':=by
 obtain ⟨t,fr,h⟩:=h
 refine ⟨t,fr,?_⟩
 rw [hn.block _ ?_]
 ·exact h
 ·rcases Nat.lt_or_ge 0 w.heap.size with h1 | h1
  ·exact h1
  ·rw [Array.getElem?_eq_none h1] at h;cases h
set_option maxRecDepth 100000 in
set_option maxHeartbeats 1600000 in
theorem kindOf_any (s:ByteArray) (l:List UInt8) (w:World) (hl:Tx s l) (ht:TabK w) :
  Calls Tryz.prog 104 #[.string s] w fun e w'=>e = .returned (.int .i64 (kindW l:Nat))∧w'=w:=by
 have HL:=Lib.hid hl
 have HT:=Lib.hid ht
 obtain ⟨tt,fr,hg⟩:=ht
 clear hl
 go_enter Tryz.func104,Tryz.ntmps104
 go_wp2_with (refine wpList_load_row rfl _ _ rfl 0 rfl tt kwV fr _ hg Tryz.underlying142 rfl (by kernel_rfl) ?_)
 go_loop [6] (fun i=>∃ k:Nat,k≤17∧i = .int .i64 k∧Hid (∀ j,j<k→wordK j≠l)) (fun i=>17 - (intOf i).toNat)
 case atStart=>exact ⟨0,by decide,rfl,fun j hj=>by omega⟩
 case round =>
  obtain ⟨k,hk,rfl,HK⟩:=hrel
  by_cases hlt:k<17
  ·have hkI:(k:Int)<17:=by omega
   have hkd:decide ((k:Int)<17)=true:=decide_eq_true hkI
   have hat:=kwV_at k hlt
   have hbt:((kwB k).toList == s.toList)=decide (wordK k=l):=by
    rw [HL.out.toL,show (kwB k).toList=wordK k from (Tx.of (wordK k)).toL,Bool.eq_iff_iff]
    simp
   by_cases he:wordK k=l
   ·rw [decide_eq_true he] at hbt
    have HR:=Lib.hid (kind_at l k hlt HK.out he)
    clear he
    go_wp2_with (refine wpList_index_arr _ (o:=⟨some 9,_,_,_,_,_⟩) rfl _ _ 17 _ _ rfl Tryz.underlying142 _ Tryz.underlying9 rfl (by kernel_rfl) kwV rfl k rfl hlt _ hat ?_)
    go_ret
    rw [HR.out]
    exact ⟨rfl,rfl⟩
   ·rw [decide_eq_false he] at hbt
    have HE:=Lib.hid he
    clear he
    go_wp2_with (refine wpList_index_arr _ (o:=⟨some 9,_,_,_,_,_⟩) rfl _ _ 17 _ _ rfl Tryz.underlying142 _ Tryz.underlying9 rfl (by kernel_rfl) kwV rfl k rfl hlt _ hat ?_)
    go_round
    case rel=>exact ⟨k+1,by omega,by go_num,fun j hj=>by
     rcases Nat.lt_or_ge j k with h | h
     ·exact HK.out j h
     ·obtain rfl:j=k:=by omega
      exact HE.out⟩
    case measure=>simp [intOf];omega
  ·obtain rfl:k=17:=by omega
   have HR:=Lib.hid (kind_no l HK.out)
   go_wp2_with fail
   go_ret
   rw [HR.out]
   exact ⟨rfl,rfl⟩
set_option maxRecDepth 100000 in
set_option maxHeartbeats 1600000 in
theorem isName_any (s:ByteArray) (l:List UInt8) (w:World) (hl:Tx s l) (hs:(l.length:Int)≤100000) (ht:TabK w) (hm:MaxC w) :
  Calls Tryz.prog 106 #[.string s] w fun e w'=>e = .returned (.bool (nameOk l))∧∃ n,w'=w.drewN n:=by
 have HL:=Lib.hid hl
 have HT:=Lib.hid ht
 obtain ⟨m,hm⟩:=hm
 have HM:=Lib.hid hm
 have hz:s.size<4294967281:=by rw [hl.size];omega
 have HZ:=Lib.hid hz
 obtain ⟨A,B,C,HC,HF,HN,hA,hB,hC⟩:=cut_parts l
 have HC':=Lib.hid hC
 clear hl ht hm hz hC
 go_enter Tryz.func106,Tryz.ntmps106
 go_wp2_with fail
 refine (Tryz.strings_Cut s ⟨#[46]⟩ m w HZ.out HM.out).mono ?_;rintro e w1 ⟨rfl,n1,hw1⟩
 subst hw1
 rw [show s.data.toList=l from HL.out,show (ByteArray.mk #[46]).data.toList=[46] from rfl,HC.out]
 dsimp only
 go_wp2_with fail
 refine (kindOf_any ⟨A.toArray⟩ A _ (Tx.of _) (HT.out.nx (Nx.drewN w n1))).mono ?_;rintro e w' ⟨rfl,rfl⟩
 by_cases hk:kindW A=0
 ·have HNO2:Hid (nameOk l=farF true l):=by unfold Hid;rw [HN.out,decide_eq_true hk,Bool.and_true]
  rw [hk]
  clear hk
  go_wp2_with fail
  go_loopw [3,4,5] (fun p r m wr=>∃ (A B:List UInt8) (C:Bool) (n:Nat),p = .string ⟨A.toArray⟩∧r = .string ⟨B.toArray⟩∧m = .bool C∧Hid ((isPartS A && (!C || farF true B))=nameOk l)∧B.length≤l.length∧(C=false∨B.length<l.length)∧wr=w.drewN n) (fun _ r m _=>match r,m with | .string b,.bool true=>b.size+1 | _,_=>0)
  case atStart=>exact ⟨A,B,C,n1,rfl,rfl,rfl,by unfold Hid;rw [HNO2.out,HF.out],hB,by cases C;exact .inl rfl;exact .inr (HC'.out rfl),rfl⟩
  case round =>
   obtain ⟨A',B',C',n,rfl,rfl,rfl,HX,hB',hC',rfl⟩:=hrel
   go_wp2_with fail
   refine (isPart_any ⟨A'.toArray⟩ A' _ (Tx.of _)).mono ?_;rintro e w' ⟨rfl,rfl⟩
   obtain ⟨P,HP⟩:∃ P,Hid (isPartS A'=P):=⟨_,rfl⟩
   rw [HP.out] at HX ⊢
   cases P
   ·go_wp2_with fail
    go_ret
    exact ⟨congrArg (fun b=>Ending.returned (Value.bool b)) HX.out,_,rfl⟩
   ·cases C'
    ·go_wp2_with fail
     go_ret
     exact ⟨congrArg (fun b=>Ending.returned (Value.bool b)) HX.out,_,rfl⟩
    ·obtain ⟨A2,B2,C2,HC2,HF2,-,hA2,hB2,hC2⟩:=cut_parts B'
     have HC2':=Lib.hid hC2
     clear hC2
     have hz2:(ByteArray.mk B'.toArray).size<4294967281:=by rw [(Tx.of B').size];omega
     have HZ2:=Lib.hid hz2
     clear hz2
     go_wp2_with fail
     refine (Tryz.strings_Cut ⟨B'.toArray⟩ ⟨#[46]⟩ m (w.drewN n) HZ2.out HM.out).mono ?_;rintro e w2 ⟨rfl,n2,hw2⟩
     subst hw2
     rw [show (ByteArray.mk B'.toArray).data.toList=B' from rfl,show (ByteArray.mk #[46]).data.toList=[46] from rfl,HC2.out]
     dsimp only
     go_wp2_with fail
     go_roundw
     case rel =>
      refine ⟨A2,B2,C2,n+n2,rfl,rfl,rfl,?_,by omega,?_,rfl⟩
      ·unfold Hid
       rw [← HX.out,← HF2.out];rfl
      ·rcases hC' with h | h
       ·cases h
       ·exact .inr (by omega)
     case measure =>
      have h1:(ByteArray.mk B'.toArray).size=B'.length:=(Tx.of B').size
      have h2:(ByteArray.mk B2.toArray).size=B2.length:=(Tx.of B2).size
      have h3:=HC2'.out
      cases C2
      ·simp
      ·have:=h3 rfl
       simp only [h1,h2]
       omega
 ·have hk2:((kindW A:Int) != 0)=true:=by rw [bne_iff_ne];omega
  have HNO2:Hid (nameOk l=false):=by unfold Hid;rw [HN.out,decide_eq_false hk,Bool.and_false]
  clear hk
  go_wp2_with fail
  go_ret
  rw [HNO2.out]
  exact ⟨rfl,_,rfl⟩
end Go.Proofs.YtpfecpcgdfbekaaGreatDoor
