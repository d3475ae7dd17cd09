/- Bytes that the call owns, told by their cells: what []byte(s) gives, and appends to it. Plain lemmas over any program. The type of slices of bytes, and of bytes. The contract of Show. The contracts of types at the cursor. -/
import Derived.Test.YtbblfkdmkpkmcaaGreatDoorG02
import Derived.Deep.Upon
import Derived.Deep.AppendSrc
import Derived.Deep.MidRow
import Derived.Lib.SmallJoins
import Derived.Test.YtbblfkdmkpkmcaaGreatDoorProg
import Derived.Test.YtbblfkdmkpkmcaaGreatDoorG00
import Derived.Test.YtbblfkdmkpkmcaaGreatDoorG08
set_option linter.unusedVariables false
set_option linter.unusedSimpArgs false
set_option linter.unnecessarySimpa false
namespace Go.Proofs.YtbblfkdmkpkmcaaGreatDoor
open Go.RowKit
def OwnB (w:World) (B:Nat) (v:Value) (xs:List UInt8):Prop :=
 ∃ g c,v = .slice (some ⟨g,0,none⟩) xs.length c∧B≤g∧g<w.heap.size∧xs.length≤c∧c≤maxLen∧(∀ j,j<c→(w.cell? ⟨g,j,none⟩).isSome=true∧w.frozen? ⟨g,j,none⟩=false)∧∀ j (h:j<xs.length),w.cell? ⟨g,j,none⟩=some (bv xs[j])
theorem OwnB.own {w:World} {B:Nat} {v:Value} {xs:List UInt8} (h:OwnB w B v xs) (k:Nat) (e:v.ownBlock=some k):B≤k∧k<w.heap.size:=by
 obtain ⟨g,c,rfl,h1,h2,-⟩:=h
 simp [Value.ownBlock] at e
 subst e
 exact ⟨h1,h2⟩
theorem OwnB.rd {w:World} {B:Nat} {v:Value} {xs:List UInt8} (h:OwnB w B v xs):∃ g c,v = .slice (some ⟨g,0,none⟩) xs.length c∧Rd bv w (some ⟨g,0,none⟩) xs:=by
 obtain ⟨g,c,rfl,h1,h2,h3,h4,h5,h6⟩:=h
 exact ⟨g,c,rfl,fun _=>⟨g,0,rfl,h2,fun j hj=>by rw [Nat.zero_add];exact h6 j hj⟩⟩
theorem OwnB.keep {w w':World} {B:Nat} {v:Value} {xs:List UInt8} (h:OwnB w B v xs) (hz:w.heap.size≤w'.heap.size) (hk:∀ k,v.ownBlock=some k→w'.heap[k]? = w.heap[k]?):OwnB w' B v xs:=by
 obtain ⟨g,c,rfl,h1,h2,h3,h4,h5,h6⟩:=h
 have hg:=hk g rfl
 have e1:∀ j,w'.cell? ⟨g,j,none⟩=w.cell? ⟨g,j,none⟩:=fun j=>World.cell?_of_block (a:=⟨g,j,none⟩) hg
 have e2:∀ j,w'.frozen? ⟨g,j,none⟩=w.frozen? ⟨g,j,none⟩:=fun j=>World.frozen?_of_block (a:=⟨g,j,none⟩) hg
 exact ⟨g,c,rfl,h1,by omega,h3,h4,fun j hj=>by rw [e1,e2];exact h5 j hj,fun j hj=>by rw [e1];exact h6 j hj⟩
theorem OwnB.nx {w w':World} {B:Nat} {v:Value} {xs:List UInt8} (h:OwnB w B v xs) (hn:Nx w w'):OwnB w' B v xs:=h.keep hn.size fun k e=>hn.block k (h.own k e).2
structure Gb (v:Value) (w:World) (v':Value) (w':World):Prop where
 os:w'.os=w.os
 tape:w'.tape=w.tape
 output:w'.output=w.output
 size:w.heap.size≤w'.heap.size
 block:∀ k,k<w.heap.size→v.ownBlock≠some k→w'.heap[k]? = w.heap[k]?
theorem Gb.to {v v':Value} {w w1 w':World} (h:Gb v w1 v' w') (hn:Nx w w1) (hv:∀ k,v.ownBlock=some k→w.heap.size≤k):Nx w w' :=
 ⟨h.os.trans hn.os,h.tape.trans hn.tape,h.output.trans hn.output,Nat.le_trans hn.size h.size,fun k hk=>(h.block k (Nat.lt_of_lt_of_le hk hn.size) (fun e=>by have:=hv k e;omega)).trans (hn.block k hk)⟩
theorem wpList_bytesB {P:Program} (w:World) {ops:Array Oper} {rest:List Oper} {o:Oper} {a:Act} {Q:Exit→Act→World→Prop} {src dst e:TypeId} (hgd:o.guard=none) (x:Operand) (ho:o.op = .convert src dst x) (hs:P.underlying src=some .string) (hd:P.underlying dst=some (.slice e)) (he:P.underlying e=some (.int .u8))
  (s:ByteArray) (l:List UInt8) (hl:Tx s l) (hx:a.eval x = .string s) (hm:l.length≤maxLen)
  (h:∀ v w',OwnB w' w.heap.size v l→Nx w w'→wpList P ops Q rest (a.put o.dst v) w'):wpList P ops Q (o :: rest) a w:=by
 refine wpList_plain hgd fun K hK=>?_
 have hrun:=Lib.run_convert_string_bytes (P:=P) w src dst e s hs hd he
 have hn:Nx w (Lib.bytesWorld w e s):=Joins.below_bytesWorld _ w e s (Nat.le_refl _)
 have hsz:s.size=l.length:=hl.size
 have hge:=grownCap_ge w s.size 0 e
 have hcs:(Lib.bytesCells w e s).size=grownCap w s.size 0 e:=by
  unfold Lib.bytesCells
  simp
  have:s.data.size=s.size:=rfl
  omega
 have hnew:=Lib.bytesWorld_at_new w e s
 have hr:OwnB (Lib.bytesWorld w e s) w.heap.size (.slice (some ⟨w.heap.size,0,none⟩) s.size (grownCap w s.size 0 e)) l:=by
  refine ⟨w.heap.size,grownCap w s.size 0 e,by rw [hsz],Nat.le_refl _,by rw [Lib.bytesWorld_size];omega,by omega,grownCap_le_maxLen _ _ _ _ (by omega),fun j hj=>?_,fun j hj=>?_⟩
  ·rw [← hcs] at hj
   constructor
   ·simp only [World.cell?,hnew]
    simp [hj]
   ·simp only [World.frozen?,hnew]
    simp
    omega
  ·rw [Lib.bytesWorld_cell w e s j (by omega),show s.data.toList=l from hl]
   simp [bv,hj]
 have:=hK _ _ (h _ _ hr hn)
 unfold Oper.wp execOp
 simp only [ho,Sem.run_bind,Sem.run_pure,Result.andThen_ok,hx,hrun]
 exact this
theorem heap_setCells_tape (b:Nat):∀ (vs:List Value) (o:Nat) (w:World),(w.setCells b o vs).tape=w.tape∧(w.setCells b o vs).heap.size=w.heap.size
 | [],_,_=>⟨rfl,rfl⟩
 | v :: r,o,w=>by
  have h:=heap_setCells_tape b r (o+1) (w.setCell ⟨b,o,none⟩ v)
  rw [World.setCells]
  exact ⟨h.1,by rw [h.2];simp [World.setCell]⟩
theorem wpList_appB {P:Program} (w:World) {ops:Array Oper} {rest:List Oper} {o:Oper} {a:Act} {Q:Exit→Act→World→Prop} (hgd:o.guard=none) (s x:Operand) (t tx e:TypeId)
  (ho:o.op = .call { callee:=.builtin .append,args:=#[s,x],argTypes:=#[t,tx] })
  (ht:P.underlying t=some (.slice e)) (hinf:(P.info? e).map (fun i=>(i.zero,i.size,i.bytes))=some (some (.int .u8 0),1,1))
  (B:Nat) (v:Value) (xs ys:List UInt8) (hs:a.eval s=v) (hown:OwnB w B v xs) (xv:Value) (hx:a.eval x=xv) (hsrc:Src P 1 tx xv ys.length (ys.map bv) w)
  (h63:(xs.length:Int)+(ys.length:Int)≤1000000) (hB:B≤w.heap.size)
  (h:∀ v' w',OwnB w' B v' (xs++ys)→Gb v w v' w'→wpList P ops Q rest (a.put o.dst v') w'):wpList P ops Q (o :: rest) a w:=by
 refine wpList_plain hgd fun K hK=>?_
 obtain ⟨i,hi,hz,h1,h2⟩:=info_parts hinf
 have key:∃ v' w',(Builtin.append_ #[t,tx] o.type #[v,xv]).run P w = .ok v' w'∧OwnB w' B v' (xs++ys)∧Gb v w v' w':=by
  obtain ⟨g,c,rfl,b1,b2,b3,b4,b5,b6⟩:=hown
  by_cases hroom:xs.length+ys.length≤c
  ·have hr:=run_append_room_src (P:=P) w t tx o.type e i ht hi g 0 xs.length c xv ys.length (ys.map bv) (by rw [h1];exact hsrc) hroom
    (fun j hj=>by rw [h1];simp at hj;rw [show 0+xs.length * 1+j=xs.length+j by omega];exact (b5 _ (by omega)).1)
    (fun j hj=>by rw [h1];simp at hj;rw [show 0+xs.length * 1+j=xs.length+j by omega];exact (b5 _ (by omega)).2)
   rw [h1,show 0+xs.length * 1=xs.length by omega] at hr
   have hin:=World.cell?_setCells_in g (ys.map bv) xs.length w (fun j hj=>by simp at hj;exact (b5 _ (by omega)).1)
   refine ⟨_,_,hr,⟨g,c,by rw [List.length_append],b1,by rw [(heap_setCells_tape g _ _ w).2];exact b2,by rw [List.length_append];exact hroom,b4,fun j hj=>⟨World.isSome_setCells g _ _ w _ (b5 j hj).1,by rw [World.frozen?_setCells];exact (b5 j hj).2⟩,fun j hj=>?_⟩,
    ⟨World.os_setCells w _ _ _,(heap_setCells_tape g _ _ w).1,World.output_setCells w _ _ _,by rw [(heap_setCells_tape g _ _ w).2];exact Nat.le_refl _,fun k hk hne=>World.heap_setCells_other w _ _ _ hk (fun e'=>hne (by rw [e'];rfl))⟩⟩
   by_cases hlt:j<xs.length
   ·rw [World.cell?_setCells_out g _ _ w ⟨g,j,none⟩ (fun _ _=>.inl hlt),List.getElem_append_left hlt]
    exact b6 j hlt
   ·rw [List.length_append] at hj
    have:=hin (j - xs.length) (by simp;omega)
    rw [show xs.length+(j - xs.length)=j by omega] at this
    rw [this,List.getElem_append_right (by omega)]
    simp
  ·have hold:(Builtin.firstCells i.size xs.length (.slice (some ⟨g,0,none⟩) xs.length c)).run P w.drew = .ok (xs.map bv).toArray w.drew:=by
    refine run_firstCells_some w.drew i.size xs.length ⟨g,0,none⟩ xs.length c (xs.map bv) (by rw [h1];simp) fun j u hu=>?_
    have hj:j<xs.length:=by
     rcases Nat.lt_or_ge j xs.length with h | h
     ·exact h
     ·rw [List.getElem?_eq_none (by simpa using h)] at hu;cases hu
    rw [Addr.add_lit,Nat.zero_add]
    have:=b6 j hj
    simp [hj] at hu
    rw [← hu]
    exact this
   have hr:=run_append_grow_src (P:=P) w t tx o.type e i (.int .u8 0) ht hi hz (some ⟨g,0,none⟩) xs.length c (xs.map bv) hold xv ys.length (ys.map bv) (by rw [h1];exact hsrc) (by omega) (by omega) (growslice_fits (by omega) (by rw [h2];omega))
   have hge:=grownCap_ge w (xs.length+ys.length) c e
   refine ⟨_,_,hr,⟨w.heap.size,grownCap w (xs.length+ys.length) c e,by rw [List.length_append],hB,by simp,by rw [List.length_append];exact hge,grownCap_le_maxLen _ _ _ _ (by unfold maxLen;omega),fun j hj=>?_,fun j hj=>?_⟩,⟨rfl,rfl,rfl,by simp,fun k hk _=>(nx0 w.drew _).block k hk⟩⟩
   ·have hnew:=Blk.new w.drew ((xs.map bv++ys.map bv).toArray++Builtin.zeroCells (Value.int .u8 0).cells (grownCap w (xs.length+ys.length) c e - (xs.length+ys.length))) e
    refine ⟨?_,hnew.free j⟩
    rw [show (⟨w.heap.size,j,none⟩:Addr)=⟨w.drew.heap.size,j,none⟩ from rfl,hnew.cell j]
    simp [size_zeroCells,Value.cells]
    omega
   ·have hnew:=Blk.new w.drew ((xs.map bv++ys.map bv).toArray++Builtin.zeroCells (Value.int .u8 0).cells (grownCap w (xs.length+ys.length) c e - (xs.length+ys.length))) e
    rw [show (⟨w.heap.size,j,none⟩:Addr)=⟨w.drew.heap.size,j,none⟩ from rfl,hnew.cell j]
    rw [List.length_append] at hj
    rw [Array.getElem?_append_left (by simp;exact hj),← List.map_append]
    have hj2:j<(xs++ys).length:=by rw [List.length_append];exact hj
    rw [List.getElem?_toArray,List.getElem?_map,List.getElem?_eq_getElem hj2]
    rfl
 obtain ⟨v',w',hrun,ho',hgb⟩:=key
 have:=hK _ _ (h v' w' ho' hgb)
 unfold Oper.wp execOp
 simp only [ho,resolve,invoke,builtin,Sem.run_bind,Sem.run_pure,Result.andThen_ok,List.map_toArray,List.map_cons,List.map_nil,hs,hx,hrun]
 exact this
end Go.Proofs.YtbblfkdmkpkmcaaGreatDoor
namespace Go.Proofs.YtbblfkdmkpkmcaaGreatDoor
open Go.RowKit
theorem info_u8:(Tryz.prog.info? 5).map (fun i=>(i.zero,i.size,i.bytes))=some (some (.int .u8 0),1,1):=by kernel_rfl
theorem bT:ElT Tryz.prog 34 5 1:=by
 obtain ⟨i,h1,h2,h3,h4⟩:=info_parts info_u8
 exact ⟨Tryz.underlying34,i,_,h1,h2,h3,h4,rfl⟩
end Go.Proofs.YtbblfkdmkpkmcaaGreatDoor
namespace Go.Proofs.YtbblfkdmkpkmcaaGreatDoor
open Go.RowKit
def partS (k:Nat) (a b:List UInt8):List UInt8:=if k=14∨k=15 then 60 :: (a++[62]) else if k=13 then 60 :: (a++44 :: (b++[62])) else []
def showS (k:Int) (n a b:List UInt8):List UInt8:=if k=0 then n else if k<0∨17≤k then [] else wordK k.toNat++partS k.toNat a b
theorem show_name (n a b:List UInt8):showS 0 n a b=n:=by simp [showS]
theorem show_none (k:Int) (n a b:List UInt8) (h0:k≠0) (h:k<0∨17≤k):showS k n a b=[]:=by unfold showS;rw [if_neg h0,if_pos h]
theorem show_word (k:Nat) (n a b:List UInt8) (h0:k≠0) (h:k<17):showS (k:Int) n a b=wordK k++partS k a b:=by
 unfold showS
 rw [if_neg (by omega),if_neg (by omega)]
 rfl
def prefS (k:Nat) (a b:List UInt8):Nat→List UInt8
 | 0=>[]
 | 1=>60 :: a
 | 2=>if k=13 then 60 :: a++44 :: b else 60 :: a++[62]
 | _=>60 :: a++44 :: b++[62]
def stopN (k:Nat):Nat:=if k=14∨k=15 then 2 else if k=13 then 3 else 0
theorem pref_stop (k:Nat) (a b:List UInt8):prefS k a b (stopN k)=partS k a b:=by
 unfold stopN partS
 split
 ·rename_i h
  simp [prefS,show k≠13 by omega]
 ·split
  ·simp [prefS]
  ·rfl
theorem sign_stop (k:Nat):signV k (stopN k)=none:=by
 unfold stopN signV
 split
 ·rename_i h
  rw [if_neg (by omega),if_neg (by omega),if_neg (by omega)]
 ·split
  ·rename_i h1 h2;subst h2;rfl
  ·rw [if_neg (by omega),if_neg (by omega),if_neg (by omega)]
theorem sign_before (k i:Nat) (h:i<stopN k):∃ x:UInt8,signV k i=some x.toNat∧(x=60∨x=44∨x=62)∧(x=62→∀ a b,prefS k a b (i+1)=prefS k a b i++[62])∧(x≠62→i<2∧∀ a b,prefS k a b (i+1)=prefS k a b i++x :: (if i=0 then a else b)):=by
 unfold stopN at h
 split at h
 ·rename_i hk
  have h13:k≠13:=by omega
  rcases (show i=0∨i=1 by omega) with rfl | rfl
  ·exact ⟨60,by rcases hk with rfl | rfl <;> rfl,.inl rfl,fun h=>absurd h (by decide),fun _=>⟨by omega,fun a b=>rfl⟩⟩
  ·exact ⟨62,by rcases hk with rfl | rfl <;> rfl,.inr (.inr rfl),fun _ a b=>by simp [prefS,h13],fun h=>absurd rfl h⟩
 ·split at h
  ·rename_i h1 hk
   subst hk
   rcases (show i=0∨i=1∨i=2 by omega) with rfl | rfl | rfl
   ·exact ⟨60,rfl,.inl rfl,fun h=>absurd h (by decide),fun _=>⟨by omega,fun a b=>rfl⟩⟩
   ·exact ⟨44,rfl,.inr (.inl rfl),fun h=>absurd h (by decide),fun _=>⟨by omega,fun a b=>by simp [prefS]⟩⟩
   ·exact ⟨62,rfl,.inr (.inr rfl),fun _ a b=>by simp [prefS],fun h=>absurd rfl h⟩
  ·omega
theorem pref_len (k:Nat) (a b:List UInt8) (i:Nat):(prefS k a b i).length≤a.length+b.length+3:=by
 unfold prefS
 split
 ·simp
 ·simp;omega
 ·split <;> simp <;> omega
 ·simp;omega
theorem word_len (k:Nat):(wordK k).length≤6:=by
 unfold wordK
 repeat' split
 all_goals decide
theorem src_one (P:Program) (w:World) (t e T:TypeId) (x:UInt8) (ht:P.underlying t=some (.slice e)):Src P 1 t (.slice (some ⟨w.heap.size,0,none⟩) 1 1) [x].length ([x].map bv) (w.alloc (.cells #[.int .u8 (x.toNat:Int)] T)):=by
 refine Src.ofSlice _ ht _ 1 1 _ rfl (fun j u hu=>?_) (fun u hu=>?_)
 ·cases j with
  | zero =>
   rw [Addr.add_lit,Nat.zero_add,(Blk.new w #[.int .u8 (x.toNat:Int)] T).cell 0]
   simpa [bv] using hu
  | succ j=>simp at hu
 ·simp at hu;subst hu;rfl
theorem src_str (P:Program) (w:World) (u:TypeId) (s:ByteArray) (l:List UInt8) (hl:Tx s l) (hu:P.underlying u=some .string):Src P 1 u (.string s) l.length (l.map bv) w:=by
 have:=Src.ofString (P:=P) w hu s
 rw [hl.size] at this
 have e:byteCells s=l.map bv:=by unfold byteCells;rw [show s.data.toList=l from hl];rfl
 rw [e] at this
 exact this
set_option maxRecDepth 100000 in
set_option maxHeartbeats 6400000 in
theorem show_any (w:World) (k:Int) (n a b:ByteArray) (ln la lb:List UInt8) (hln:Tx n ln) (hla0:Tx a la) (hlb0:Tx b lb) (hk1 : -9223372036854775808≤k) (hk2:k≤9223372036854775807) (ha:(a.size:Int)≤270000) (hb:(b.size:Int)≤270000) (ht:TabK w) :
  Calls Tryz.prog 144 #[.int .i64 k,.string n,.string a,.string b] w fun e w'=>e = .returned (.string (bA (showS k ln la lb)))∧Nx w w':=by
 have HLN:=Lib.hid hln
 have HLA:=Lib.hid hla0
 have HLB:=Lib.hid hlb0
 clear hln hla0 hlb0
 by_cases h0:k=0
 ·subst h0
  rw [show_name,← bA_tx HLN.out]
  go_enter Tryz.func144,Tryz.ntmps144
  go_wp2_with fail
  refine (fresh_any n w).mono ?_;rintro e w' ⟨rfl,hn⟩
  go_wp2_with fail
  go_ret
  exact ⟨rfl,hn⟩
 ·have hb0:(k == 0)=false:=by rw [beq_eq_false_iff_ne];exact h0
  by_cases hr:k<0∨17≤k
  ·rw [show_none k _ _ _ h0 hr]
   clear h0
   by_cases hneg:k<0
   ·clear hr
    go_enter Tryz.func144,Tryz.ntmps144
    go_wp2_with fail
    go_ret
    exact ⟨rfl,Nx.refl _⟩
   ·have h17:17≤k:=by omega
    have hneg':0≤k:=by omega
    clear hr
    go_enter Tryz.func144,Tryz.ntmps144
    go_wp2_with fail
    go_ret
    exact ⟨rfl,Nx.refl _⟩
  ·obtain ⟨K,rfl⟩:∃ K:Nat,k=(K:Int):=⟨k.toNat,by omega⟩
   have hK17:K<17:=by omega
   have hK0:K≠0:=by omega
   have hKI:(K:Int)<17:=by omega
   have hg1:decide ((17:Int)≤(K:Int))=false:=decide_eq_false (by omega)
   have hg0:decide ((K:Int)<0)=false:=decide_eq_false (by omega)
   rw [show_word K _ _ _ hK0 hK17]
   have HK17:=Lib.hid hK17
   have HT:=Lib.hid ht
   clear h0 hr hK0 hK17 ht
   go_enter Tryz.func144,Tryz.ntmps144
   go_wp2_with fail
   refine (signs_any w).mono ?_;rintro e w1 ⟨rfl,hsg,hn1⟩
   obtain ⟨sb,hsb⟩:∃ sb,w.heap.size=sb:=⟨_,rfl⟩
   rw [hsb] at hsg ⊢
   have HSB:=Lib.hid hsb
   have hsl:sb<w1.heap.size:=by
    obtain ⟨es,c,h,-⟩:=hsg
    exact (Array.getElem?_eq_some_iff.1 h).1
   obtain ⟨g,hg⟩:∃ g,w1.heap.size=g:=⟨_,rfl⟩
   have hB2:=Blk.new w1 #[.string a,.string b] 126
   rw [hg] at hB2
   have hN2:=(Nx.refl w1).al (.cells #[.string a,.string b] 126)
   have HG:=Lib.hid hg
   have HSL:=Lib.hid hsl
   have HN2:Hid (Nx w (w1.alloc (.cells #[.string a,.string b] 126))):=hn1.trans hN2
   have HSG2:Hid (Sg (w1.alloc (.cells #[.string a,.string b] 126)) sb):=by
    obtain ⟨es,c,h,h1,h2⟩:=hsg
    exact ⟨es,c,by rw [hN2.block sb hsl];exact h,h1,h2⟩
   have HB2:=Lib.hid hB2
   have hc:(w1.alloc (.cells #[.string a,.string b] 126)).cell? ⟨1,K,none⟩=some (.string (kwB K)):=by
    obtain ⟨t,fr,h⟩:=HT.out.nx HN2.out
    unfold World.cell?
    simp only [h]
    exact kwV_at K HK17.out
   have hfz:∀ x:Nat,x<17→True:=fun _ _=>trivial
   clear hsg hn1 hsb hsl hB2 hN2 hfz
   have HWL:Hid ((wordK K).length≤maxLen):=by
    unfold Hid wordK maxLen
    repeat' split
    all_goals decide
   go_wp2_with (refine wpList_bytesB _ (o:=⟨some 32,_,_,_,_,_⟩) rfl _ rfl Tryz.underlying9 Tryz.underlying34 Tryz.underlying5 (kwB K) (wordK K) (Tx.of _) rfl HWL.out ?_;intro v3 w3 hown3 hn3;have HOW3:=Lib.hid hown3;have HN3:=Lib.hid hn3;clear hown3 hn3 hc)
   obtain ⟨w2,hw2⟩:∃ w2,w1.alloc (.cells #[.string a,.string b] 126)=w2:=⟨_,rfl⟩
   rw [hw2] at HN2 HSG2 HB2 HOW3 HN3
   clear hw2
   have hst:stopN K≤3:=by unfold stopN;split <;> (try split) <;> omega
   have HST:=Lib.hid hst
   clear hst
   go_loopw [11,12] (fun ov iv wr=>∃ i:Nat,iv = .int .i64 (i:Int)∧i≤stopN K∧OwnB wr w2.heap.size ov (wordK K++prefS K la lb i)∧Nx w2 wr) (fun _ iv _=>5 - (intOf iv).toNat)
   case atStart=>exact ⟨0,rfl,Nat.zero_le _,by rw [show prefS K la lb 0=[] from rfl,List.append_nil];exact HOW3.out,HN3.out⟩
   case round =>
    obtain ⟨i,rfl,hi,hown,hnx⟩:=hrel
    have HOW:=Lib.hid hown
    have HNX:=Lib.hid hnx
    have HI:=Lib.hid hi
    have hi3:i<4:=by have:=HST.out;omega
    have HSGr:Hid (Sg wr sb):=by
     obtain ⟨es,c,h,h1,h2⟩:=HSG2.out
     exact ⟨es,c,by rw [hnx.block sb (Array.getElem?_eq_some_iff.1 h).1];exact h,h1,h2⟩
    have hiI:(i:Int)≤3:=by omega
    clear hown hnx
    by_cases hlt:i<stopN K
    ·obtain ⟨x,hx,hx3,hxe,hxn⟩:=sign_before K i hlt
     have hlk:=look_at HSGr.out K i HK17.out hi3 (i:Int) rfl _ hx (x.toNat:Int) rfl true rfl
     have HOWa:=Lib.hid (HOW.out.nx (nx0 wr (.cells #[.int .u8 (x.toNat:Int)] 5)))
     have HSRC:=Lib.hid (src_one Tryz.prog wr 34 5 5 x Tryz.underlying34)
     have hpl:=pref_len K la lb i
     have hwl:=word_len K
     have hlas:=HLA.out.size
     have hlbs:=HLB.out.size
     have h63:((wordK K++prefS K la lb i).length:Int)+(([x]:List UInt8).length:Int)≤1000000:=by rw [List.length_append];simp;omega
     have HB5:Hid (w2.heap.size≤(wr.alloc (.cells #[.int .u8 (x.toNat:Int)] 5)).heap.size):=Nat.le_trans HNX.out.size (nx0 wr _).size
     have HXE:=Lib.hid hxe
     have HXN:=Lib.hid hxn
     have HHI:Hid (i<stopN K):=hlt
     clear hx hx3 hxe hxn hpl hwl hlas hlbs hlt hi
     by_cases h62:x=62
     ·have hb62:((x.toNat:Int) != 62)=false:=by rw [h62];rfl
      have HX:=Lib.hid h62
      clear h62
      go_wp2_with (refine wpList_appB _ (o:=⟨some 50,_,_,_,_,_⟩) rfl _ _ _ _ 5 rfl Tryz.underlying34 info_u8 w2.heap.size u11 _ [x] rfl HOWa.out _ rfl HSRC.out h63 HB5.out ?_;intro v4 w4 hown4 hgb4;have HOW4:=Lib.hid hown4;have HGB4:=Lib.hid hgb4;clear hown4 hgb4)
      have hnx4:Nx w2 w4:=HGB4.out.to (HNX.out.trans (nx0 wr _)) (fun k e=>(HOW.out.own k e).1)
      have hh:i<stopN K:=HHI.out
      refine ⟨⟨i+1,by go_num,hh,?_,hnx4⟩,by simp [intOf];omega⟩
      have h1:=HOW4.out
      rw [HXE.out HX.out la lb,← List.append_assoc]
      rw [HX.out] at h1
      exact h1
     ·have hb62:((x.toNat:Int) != 62)=true:=by
       rw [bne_iff_ne]
       intro h
       exact h62 (UInt8.toNat_inj.1 (by have:(62:UInt8).toNat=62:=rfl;omega))
      obtain ⟨hi2,hpre⟩:=HXN.out h62
      have HPRE:=Lib.hid hpre
      obtain ⟨y,hy⟩:∃ y,Hid ((if i=0 then a else b)=y):=⟨_,rfl⟩
      obtain ⟨ly,hly⟩:∃ ly,Hid ((if i=0 then la else lb)=ly):=⟨_,rfl⟩
      have HTY:Hid (Tx y ly):=by
       unfold Hid
       rw [← hy.out,← hly.out]
       split
       ·exact HLA.out
       ·exact HLB.out
      have hys:ly.length≤270000:=by
       rw [← HTY.out.size,← hy.out]
       split <;> omega
      have hcy:w2.cell? ⟨g,i,none⟩=some (.string y):=by
       rcases (show i=0∨i=1 by omega) with rfl | rfl
       ·rw [← hy.out,if_pos rfl];exact HB2.out.cell 0
       ·rw [← hy.out,if_neg (by decide)];exact HB2.out.cell 1
      have HCY:=Lib.hid hcy
      have hgw:g<w2.heap.size:=HB2.out.lt
      have HGW:=Lib.hid hgw
      have hi2I:(i:Int)<2:=by omega
      have hlas:=HLA.out.size
      have hlbs:=HLB.out.size
      have hpl:=pref_len K la lb i
      have hwl:=word_len K
      have HL2:Hid (((wordK K++prefS K la lb i++[x]).length:Int)+(ly.length:Int)≤1000000):=by unfold Hid;rw [List.length_append,List.length_append];simp;omega
      clear h62 hi2 hpre hcy hgw hys hlas hlbs hpl hwl
      go_wp2_with (first
       | (refine wpList_appB _ (o:=⟨some 50,_,_,_,_,_⟩) rfl _ _ _ _ 5 rfl Tryz.underlying34 info_u8 w2.heap.size u11 _ [x] rfl HOWa.out _ rfl HSRC.out h63 HB5.out ?_;intro v4 w4 hown4 hgb4;have HOW4:=Lib.hid hown4;have HNX4:Hid (Nx w2 w4):=hgb4.to (HNX.out.trans (nx0 wr _)) (fun k e=>(HOW.out.own k e).1);have hcy:w4.cell? ⟨g,i,none⟩=some (.string y):=(HNX4.out.cell (p:=⟨g,i,none⟩) HGW.out).trans HCY.out;have HB6:=Lib.hid HNX4.out.size;have HSRC2:=Lib.hid (src_str Tryz.prog w4 9 y ly HTY.out Tryz.underlying9);clear hown4 hgb4)
       | (refine wpList_appB _ (o:=⟨some 57,_,_,_,_,_⟩) rfl _ _ _ _ 5 rfl Tryz.underlying34 info_u8 w2.heap.size v4 _ ly rfl HOW4.out _ rfl HSRC2.out HL2.out HB6.out ?_;intro v5 w5 hown5 hgb5;have HOW5:=Lib.hid hown5;have HGB5:=Lib.hid hgb5;clear hown5 hgb5 hcy))
      have hnx5:Nx w2 w5:=HGB5.out.to HNX4.out (fun k e=>(HOW4.out.own k e).1)
      have hh:i<stopN K:=HHI.out
      refine ⟨⟨i+1,by go_num,hh,?_,hnx5⟩,by simp [intOf];omega⟩
      have h1:=HOW5.out
      rw [HPRE.out la lb,hly.out]
      have e2:wordK K++prefS K la lb i++[x]++ly=wordK K++(prefS K la lb i++x :: ly):=by simp
      rw [e2] at h1
      exact h1
    ·obtain rfl:i=stopN K:=by omega
     have hlk:=look_at HSGr.out K (stopN K) HK17.out hi3 (stopN K:Int) rfl _ (sign_stop K) 0 rfl false rfl
     obtain ⟨g',c',hv,hrd⟩:=HOW.out.rd
     rw [pref_stop] at hv hrd
     have HRD:=Lib.hid hrd
     subst hv
     clear hrd hlt hi
     go_wp2_with (refine wpList_str _ (o:=⟨some 46,_,_,_,_,_⟩) rfl _ rfl Tryz.underlying34 Tryz.underlying5 Tryz.underlying9 _ _ _ rfl HRD.out ?_;intro t HT ht1 ht2)
     go_ret
     rw [HT.out]
     exact ⟨rfl,HN2.out.trans HNX.out⟩
end Go.Proofs.YtbblfkdmkpkmcaaGreatDoor
namespace Go.Proofs.YtbblfkdmkpkmcaaGreatDoor
open Go.RowKit
theorem split_len:∀ (l:List UInt8),((splitP l).map fun p=>p.length+1).sum=l.length+1
 | []=>rfl
 | c :: r=>by
  have ih:=split_len r
  unfold splitP
  split
  ·simp [ih];omega
  ·split
   ·rename_i h;rw [h] at ih;simp at ih
   ·rename_i a bb h;rw [h] at ih;simp at ih ⊢;omega
theorem plain_len {l:List UInt8} (h:plainP l=true):l.length≤40:=by
 unfold plainP at h
 simp only [Bool.and_eq_true,decide_eq_true_eq] at h
 exact h.1.1.1
theorem sum_le (l:List (List UInt8)) (h:∀ p ∈ l,p.length≤40):(l.map fun p=>p.length+1).sum≤41 * l.length:=by
 induction l with
 | nil=>simp
 | cons a r ih =>
  have:=ih fun p hp=>h p (by simp [hp])
  have:=h a (by simp)
  simp
  omega
theorem qual_len {l:List UInt8} (h:qualP l=true):l.length≤122:=by
 unfold qualP at h
 simp only [Bool.and_eq_true,decide_eq_true_eq,List.all_eq_true] at h
 have h1:=split_len l
 have h2:=sum_le _ fun p hp=>plain_len (h.2 p hp)
 have:=h.1
 omega
theorem oft_len {l:List UInt8} (h:oftP l=true):l.length≤6:=by
 unfold oftP oftB at h
 simp at h
 rcases h with rfl | rfl | rfl | rfl | rfl | rfl | rfl | rfl | rfl | rfl | rfl | rfl <;> decide
theorem leaf_len (ws:List TokV) (s:PSt):(leafP ws s).1.length≤122:=by
 unfold leafP
 split
 ·simp
 ·split
  ·rename_i h
   unfold atTypeP at h
   simp only [Bool.and_eq_true,Bool.or_eq_true] at h
   rcases h.2 with h | h
   ·have:=oft_len h;simp;omega
   ·exact qual_len h
  ·exact Nat.zero_le _
theorem type_len (ws:List TokV):∀ (r:Nat) (s:PSt),(typeP ws r s).1.length+6≤128 * 2 ^ r
 | 0,s=>by
  unfold typeP
  split
  ·simp
  ·have:=leaf_len ws s;omega
 | r+1,s=>by
  have ih:=type_len ws r
  have h2:2 ^ (r+1)=2 ^ r+2 ^ r:=by rw [Nat.pow_succ];omega
  have h1:1≤2 ^ r:=Nat.one_le_two_pow
  rw [h2]
  unfold typeP
  dsimp only
  split
  ·have:=ih (needP ws [60] (nextP s));simp [kList];omega
  ·split
   ·have:=ih (needP ws [60] (nextP s));simp [kSet];omega
   ·split
    ·have h3:=ih (needP ws [60] (nextP s))
     have h4:=ih (needP ws [44] (typeP ws r (needP ws [60] (nextP s))).2)
     simp [kMap];omega
    ·have:=leaf_len ws s;omega
theorem type_short (ws:List TokV) (r:Nat) (hr:r≤11) (s:PSt):((typeP ws r s).1.length:Int)≤270000:=by
 have h1:=type_len ws r s
 have h2:2 ^ r≤2 ^ 11:=Nat.pow_le_pow_right (by decide) hr
 have h3:(2:Nat) ^ 11=2048:=by decide
 rw [h3] at h2
 omega
def withP (ws:List TokV) (tp:PSt→List UInt8×PSt) (k:Nat) (s:PSt):List UInt8×PSt :=
 let a:=tp (needP ws [60] (nextP s))
 let b:=if k=13 then tp (needP ws [44] a.2) else ([],a.2)
 (showS (k:Int) [] a.1 b.1,needP ws [62] b.2)
def typeN (ws:List TokV):Nat→Nat→PSt→List UInt8×PSt
 | 0,_,s=>([],failP 6 s)
 | r+1,k,s=>withP ws (typeP ws r) k s
theorem show15 (a b:List UInt8):showS 15 [] a b=kList++60 :: a++[62]:=by simp [showS,partS,wordK,kList]
theorem show14 (a b:List UInt8):showS 14 [] a b=kSet++60 :: a++[62]:=by simp [showS,partS,wordK,kSet]
theorem show13 (a b:List UInt8):showS 13 [] a b=kMap++60 :: a++44 :: b++[62]:=by simp [showS,partS,wordK,kMap]
theorem typeP_eq (ws:List TokV) (r:Nat) (s:PSt):typeP ws r s=if isP ws kList s then typeN ws r 15 s else if isP ws kSet s then typeN ws r 14 s else if isP ws kMap s then typeN ws r 13 s else leafP ws s:=by
 cases r with
 | zero =>
  unfold typeP typeN
  dsimp only
  by_cases h1:isP ws kList s=true
  ·simp [h1]
  ·by_cases h2:isP ws kSet s=true
   ·simp [h1,h2]
   ·by_cases h3:isP ws kMap s=true
    ·simp [h1,h2,h3]
    ·simp [h1,h2,h3]
 | succ r =>
  unfold typeP typeN withP
  dsimp only
  by_cases h1:isP ws kList s=true
  ·rw [if_pos h1,if_pos h1,if_neg (by decide)];exact Prod.ext (show15 _ _).symm rfl
  ·rw [if_neg h1,if_neg h1]
   by_cases h2:isP ws kSet s=true
   ·rw [if_pos h2,if_pos h2,if_neg (by decide)];exact Prod.ext (show14 _ _).symm rfl
   ·rw [if_neg h2,if_neg h2]
    by_cases h3:isP ws kMap s=true
    ·rw [if_pos h3,if_pos h3,if_pos rfl];exact Prod.ext (show13 _ _).symm rfl
    ·rw [if_neg h3,if_neg h3]
def TypeC (b c:Nat) (A:Option Addr) (ws:List TokV) (r:Nat):Prop :=
 ∀ (w:World) (s:PSt),PC w b A c ws s→∀ (D:Nat),D+r=13→∀ (l:List UInt8) (s':PSt),typeP ws r s=(l,s') →
  Calls Tryz.prog 102 #[.pointer (some ⟨b,0,none⟩),.int .i64 (D:Int)] w fun e w'=>e = .returned (.string ⟨l.toArray⟩)∧PC w' b A c ws s'∧Oth b w w'
section
variable {w:World} {b c:Nat} {A:Option Addr} {ws:List TokV} {s:PSt}
set_option maxRecDepth 100000 in
set_option maxHeartbeats 3200000 in
theorem within_any' (r:Nat) (hT:∀ r',r=r'+1→TypeC b c A ws r') (h0:PC w b A c ws s) (k:Nat) (hk:k=13∨k=14∨k=15) (hk6:s.e=0→(ws.getD s.i tok0).k≠6) (D:Nat) (hD:D+r=13) (l:List UInt8) (s':PSt) (hr:typeN ws r k s=(l,s')) (hr12:r≤12) :
  Calls Tryz.prog 143 #[.pointer (some ⟨b,0,none⟩),.int .i64 (k:Int),.int .i64 (D:Int)] w fun e w'=>e = .returned (.string ⟨l.toArray⟩)∧PC w' b A c ws s'∧Oth b w w':=by
 have H:=Lib.hid h0
 have HT:=Lib.hid hT
 have HK6:=Lib.hid hk6
 cases r with
 | zero =>
  have b1:decide ((12:Int)<(D:Int))=true:=decide_eq_true (by omega)
  unfold typeN at hr
  simp only [Prod.mk.injEq] at hr
  obtain ⟨rfl,rfl⟩:=hr
  clear h0 hT hk6 hk hD
  go_enter Tryz.func143,Tryz.ntmps143
  go_wp2_with fail
  refine (fail_any H.out 6 (by decide) (by decide)).mono ?_;rintro e w1 ⟨rfl,hp1,ho1⟩
  go_wp2_with fail
  go_ret
  exact ⟨rfl,hp1,ho1⟩
 | succ r =>
  have b1:decide ((12:Int)<(D:Int))=false:=decide_eq_false (by omega)
  have HT2:Hid (TypeC b c A ws r):=HT.out r rfl
  have hD1:(D:Int)≤12:=by omega
  have HD:Hid (D+1+r=13):=by unfold Hid;omega
  have HR:Hid (withP ws (typeP ws r) k s=(l,s')):=hr
  have hlen:=type_short ws r (by omega)
  have HLEN:=Lib.hid hlen
  obtain ⟨⟨wk,wt,wn,wd,wp⟩,hT⟩:∃ T,Hid (wordP ws s=T):=⟨_,rfl⟩
  have HKB:Hid (k=13∨k=14∨k=15):=hk
  have hk17:(k:Int)≤15:=by omega
  clear h0 HT hk6 hr hlen hk hD
  go_enter Tryz.func143,Tryz.ntmps143
  go_wp2_with fail
  refine (next_any H.out HK6.out _ _ _ _ _ hT.out).mono ?_;rintro e w1 ⟨rfl,hp1,ho1⟩
  have HP1:=Lib.hid hp1
  have HO1:=Lib.hid ho1
  clear hp1 ho1
  go_wp2_with fail
  refine (need_any HP1.out _ [60] (Tx.of _) _ rfl).mono ?_;rintro e w2 ⟨rfl,hp2,ho2⟩
  have HP2:=Lib.hid hp2
  have HO2:=Lib.hid (HO1.out.trans ho2)
  clear hp2 ho2
  obtain ⟨⟨la,sa⟩,hA⟩:∃ a,Hid (typeP ws r (needP ws [60] (nextP s))=a):=⟨_,rfl⟩
  go_wp2_with fail
  refine (HT2.out w2 _ HP2.out (D+1) HD.out la sa hA.out).mono ?_;rintro e w3 ⟨rfl,hp3,ho3⟩
  have HP3:=Lib.hid hp3
  have HO3:=Lib.hid (HO2.out.trans ho3)
  have HLA:Hid ((la.length:Int)≤270000):=by have:=HLEN.out (needP ws [60] (nextP s));rw [hA.out] at this;exact this
  clear hp3 ho3
  by_cases h13:k=13
  ·subst h13
   obtain ⟨⟨lb,sb⟩,hB⟩:∃ a,Hid (typeP ws r (needP ws [44] sa)=a):=⟨_,rfl⟩
   have HLB:Hid ((lb.length:Int)≤270000):=by have:=HLEN.out (needP ws [44] sa);rw [hB.out] at this;exact this
   have hx:=HR.out
   unfold withP at hx
   dsimp only at hx
   rw [hA.out,if_pos rfl,hB.out] at hx
   simp only [Prod.mk.injEq] at hx
   obtain ⟨rfl,rfl⟩:=hx
   go_wp2_with fail
   refine (need_any HP3.out _ [44] (Tx.of _) _ rfl).mono ?_;rintro e w4 ⟨rfl,hp4,ho4⟩
   have HP4:=Lib.hid hp4
   have HO4:=Lib.hid (HO3.out.trans ho4)
   clear hp4 ho4
   go_wp2_with fail
   refine (HT2.out w4 _ HP4.out (D+1) HD.out lb sb hB.out).mono ?_;rintro e w5 ⟨rfl,hp5,ho5⟩
   have HP5:=Lib.hid hp5
   have HO5:=Lib.hid (HO4.out.trans ho5)
   clear hp5 ho5
   go_wp2_with fail
   refine (need_any HP5.out _ [62] (Tx.of _) _ rfl).mono ?_;rintro e w6 ⟨rfl,hp6,ho6⟩
   have HP6:=Lib.hid hp6
   have HO6:=Lib.hid (HO5.out.trans ho6)
   clear hp6 ho6
   go_wp2_with fail
   refine (show_any w6 13 _ _ _ [] la lb (Tx.of []) (Tx.of la) (Tx.of lb) (by decide) (by decide) HLA.out HLB.out HP6.out.tab).mono ?_;rintro e w7 ⟨rfl,hn7⟩
   go_wp2_with fail
   go_ret
   exact ⟨rfl,HP6.out.nx hn7,HO6.out.trans (Oth.nx hn7)⟩
  ·have b13:((k:Int) == 13)=false:=by rw [beq_eq_false_iff_ne];omega
   have hx:=HR.out
   unfold withP at hx
   dsimp only at hx
   rw [hA.out,if_neg h13] at hx
   simp only [Prod.mk.injEq] at hx
   obtain ⟨rfl,rfl⟩:=hx
   clear h13
   go_wp2_with fail
   refine (need_any HP3.out _ [62] (Tx.of _) _ rfl).mono ?_;rintro e w6 ⟨rfl,hp6,ho6⟩
   have HP6:=Lib.hid hp6
   have HO6:=Lib.hid (HO3.out.trans ho6)
   clear hp6 ho6
   go_wp2_with fail
   refine (show_any w6 k _ _ _ [] la [] (Tx.of []) (Tx.of la) (Tx.of []) (by omega) (by omega) HLA.out (by decide) HP6.out.tab).mono ?_;rintro e w7 ⟨rfl,hn7⟩
   go_wp2_with fail
   go_ret
   exact ⟨rfl,HP6.out.nx hn7,HO6.out.trans (Oth.nx hn7)⟩
set_option maxRecDepth 100000 in
set_option maxHeartbeats 3200000 in
theorem type_step (r:Nat) (hT:∀ r',r=r'+1→TypeC b c A ws r') (hr12:r≤12):TypeC b c A ws r:=by
 intro w s h0 D hD l s' hr
 have H:=Lib.hid h0
 have HT:=Lib.hid hT
 have HD:=Lib.hid hD
 rw [typeP_eq] at hr
 obtain ⟨B1,hB1⟩:∃ B,Hid (isP ws kList s=B):=⟨_,rfl⟩
 obtain ⟨B2,hB2⟩:∃ B,Hid (isP ws kSet s=B):=⟨_,rfl⟩
 obtain ⟨B3,hB3⟩:∃ B,Hid (isP ws kMap s=B):=⟨_,rfl⟩
 obtain ⟨B4,hB4⟩:∃ B,Hid (isP ws kByte s=B):=⟨_,rfl⟩
 obtain ⟨B5,hB5⟩:∃ B,Hid (atTypeP ws s=B):=⟨_,rfl⟩
 rw [hB1.out,hB2.out,hB3.out] at hr
 have HR:=Lib.hid hr
 obtain ⟨⟨wk,wt,wn,wd,wp⟩,hW⟩:∃ T,Hid (wordP ws s=T):=⟨_,rfl⟩
 have hDI:(D:Int)≤13:=by omega
 clear h0 hT hr hD
 go_enter Tryz.func102,Tryz.ntmps102
 go_wp2_with fail
 refine (is_any H.out _ kList (Tx.of _) B1 hB1.out).mono ?_;rintro e w1 ⟨rfl,hn1⟩
 have HN1:=Lib.hid hn1
 have HP1:=Lib.hid (H.out.nx hn1)
 clear hn1
 cases B1
 ·go_wp2_with fail
  refine (is_any HP1.out _ kSet (Tx.of _) B2 hB2.out).mono ?_;rintro e w2 ⟨rfl,hn2⟩
  have HN2:=Lib.hid (HN1.out.trans hn2)
  have HP2:=Lib.hid (HP1.out.nx hn2)
  clear hn2
  cases B2
  ·go_wp2_with fail
   refine (is_any HP2.out _ kMap (Tx.of _) B3 hB3.out).mono ?_;rintro e w3 ⟨rfl,hn3⟩
   have HN3:=Lib.hid (HN2.out.trans hn3)
   have HP3:=Lib.hid (HP2.out.nx hn3)
   clear hn3
   cases B3
   ·have HR2:Hid (leafP ws s=(l,s')):=HR.out
    go_wp2_with fail
    refine (take_any' HP3.out _ kByte (Tx.of _) B4 hB4.out).mono ?_;rintro e w4 ⟨rfl,hp4,ho4⟩
    have HP4:=Lib.hid hp4
    have HO4:=Lib.hid ((Oth.nx HN3.out).trans ho4)
    clear hp4 ho4
    cases B4
    ·have HP5:Hid (PC w4 b A c ws s):=HP4.out
     go_wp2_with fail
     refine (atType_any HP5.out B5 hB5.out).mono ?_;rintro e w5 ⟨rfl,hn5⟩
     have HO5:=Lib.hid (HO4.out.trans (Oth.nx hn5))
     have HP6:=Lib.hid (HP5.out.nx hn5)
     clear hn5
     have hx:=HR2.out
     unfold leafP at hx
     rw [hB4.out,hB5.out,hW.out] at hx
     cases B5
     ·simp at hx
      obtain ⟨rfl,rfl⟩:=hx
      go_wp2_with fail
      refine (fail_any HP6.out 2 (by decide) (by decide)).mono ?_;rintro e w6 ⟨rfl,hp6,ho6⟩
      go_wp2_with fail
      go_ret
      exact ⟨rfl,hp6,HO5.out.trans ho6⟩
     ·have HK:=Lib.hid (atType_k hB5.out)
      simp at hx
      obtain ⟨rfl,rfl⟩:=hx
      have F1:∀ w1,(Instr.field 68 (.agg #[.int .i64 (wk:Int),.string ⟨wt.toArray⟩,.int .i64 wn,.int .u64 (wd:Int),.int .i64 (wp:Int)]) 1).run Tryz.prog w1 = .ok (.string ⟨wt.toArray⟩) w1:=fun w1=>(tok_field _ _ _ _ _ w1).2.1
      go_wp2_with fail
      refine (next_any HP6.out HK.out _ _ _ _ _ hW.out).mono ?_;rintro e w6 ⟨rfl,hp6,ho6⟩
      go_wp2_with fail
      go_ret
      exact ⟨rfl,hp6,HO5.out.trans ho6⟩
    ·have hx:=HR2.out
     unfold leafP at hx
     rw [hB4.out] at hx
     simp at hx
     obtain ⟨rfl,rfl⟩:=hx
     go_wp2_with fail
     refine (show_any w4 3 _ _ _ [] [] [] (Tx.of []) (Tx.of []) (Tx.of []) (by decide) (by decide) (by decide) (by decide) HP4.out.tab).mono ?_;rintro e w5 ⟨rfl,hn5⟩
     go_wp2_with fail
     go_ret
     exact ⟨rfl,HP4.out.nx hn5,HO4.out.trans (Oth.nx hn5)⟩
   ·have HK:=Lib.hid (is_k hB3.out)
    have HR2:Hid (typeN ws r 13 s=(l,s')):=HR.out
    go_wp2_with fail
    refine (within_any' r HT.out HP3.out 13 (.inl rfl) HK.out D HD.out l s' HR2.out hr12).mono ?_;rintro e w4 ⟨rfl,hp4,ho4⟩
    go_wp2_with fail
    go_ret
    exact ⟨rfl,hp4,(Oth.nx HN3.out).trans ho4⟩
  ·have HK:=Lib.hid (is_k hB2.out)
   have HR2:Hid (typeN ws r 14 s=(l,s')):=HR.out
   go_wp2_with fail
   refine (within_any' r HT.out HP2.out 14 (.inr (.inl rfl)) HK.out D HD.out l s' HR2.out hr12).mono ?_;rintro e w4 ⟨rfl,hp4,ho4⟩
   go_wp2_with fail
   go_ret
   exact ⟨rfl,hp4,(Oth.nx HN2.out).trans ho4⟩
 ·have HK:=Lib.hid (is_k hB1.out)
  have HR2:Hid (typeN ws r 15 s=(l,s')):=HR.out
  go_wp2_with fail
  refine (within_any' r HT.out HP1.out 15 (.inr (.inr rfl)) HK.out D HD.out l s' HR2.out hr12).mono ?_;rintro e w4 ⟨rfl,hp4,ho4⟩
  go_wp2_with fail
  go_ret
  exact ⟨rfl,hp4,(Oth.nx HN1.out).trans ho4⟩
theorem type_all:∀ (r:Nat),r≤12→TypeC b c A ws r
 | 0,_=>type_step 0 (fun _ h=>by cases h) (by decide)
 | r+1,h=>type_step (r+1) (fun r' e=>by cases e;exact type_all r (by omega)) h
theorem type_any (h0:PC w b A c ws s) (l:List UInt8) (s':PSt) (hr:typeP ws 12 s=(l,s')) :
  Calls Tryz.prog 102 #[.pointer (some ⟨b,0,none⟩),.int .i64 1] w fun e w'=>e = .returned (.string ⟨l.toArray⟩)∧PC w' b A c ws s'∧Oth b w w' :=
 type_all 12 (by decide) w s h0 1 (by decide) l s' hr
end
end Go.Proofs.YtbblfkdmkpkmcaaGreatDoor
