/- Bytes that the call owns, told by their cells: what []byte(s) gives, and appends to it. Plain lemmas over any program. The contract of Show. -/
import Derived.Test.YtpbjkgpdkopgmaaGreatDoorG01
import Derived.Deep.Upon
import Derived.Deep.AppendSrc
import Derived.Deep.MidRow
import Derived.Lib.SmallJoins
import Derived.Test.YtpbjkgpdkopgmaaGreatDoorG16
import Derived.Test.YtpbjkgpdkopgmaaGreatDoorG03
set_option linter.unusedVariables false
set_option linter.unusedSimpArgs false
set_option linter.unnecessarySimpa false
namespace Go.Proofs.YtpbjkgpdkopgmaaGreatDoor
open Go.RowKit
def OwnB (w:World) (B:Nat) (v:Value) (xs:List UInt8):Prop :=
 ∃ g c,v = .slice (some ⟨g,0,none⟩) xs.length c∧B≤g∧g<w.heap.size∧xs.length≤c∧c≤maxLen∧(∀ j,j<c→(w.cell? ⟨g,j,none⟩).isSome=true∧w.frozen? ⟨g,j,none⟩=false)∧∀ j (h:j<xs.length),w.cell? ⟨g,j,none⟩=some (bv xs[j])
theorem OwnB.own {w:World} {B:Nat} {v:Value} {xs:List UInt8} (h:OwnB w B v xs) (k:Nat) (e:v.ownBlock=some k):B≤k∧k<w.heap.size:=by
 obtain ⟨g,c,rfl,h1,h2,-⟩:=h
 simp [Value.ownBlock] at e
 subst e
 exact ⟨h1,h2⟩
theorem OwnB.rd {w:World} {B:Nat} {v:Value} {xs:List UInt8} (h:OwnB w B v xs):∃ g c,v = .slice (some ⟨g,0,none⟩) xs.length c∧Rd bv w (some ⟨g,0,none⟩) xs:=by
 obtain ⟨g,c,rfl,h1,h2,h3,h4,h5,h6⟩:=h
 exact ⟨g,c,rfl,fun _=>⟨g,0,rfl,h2,fun j hj=>by rw [Nat.zero_add];exact h6 j hj⟩⟩
theorem OwnB.keep {w w':World} {B:Nat} {v:Value} {xs:List UInt8} (h:OwnB w B v xs) (hz:w.heap.size≤w'.heap.size) (hk:∀ k,v.ownBlock=some k→w'.heap[k]? = w.heap[k]?):OwnB w' B v xs:=by
 obtain ⟨g,c,rfl,h1,h2,h3,h4,h5,h6⟩:=h
 have hg:=hk g rfl
 have e1:∀ j,w'.cell? ⟨g,j,none⟩=w.cell? ⟨g,j,none⟩:=fun j=>World.cell?_of_block (a:=⟨g,j,none⟩) hg
 have e2:∀ j,w'.frozen? ⟨g,j,none⟩=w.frozen? ⟨g,j,none⟩:=fun j=>World.frozen?_of_block (a:=⟨g,j,none⟩) hg
 exact ⟨g,c,rfl,h1,by omega,h3,h4,fun j hj=>by rw [e1,e2];exact h5 j hj,fun j hj=>by rw [e1];exact h6 j hj⟩
theorem OwnB.nx {w w':World} {B:Nat} {v:Value} {xs:List UInt8} (h:OwnB w B v xs) (hn:Nx w w'):OwnB w' B v xs:=h.keep hn.size fun k e=>hn.block k (h.own k e).2
structure Gb (v:Value) (w:World) (v':Value) (w':World):Prop where
 os:w'.os=w.os
 tape:w'.tape=w.tape
 output:w'.output=w.output
 size:w.heap.size≤w'.heap.size
 block:∀ k,k<w.heap.size→v.ownBlock≠some k→w'.heap[k]? = w.heap[k]?
theorem Gb.to {v v':Value} {w w1 w':World} (h:Gb v w1 v' w') (hn:Nx w w1) (hv:∀ k,v.ownBlock=some k→w.heap.size≤k):Nx w w' :=
 ⟨h.os.trans hn.os,h.tape.trans hn.tape,h.output.trans hn.output,Nat.le_trans hn.size h.size,fun k hk=>(h.block k (Nat.lt_of_lt_of_le hk hn.size) (fun e=>by have:=hv k e;omega)).trans (hn.block k hk)⟩
theorem wpList_bytesB {P:Program} (w:World) {ops:Array Oper} {rest:List Oper} {o:Oper} {a:Act} {Q:Exit→Act→World→Prop} {src dst e:TypeId} (hgd:o.guard=none) (x:Operand) (ho:o.op = .convert src dst x) (hs:P.underlying src=some .string) (hd:P.underlying dst=some (.slice e)) (he:P.underlying e=some (.int .u8))
  (s:ByteArray) (l:List UInt8) (hl:Tx s l) (hx:a.eval x = .string s) (hm:l.length≤maxLen)
  (h:∀ v w',OwnB w' w.heap.size v l→Nx w w'→wpList P ops Q rest (a.put o.dst v) w'):wpList P ops Q (o :: rest) a w:=by
 refine wpList_plain hgd fun K hK=>?_
 have hrun:=Lib.run_convert_string_bytes (P:=P) w src dst e s hs hd he
 have hn:Nx w (Lib.bytesWorld w e s):=Joins.below_bytesWorld _ w e s (Nat.le_refl _)
 have hsz:s.size=l.length:=hl.size
 have hge:=grownCap_ge w s.size 0 e
 have hcs:(Lib.bytesCells w e s).size=grownCap w s.size 0 e:=by
  unfold Lib.bytesCells
  simp
  have:s.data.size=s.size:=rfl
  omega
 have hnew:=Lib.bytesWorld_at_new w e s
 have hr:OwnB (Lib.bytesWorld w e s) w.heap.size (.slice (some ⟨w.heap.size,0,none⟩) s.size (grownCap w s.size 0 e)) l:=by
  refine ⟨w.heap.size,grownCap w s.size 0 e,by rw [hsz],Nat.le_refl _,by rw [Lib.bytesWorld_size];omega,by omega,grownCap_le_maxLen _ _ _ _ (by omega),fun j hj=>?_,fun j hj=>?_⟩
  ·rw [← hcs] at hj
   constructor
   ·simp only [World.cell?,hnew]
    simp [hj]
   ·simp only [World.frozen?,hnew]
    simp
    omega
  ·rw [Lib.bytesWorld_cell w e s j (by omega),show s.data.toList=l from hl]
   simp [bv,hj]
 have:=hK _ _ (h _ _ hr hn)
 unfold Oper.wp execOp
 simp only [ho,Sem.run_bind,Sem.run_pure,Result.andThen_ok,hx,hrun]
 exact this
theorem heap_setCells_tape (b:Nat):∀ (vs:List Value) (o:Nat) (w:World),(w.setCells b o vs).tape=w.tape∧(w.setCells b o vs).heap.size=w.heap.size
 | [],_,_=>⟨rfl,rfl⟩
 | v :: r,o,w=>by
  have h:=heap_setCells_tape b r (o+1) (w.setCell ⟨b,o,none⟩ v)
  rw [World.setCells]
  exact ⟨h.1,by rw [h.2];simp [World.setCell]⟩
theorem wpList_appB {P:Program} (w:World) {ops:Array Oper} {rest:List Oper} {o:Oper} {a:Act} {Q:Exit→Act→World→Prop} (hgd:o.guard=none) (s x:Operand) (t tx e:TypeId)
  (ho:o.op = .call { callee:=.builtin .append,args:=#[s,x],argTypes:=#[t,tx] })
  (ht:P.underlying t=some (.slice e)) (hinf:(P.info? e).map (fun i=>(i.zero,i.size,i.bytes))=some (some (.int .u8 0),1,1))
  (B:Nat) (v:Value) (xs ys:List UInt8) (hs:a.eval s=v) (hown:OwnB w B v xs) (xv:Value) (hx:a.eval x=xv) (hsrc:Src P 1 tx xv ys.length (ys.map bv) w)
  (h63:(xs.length:Int)+(ys.length:Int)≤1000000) (hB:B≤w.heap.size)
  (h:∀ v' w',OwnB w' B v' (xs++ys)→Gb v w v' w'→wpList P ops Q rest (a.put o.dst v') w'):wpList P ops Q (o :: rest) a w:=by
 refine wpList_plain hgd fun K hK=>?_
 obtain ⟨i,hi,hz,h1,h2⟩:=info_parts hinf
 have key:∃ v' w',(Builtin.append_ #[t,tx] o.type #[v,xv]).run P w = .ok v' w'∧OwnB w' B v' (xs++ys)∧Gb v w v' w':=by
  obtain ⟨g,c,rfl,b1,b2,b3,b4,b5,b6⟩:=hown
  by_cases hroom:xs.length+ys.length≤c
  ·have hr:=run_append_room_src (P:=P) w t tx o.type e i ht hi g 0 xs.length c xv ys.length (ys.map bv) (by rw [h1];exact hsrc) hroom
    (fun j hj=>by rw [h1];simp at hj;rw [show 0+xs.length * 1+j=xs.length+j by omega];exact (b5 _ (by omega)).1)
    (fun j hj=>by rw [h1];simp at hj;rw [show 0+xs.length * 1+j=xs.length+j by omega];exact (b5 _ (by omega)).2)
   rw [h1,show 0+xs.length * 1=xs.length by omega] at hr
   have hin:=World.cell?_setCells_in g (ys.map bv) xs.length w (fun j hj=>by simp at hj;exact (b5 _ (by omega)).1)
   refine ⟨_,_,hr,⟨g,c,by rw [List.length_append],b1,by rw [(heap_setCells_tape g _ _ w).2];exact b2,by rw [List.length_append];exact hroom,b4,fun j hj=>⟨World.isSome_setCells g _ _ w _ (b5 j hj).1,by rw [World.frozen?_setCells];exact (b5 j hj).2⟩,fun j hj=>?_⟩,
    ⟨World.os_setCells w _ _ _,(heap_setCells_tape g _ _ w).1,World.output_setCells w _ _ _,by rw [(heap_setCells_tape g _ _ w).2];exact Nat.le_refl _,fun k hk hne=>World.heap_setCells_other w _ _ _ hk (fun e'=>hne (by rw [e'];rfl))⟩⟩
   by_cases hlt:j<xs.length
   ·rw [World.cell?_setCells_out g _ _ w ⟨g,j,none⟩ (fun _ _=>.inl hlt),List.getElem_append_left hlt]
    exact b6 j hlt
   ·rw [List.length_append] at hj
    have:=hin (j - xs.length) (by simp;omega)
    rw [show xs.length+(j - xs.length)=j by omega] at this
    rw [this,List.getElem_append_right (by omega)]
    simp
  ·have hold:(Builtin.firstCells i.size xs.length (.slice (some ⟨g,0,none⟩) xs.length c)).run P w.drew = .ok (xs.map bv).toArray w.drew:=by
    refine run_firstCells_some w.drew i.size xs.length ⟨g,0,none⟩ xs.length c (xs.map bv) (by rw [h1];simp) fun j u hu=>?_
    have hj:j<xs.length:=by
     rcases Nat.lt_or_ge j xs.length with h | h
     ·exact h
     ·rw [List.getElem?_eq_none (by simpa using h)] at hu;cases hu
    rw [Addr.add_lit,Nat.zero_add]
    have:=b6 j hj
    simp [hj] at hu
    rw [← hu]
    exact this
   have hr:=run_append_grow_src (P:=P) w t tx o.type e i (.int .u8 0) ht hi hz (some ⟨g,0,none⟩) xs.length c (xs.map bv) hold xv ys.length (ys.map bv) (by rw [h1];exact hsrc) (by omega) (by omega) (growslice_fits (by omega) (by rw [h2];omega))
   have hge:=grownCap_ge w (xs.length+ys.length) c e
   refine ⟨_,_,hr,⟨w.heap.size,grownCap w (xs.length+ys.length) c e,by rw [List.length_append],hB,by simp,by rw [List.length_append];exact hge,grownCap_le_maxLen _ _ _ _ (by unfold maxLen;omega),fun j hj=>?_,fun j hj=>?_⟩,⟨rfl,rfl,rfl,by simp,fun k hk _=>(nx0 w.drew _).block k hk⟩⟩
   ·have hnew:=Blk.new w.drew ((xs.map bv++ys.map bv).toArray++Builtin.zeroCells (Value.int .u8 0).cells (grownCap w (xs.length+ys.length) c e - (xs.length+ys.length))) e
    refine ⟨?_,hnew.free j⟩
    rw [show (⟨w.heap.size,j,none⟩:Addr)=⟨w.drew.heap.size,j,none⟩ from rfl,hnew.cell j]
    simp [size_zeroCells,Value.cells]
    omega
   ·have hnew:=Blk.new w.drew ((xs.map bv++ys.map bv).toArray++Builtin.zeroCells (Value.int .u8 0).cells (grownCap w (xs.length+ys.length) c e - (xs.length+ys.length))) e
    rw [show (⟨w.heap.size,j,none⟩:Addr)=⟨w.drew.heap.size,j,none⟩ from rfl,hnew.cell j]
    rw [List.length_append] at hj
    rw [Array.getElem?_append_left (by simp;exact hj),← List.map_append]
    have hj2:j<(xs++ys).length:=by rw [List.length_append];exact hj
    rw [List.getElem?_toArray,List.getElem?_map,List.getElem?_eq_getElem hj2]
    rfl
 obtain ⟨v',w',hrun,ho',hgb⟩:=key
 have:=hK _ _ (h v' w' ho' hgb)
 unfold Oper.wp execOp
 simp only [ho,resolve,invoke,builtin,Sem.run_bind,Sem.run_pure,Result.andThen_ok,List.map_toArray,List.map_cons,List.map_nil,hs,hx,hrun]
 exact this
end Go.Proofs.YtpbjkgpdkopgmaaGreatDoor
namespace Go.Proofs.YtpbjkgpdkopgmaaGreatDoor
open Go.RowKit
def partS (k:Nat) (a b:List UInt8):List UInt8:=if k=14∨k=15 then 60 :: (a++[62]) else if k=13 then 60 :: (a++44 :: (b++[62])) else []
def showS (k:Int) (n a b:List UInt8):List UInt8:=if k=0 then n else if k<0∨17≤k then [] else wordK k.toNat++partS k.toNat a b
theorem show_name (n a b:List UInt8):showS 0 n a b=n:=by simp [showS]
theorem show_none (k:Int) (n a b:List UInt8) (h0:k≠0) (h:k<0∨17≤k):showS k n a b=[]:=by unfold showS;rw [if_neg h0,if_pos h]
theorem show_word (k:Nat) (n a b:List UInt8) (h0:k≠0) (h:k<17):showS (k:Int) n a b=wordK k++partS k a b:=by
 unfold showS
 rw [if_neg (by omega),if_neg (by omega)]
 rfl
def prefS (k:Nat) (a b:List UInt8):Nat→List UInt8
 | 0=>[]
 | 1=>60 :: a
 | 2=>if k=13 then 60 :: a++44 :: b else 60 :: a++[62]
 | _=>60 :: a++44 :: b++[62]
def stopN (k:Nat):Nat:=if k=14∨k=15 then 2 else if k=13 then 3 else 0
theorem pref_stop (k:Nat) (a b:List UInt8):prefS k a b (stopN k)=partS k a b:=by
 unfold stopN partS
 split
 ·rename_i h
  simp [prefS,show k≠13 by omega]
 ·split
  ·simp [prefS]
  ·rfl
theorem sign_stop (k:Nat):signV k (stopN k)=none:=by
 unfold stopN signV
 split
 ·rename_i h
  rw [if_neg (by omega),if_neg (by omega),if_neg (by omega)]
 ·split
  ·rename_i h1 h2;subst h2;rfl
  ·rw [if_neg (by omega),if_neg (by omega),if_neg (by omega)]
theorem sign_before (k i:Nat) (h:i<stopN k):∃ x:UInt8,signV k i=some x.toNat∧(x=60∨x=44∨x=62)∧(x=62→∀ a b,prefS k a b (i+1)=prefS k a b i++[62])∧(x≠62→i<2∧∀ a b,prefS k a b (i+1)=prefS k a b i++x :: (if i=0 then a else b)):=by
 unfold stopN at h
 split at h
 ·rename_i hk
  have h13:k≠13:=by omega
  rcases (show i=0∨i=1 by omega) with rfl | rfl
  ·exact ⟨60,by rcases hk with rfl | rfl <;> rfl,.inl rfl,fun h=>absurd h (by decide),fun _=>⟨by omega,fun a b=>rfl⟩⟩
  ·exact ⟨62,by rcases hk with rfl | rfl <;> rfl,.inr (.inr rfl),fun _ a b=>by simp [prefS,h13],fun h=>absurd rfl h⟩
 ·split at h
  ·rename_i h1 hk
   subst hk
   rcases (show i=0∨i=1∨i=2 by omega) with rfl | rfl | rfl
   ·exact ⟨60,rfl,.inl rfl,fun h=>absurd h (by decide),fun _=>⟨by omega,fun a b=>rfl⟩⟩
   ·exact ⟨44,rfl,.inr (.inl rfl),fun h=>absurd h (by decide),fun _=>⟨by omega,fun a b=>by simp [prefS]⟩⟩
   ·exact ⟨62,rfl,.inr (.inr rfl),fun _ a b=>by simp [prefS],fun h=>absurd rfl h⟩
  ·omega
theorem pref_len (k:Nat) (a b:List UInt8) (i:Nat):(prefS k a b i).length≤a.length+b.length+3:=by
 unfold prefS
 split
 ·simp
 ·simp;omega
 ·split <;> simp <;> omega
 ·simp;omega
theorem word_len (k:Nat):(wordK k).length≤6:=by
 unfold wordK
 repeat' split
 all_goals decide
theorem src_one (P:Program) (w:World) (t e T:TypeId) (x:UInt8) (ht:P.underlying t=some (.slice e)):Src P 1 t (.slice (some ⟨w.heap.size,0,none⟩) 1 1) [x].length ([x].map bv) (w.alloc (.cells #[.int .u8 (x.toNat:Int)] T)):=by
 refine Src.ofSlice _ ht _ 1 1 _ rfl (fun j u hu=>?_) (fun u hu=>?_)
 ·cases j with
  | zero =>
   rw [Addr.add_lit,Nat.zero_add,(Blk.new w #[.int .u8 (x.toNat:Int)] T).cell 0]
   simpa [bv] using hu
  | succ j=>simp at hu
 ·simp at hu;subst hu;rfl
theorem src_str (P:Program) (w:World) (u:TypeId) (s:ByteArray) (l:List UInt8) (hl:Tx s l) (hu:P.underlying u=some .string):Src P 1 u (.string s) l.length (l.map bv) w:=by
 have:=Src.ofString (P:=P) w hu s
 rw [hl.size] at this
 have e:byteCells s=l.map bv:=by unfold byteCells;rw [show s.data.toList=l from hl];rfl
 rw [e] at this
 exact this
set_option maxRecDepth 100000 in
set_option maxHeartbeats 6400000 in
theorem show_any (w:World) (k:Int) (n a b:ByteArray) (ln la lb:List UInt8) (hln:Tx n ln) (hla0:Tx a la) (hlb0:Tx b lb) (hk1 : -9223372036854775808≤k) (hk2:k≤9223372036854775807) (ha:(a.size:Int)≤270000) (hb:(b.size:Int)≤270000) (ht:TabK w) :
  Calls Tryz.prog 145 #[.int .i64 k,.string n,.string a,.string b] w fun e w'=>e = .returned (.string (bA (showS k ln la lb)))∧Nx w w':=by
 have HLN:=Lib.hid hln
 have HLA:=Lib.hid hla0
 have HLB:=Lib.hid hlb0
 clear hln hla0 hlb0
 by_cases h0:k=0
 ·subst h0
  rw [show_name,← bA_tx HLN.out]
  go_enter Tryz.func145,Tryz.ntmps145
  go_wp2_with fail
  refine (fresh_any n w).mono ?_;rintro e w' ⟨rfl,hn⟩
  go_wp2_with fail
  go_ret
  exact ⟨rfl,hn⟩
 ·have hb0:(k == 0)=false:=by rw [beq_eq_false_iff_ne];exact h0
  by_cases hr:k<0∨17≤k
  ·rw [show_none k _ _ _ h0 hr]
   clear h0
   by_cases hneg:k<0
   ·clear hr
    go_enter Tryz.func145,Tryz.ntmps145
    go_wp2_with fail
    go_ret
    exact ⟨rfl,Nx.refl _⟩
   ·have h17:17≤k:=by omega
    have hneg':0≤k:=by omega
    clear hr
    go_enter Tryz.func145,Tryz.ntmps145
    go_wp2_with fail
    go_ret
    exact ⟨rfl,Nx.refl _⟩
  ·obtain ⟨K,rfl⟩:∃ K:Nat,k=(K:Int):=⟨k.toNat,by omega⟩
   have hK17:K<17:=by omega
   have hK0:K≠0:=by omega
   have hKI:(K:Int)<17:=by omega
   have hg1:decide ((17:Int)≤(K:Int))=false:=decide_eq_false (by omega)
   have hg0:decide ((K:Int)<0)=false:=decide_eq_false (by omega)
   rw [show_word K _ _ _ hK0 hK17]
   have HK17:=Lib.hid hK17
   have HT:=Lib.hid ht
   clear h0 hr hK0 hK17 ht
   go_enter Tryz.func145,Tryz.ntmps145
   go_wp2_with fail
   refine (signs_any w).mono ?_;rintro e w1 ⟨rfl,hsg,hn1⟩
   obtain ⟨sb,hsb⟩:∃ sb,w.heap.size=sb:=⟨_,rfl⟩
   rw [hsb] at hsg ⊢
   have HSB:=Lib.hid hsb
   have hsl:sb<w1.heap.size:=by
    obtain ⟨es,c,h,-⟩:=hsg
    exact (Array.getElem?_eq_some_iff.1 h).1
   obtain ⟨g,hg⟩:∃ g,w1.heap.size=g:=⟨_,rfl⟩
   have hB2:=Blk.new w1 #[.string a,.string b] 154
   rw [hg] at hB2
   have hN2:=(Nx.refl w1).al (.cells #[.string a,.string b] 154)
   have HG:=Lib.hid hg
   have HSL:=Lib.hid hsl
   have HN2:Hid (Nx w (w1.alloc (.cells #[.string a,.string b] 154))):=hn1.trans hN2
   have HSG2:Hid (Sg (w1.alloc (.cells #[.string a,.string b] 154)) sb):=by
    obtain ⟨es,c,h,h1,h2⟩:=hsg
    exact ⟨es,c,by rw [hN2.block sb hsl];exact h,h1,h2⟩
   have HB2:=Lib.hid hB2
   have hc:(w1.alloc (.cells #[.string a,.string b] 154)).cell? ⟨1,K,none⟩=some (.string (kwB K)):=by
    obtain ⟨t,fr,h⟩:=HT.out.nx HN2.out
    unfold World.cell?
    simp only [h]
    exact kwV_at K HK17.out
   have hfz:∀ x:Nat,x<17→True:=fun _ _=>trivial
   clear hsg hn1 hsb hsl hB2 hN2 hfz
   have HWL:Hid ((wordK K).length≤maxLen):=by
    unfold Hid wordK maxLen
    repeat' split
    all_goals decide
   go_wp2_with (refine wpList_bytesB _ (o:=⟨some 32,_,_,_,_,_⟩) rfl _ rfl Tryz.underlying9 Tryz.underlying22 Tryz.underlying5 (kwB K) (wordK K) (Tx.of _) rfl HWL.out ?_;intro v3 w3 hown3 hn3;have HOW3:=Lib.hid hown3;have HN3:=Lib.hid hn3;clear hown3 hn3 hc)
   obtain ⟨w2,hw2⟩:∃ w2,w1.alloc (.cells #[.string a,.string b] 154)=w2:=⟨_,rfl⟩
   rw [hw2] at HN2 HSG2 HB2 HOW3 HN3
   clear hw2
   have hst:stopN K≤3:=by unfold stopN;split <;> (try split) <;> omega
   have HST:=Lib.hid hst
   clear hst
   go_loopw [11,12] (fun ov iv wr=>∃ i:Nat,iv = .int .i64 (i:Int)∧i≤stopN K∧OwnB wr w2.heap.size ov (wordK K++prefS K la lb i)∧Nx w2 wr) (fun _ iv _=>5 - (intOf iv).toNat)
   case atStart=>exact ⟨0,rfl,Nat.zero_le _,by rw [show prefS K la lb 0=[] from rfl,List.append_nil];exact HOW3.out,HN3.out⟩
   case round =>
    obtain ⟨i,rfl,hi,hown,hnx⟩:=hrel
    have HOW:=Lib.hid hown
    have HNX:=Lib.hid hnx
    have HI:=Lib.hid hi
    have hi3:i<4:=by have:=HST.out;omega
    have HSGr:Hid (Sg wr sb):=by
     obtain ⟨es,c,h,h1,h2⟩:=HSG2.out
     exact ⟨es,c,by rw [hnx.block sb (Array.getElem?_eq_some_iff.1 h).1];exact h,h1,h2⟩
    have hiI:(i:Int)≤3:=by omega
    clear hown hnx
    by_cases hlt:i<stopN K
    ·obtain ⟨x,hx,hx3,hxe,hxn⟩:=sign_before K i hlt
     have hlk:=look_at HSGr.out K i HK17.out hi3 (i:Int) rfl _ hx (x.toNat:Int) rfl true rfl
     have HOWa:=Lib.hid (HOW.out.nx (nx0 wr (.cells #[.int .u8 (x.toNat:Int)] 5)))
     have HSRC:=Lib.hid (src_one Tryz.prog wr 22 5 5 x Tryz.underlying22)
     have hpl:=pref_len K la lb i
     have hwl:=word_len K
     have hlas:=HLA.out.size
     have hlbs:=HLB.out.size
     have h63:((wordK K++prefS K la lb i).length:Int)+(([x]:List UInt8).length:Int)≤1000000:=by rw [List.length_append];simp;omega
     have HB5:Hid (w2.heap.size≤(wr.alloc (.cells #[.int .u8 (x.toNat:Int)] 5)).heap.size):=Nat.le_trans HNX.out.size (nx0 wr _).size
     have HXE:=Lib.hid hxe
     have HXN:=Lib.hid hxn
     have HHI:Hid (i<stopN K):=hlt
     clear hx hx3 hxe hxn hpl hwl hlas hlbs hlt hi
     by_cases h62:x=62
     ·have hb62:((x.toNat:Int) != 62)=false:=by rw [h62];rfl
      have HX:=Lib.hid h62
      clear h62
      go_wp2_with (refine wpList_appB _ (o:=⟨some 50,_,_,_,_,_⟩) rfl _ _ _ _ 5 rfl Tryz.underlying22 info_u8 w2.heap.size u11 _ [x] rfl HOWa.out _ rfl HSRC.out h63 HB5.out ?_;intro v4 w4 hown4 hgb4;have HOW4:=Lib.hid hown4;have HGB4:=Lib.hid hgb4;clear hown4 hgb4)
      have hnx4:Nx w2 w4:=HGB4.out.to (HNX.out.trans (nx0 wr _)) (fun k e=>(HOW.out.own k e).1)
      have hh:i<stopN K:=HHI.out
      refine ⟨⟨i+1,by go_num,hh,?_,hnx4⟩,by simp [intOf];omega⟩
      have h1:=HOW4.out
      rw [HXE.out HX.out la lb,← List.append_assoc]
      rw [HX.out] at h1
      exact h1
     ·have hb62:((x.toNat:Int) != 62)=true:=by
       rw [bne_iff_ne]
       intro h
       exact h62 (UInt8.toNat_inj.1 (by have:(62:UInt8).toNat=62:=rfl;omega))
      obtain ⟨hi2,hpre⟩:=HXN.out h62
      have HPRE:=Lib.hid hpre
      obtain ⟨y,hy⟩:∃ y,Hid ((if i=0 then a else b)=y):=⟨_,rfl⟩
      obtain ⟨ly,hly⟩:∃ ly,Hid ((if i=0 then la else lb)=ly):=⟨_,rfl⟩
      have HTY:Hid (Tx y ly):=by
       unfold Hid
       rw [← hy.out,← hly.out]
       split
       ·exact HLA.out
       ·exact HLB.out
      have hys:ly.length≤270000:=by
       rw [← HTY.out.size,← hy.out]
       split <;> omega
      have hcy:w2.cell? ⟨g,i,none⟩=some (.string y):=by
       rcases (show i=0∨i=1 by omega) with rfl | rfl
       ·rw [← hy.out,if_pos rfl];exact HB2.out.cell 0
       ·rw [← hy.out,if_neg (by decide)];exact HB2.out.cell 1
      have HCY:=Lib.hid hcy
      have hgw:g<w2.heap.size:=HB2.out.lt
      have HGW:=Lib.hid hgw
      have hi2I:(i:Int)<2:=by omega
      have hlas:=HLA.out.size
      have hlbs:=HLB.out.size
      have hpl:=pref_len K la lb i
      have hwl:=word_len K
      have HL2:Hid (((wordK K++prefS K la lb i++[x]).length:Int)+(ly.length:Int)≤1000000):=by unfold Hid;rw [List.length_append,List.length_append];simp;omega
      clear h62 hi2 hpre hcy hgw hys hlas hlbs hpl hwl
      go_wp2_with (first
       | (refine wpList_appB _ (o:=⟨some 50,_,_,_,_,_⟩) rfl _ _ _ _ 5 rfl Tryz.underlying22 info_u8 w2.heap.size u11 _ [x] rfl HOWa.out _ rfl HSRC.out h63 HB5.out ?_;intro v4 w4 hown4 hgb4;have HOW4:=Lib.hid hown4;have HNX4:Hid (Nx w2 w4):=hgb4.to (HNX.out.trans (nx0 wr _)) (fun k e=>(HOW.out.own k e).1);have hcy:w4.cell? ⟨g,i,none⟩=some (.string y):=(HNX4.out.cell (p:=⟨g,i,none⟩) HGW.out).trans HCY.out;have HB6:=Lib.hid HNX4.out.size;have HSRC2:=Lib.hid (src_str Tryz.prog w4 9 y ly HTY.out Tryz.underlying9);clear hown4 hgb4)
       | (refine wpList_appB _ (o:=⟨some 57,_,_,_,_,_⟩) rfl _ _ _ _ 5 rfl Tryz.underlying22 info_u8 w2.heap.size v4 _ ly rfl HOW4.out _ rfl HSRC2.out HL2.out HB6.out ?_;intro v5 w5 hown5 hgb5;have HOW5:=Lib.hid hown5;have HGB5:=Lib.hid hgb5;clear hown5 hgb5 hcy))
      have hnx5:Nx w2 w5:=HGB5.out.to HNX4.out (fun k e=>(HOW4.out.own k e).1)
      have hh:i<stopN K:=HHI.out
      refine ⟨⟨i+1,by go_num,hh,?_,hnx5⟩,by simp [intOf];omega⟩
      have h1:=HOW5.out
      rw [HPRE.out la lb,hly.out]
      have e2:wordK K++prefS K la lb i++[x]++ly=wordK K++(prefS K la lb i++x :: ly):=by simp
      rw [e2] at h1
      exact h1
    ·obtain rfl:i=stopN K:=by omega
     have hlk:=look_at HSGr.out K (stopN K) HK17.out hi3 (stopN K:Int) rfl _ (sign_stop K) 0 rfl false rfl
     obtain ⟨g',c',hv,hrd⟩:=HOW.out.rd
     rw [pref_stop] at hv hrd
     have HRD:=Lib.hid hrd
     subst hv
     clear hrd hlt hi
     go_wp2_with (refine wpList_str _ (o:=⟨some 46,_,_,_,_,_⟩) rfl _ rfl Tryz.underlying22 Tryz.underlying5 Tryz.underlying9 _ _ _ rfl HRD.out ?_;intro t HT ht1 ht2)
     go_ret
     rw [HT.out]
     exact ⟨rfl,HN2.out.trans HNX.out⟩
end Go.Proofs.YtpbjkgpdkopgmaaGreatDoor
