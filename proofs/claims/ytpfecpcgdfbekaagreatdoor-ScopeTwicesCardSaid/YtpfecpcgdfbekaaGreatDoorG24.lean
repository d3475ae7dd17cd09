/- Two lists of a load grow in one region whose operations come in any order: what holds meanwhile. Plain lemmas. The files of a bundle, loaded: as a function. What a file's includes are; how many files a visit may add. Plain lemmas. How many files the document's load may add; how deep it goes. Plain lemmas. The laws' test of whether kind does anything yet; and what is shown comes back (what is plain of it). KindBack: what is shown has that head, and parts are types in their turn (what is plain of it). KindNests: how deep types may lie (what is plain of it). KindNames: names stand in order (what is plain of it). -/
import Derived.Test.YtpfecpcgdfbekaaGreatDoorG23
import Derived.Test.YtpfecpcgdfbekaaGreatDoorG08
import Derived.Test.YtpfecpcgdfbekaaGreatDoorG09
import Derived.Test.YtpfecpcgdfbekaaGreatDoorG02
import Derived.Test.YtpfecpcgdfbekaaGreatDoorProg
set_option linter.unusedVariables false
set_option linter.unusedSimpArgs false
set_option linter.unnecessarySimpa false
namespace Go.Proofs.YtpfecpcgdfbekaaGreatDoor
open Go.RowKit
theorem getD_put (ls:Array Bool) (i j:Nat) (h:j≠i) (d:Bool):(ls.setIfInBounds i true).getD j d=ls.getD j d:=by
 rw [Array.getD_eq_getD_getElem?,Array.getD_eq_getD_getElem?,Array.getElem?_setIfInBounds,if_neg (fun e=>h e.symm)]
theorem getD_put1 (ls:Array Bool) (i:Nat) (h:i<ls.size) (d:Bool):(ls.setIfInBounds i true).getD i d=true:=by
 rw [Array.getD_eq_getD_getElem?,Array.getElem?_setIfInBounds,if_pos rfl,if_pos h];rfl
theorem Sl.ty {α:Type} {P:Nat→Prop} {f:α→Array Value} {k:Nat} {T:TypeId} {w:World} {v:Value} {xs:List α} (h:Sl P f k T w v xs) (b:Nat) (e:v.ownBlock=some b):∃ cur fr,w.heap[b]? = some (.cells cur T fr):=by
 rcases h.1.2 with ⟨rfl,-⟩ | ⟨g,cap,cur,rfl,hg,hh,-⟩
 ·cases e
 ·cases e
  exact ⟨_,_,hh⟩
theorem Sl.rep {α:Type} {P:Nat→Prop} {f:α→Array Value} {k:Nat} {T:TypeId} {w:World} {v:Value} {xs:List α} (h:Sl P f k T w v xs):RepL f k T (REq (α:=α)) w P v xs:=by
 refine ⟨xs,h,?_⟩
 clear h
 induction xs with
 | nil=>trivial
 | cons x r ih=>exact ⟨rfl,ih⟩
theorem RepL.sl_ {α:Type} {P:Nat→Prop} {f:α→Array Value} {k:Nat} {T:TypeId} {w:World} {v:Value} {xs:List α} (h:RepL f k T (REq (α:=α)) w P v xs):Sl P f k T w v xs:=by
 obtain ⟨ys,h1,h2⟩:=h
 obtain rfl:ys=xs:=List.ext_getElem h2.len (fun i h3 h4=>h2.at_ i h3 h4)
 exact h1
def csW (rt:List UInt8) (bf vo:Value) (s:LdW) (c2 c3:Value):Array Value:=#[bt rt,bf,c2,c3,vo,.int .i64 (s.e:Int),bt s.file,.int .i64 (s.at_:Int)]
def P9 (wd:World) (LN:Value) (k:Nat):Prop:=LN.ownBlock=some k∨wd.heap.size≤k
def VR {α:Type} (f:α→Array Value) (k:Nat) (T:TypeId) (wd:World) (LN:Value) (l:List α) (v:Value) (w:World):Prop:=∃ A c,v = .slice A l.length c∧Sl (P9 wd LN) f k T w v l
structure SN (rt:List UInt8) (bf vo:Value) (s:LdW) (wd:World) (g B:Nat) (LN LF:Value) (ln:List (List UInt8)) (lf:List FilS) (b9 b17 b21 b25:Bool) (w:World):Prop where
 os:w.os=wd.os
 tape:w.tape=wd.tape
 output:w.output=wd.output
 size:wd.heap.size≤w.heap.size
 block:∀ k,k<wd.heap.size→k≠g→(b9=false∨LN.ownBlock≠some k)→(b17=false∨LF.ownBlock≠some k)→w.heap[k]? = wd.heap[k]?
 ex:∃ c2 c3,Blk w B g (csW rt bf vo s c2 c3) 64∧(b21=false→c2=LN)∧(b21=true→VR strA 1 9 wd LN ln c2 w)∧(b25=false→c3=LF)∧(b25=true→VR filA 3 74 wd LF lf c3 w)
def RW2 (g:Nat) (LN LF:Value) (ls:Array Bool) (w1 w2:World):Prop :=
 w1.heap.size≤w2.heap.size∧∀ k,k<w1.heap.size→k≠g→(ls.getD 9 false=true∨LN.ownBlock≠some k)→(ls.getD 17 false=true∨LF.ownBlock≠some k)→w2.heap[k]? = w1.heap[k]?
theorem RW2.nx {g:Nat} {LN LF:Value} {ls:Array Bool} {w1 w2:World} (h:Nx w1 w2):RW2 g LN LF ls w1 w2:=⟨h.size,fun k hk _ _ _=>h.block k hk⟩
section
variable {rt:List UInt8} {bf vo:Value} {s:LdW} {wd:World} {g B:Nat} {LN LF:Value} {ln:List (List UInt8)} {lf:List FilS} {b9 b17 b21 b25:Bool} {w w':World}
theorem VR.nx {α:Type} {f:α→Array Value} {k:Nat} {T:TypeId} {l:List α} {v:Value} (h:VR f k T wd LN l v w) (n:Nx w w'):VR f k T wd LN l v w':=by
 obtain ⟨A,c,h1,h2⟩:=h
 exact ⟨A,c,h1,h2.mv ⟨fun k _ hl=>n.block k hl,fun k hk _=>hk⟩⟩
theorem VR.put {α:Type} {f:α→Array Value} {k:Nat} {T:TypeId} {l:List α} {v:Value} (h:VR f k T wd LN l v w) (hg:LN.ownBlock≠some g) (hgd:g<wd.heap.size) (i:Nat) (u:Value):VR f k T wd LN l v (w.setCell ⟨g,i,none⟩ u):=by
 obtain ⟨A,c,h1,h2⟩:=h
 refine ⟨A,c,h1,h2.mv ⟨fun k hp _=>?_,fun k hk _=>hk⟩⟩
 have hne:k≠g:=by rintro rfl;rcases hp with h | h;exact hg h;omega
 simp only [World.setCell];rw [Array.getElem?_modify,if_neg (fun e=>hne e.symm)]
theorem SN.nx (h:SN rt bf vo s wd g B LN LF ln lf b9 b17 b21 b25 w) (n:Nx w w'):SN rt bf vo s wd g B LN LF ln lf b9 b17 b21 b25 w':=by
 obtain ⟨c2,c3,h1,h2,h3,h4,h5⟩:=h.ex
 exact ⟨n.os.trans h.os,n.tape.trans h.tape,n.output.trans h.output,Nat.le_trans h.size n.size,fun k hk h6 h7 h8=>(n.block k (Nat.lt_of_lt_of_le hk h.size)).trans (h.block k hk h6 h7 h8),
  c2,c3,h1.below n,h2,fun e=>(h3 e).nx n,h4,fun e=>(h5 e).nx n⟩
theorem SN.app9 (h:SN rt bf vo s wd g B LN LF ln lf false b17 false false w) {v:Value} (hg:Gx LN w v w') (hn:LN.ownBlock≠some g):SN rt bf vo s wd g B LN LF ln lf true b17 false false w':=by
 obtain ⟨c2,c3,h1,h2,h3,h4,h5⟩:=h.ex
 refine ⟨hg.os.trans h.os,hg.tape.trans h.tape,hg.output.trans h.output,Nat.le_trans h.size hg.size,fun k hk h6 h7 h8=>?_,c2,c3,⟨h1.1,by rw [hg.block g h1.lt hn];exact h1.2⟩,h2,(fun e=>by cases e),h4,(fun e=>by cases e)⟩
 exact (hg.block k (Nat.lt_of_lt_of_le hk h.size) (h7.resolve_left (by decide))).trans (h.block k hk h6 (.inl rfl) h8)
theorem SN.app17 (h:SN rt bf vo s wd g B LN LF ln lf b9 false false false w) {v:Value} (hg:Gx LF w v w') (hn:LF.ownBlock≠some g):SN rt bf vo s wd g B LN LF ln lf b9 true false false w':=by
 obtain ⟨c2,c3,h1,h2,h3,h4,h5⟩:=h.ex
 refine ⟨hg.os.trans h.os,hg.tape.trans h.tape,hg.output.trans h.output,Nat.le_trans h.size hg.size,fun k hk h6 h7 h8=>?_,c2,c3,⟨h1.1,by rw [hg.block g h1.lt hn];exact h1.2⟩,h2,(fun e=>by cases e),h4,(fun e=>by cases e)⟩
 exact (hg.block k (Nat.lt_of_lt_of_le hk h.size) (h8.resolve_left (by decide))).trans (h.block k hk h6 h7 (.inl rfl))
theorem set_block {k i:Nat} {u:Value} (h:k≠g):(w.setCell ⟨g,i,none⟩ u).heap[k]? = w.heap[k]?:=by
 simp only [World.setCell];rw [Array.getElem?_modify,if_neg (fun e=>h e.symm)]
theorem SN.put21 (h:SN rt bf vo s wd g B LN LF ln lf b9 b17 false false w) {v:Value} (hv:VR strA 1 9 wd LN ln v w) (hn:LN.ownBlock≠some g) (hgd:g<wd.heap.size):SN rt bf vo s wd g B LN LF ln lf b9 b17 true false (w.setCell ⟨g,2,none⟩ v):=by
 obtain ⟨c2,c3,h1,h2,h3,h4,h5⟩:=h.ex
 exact ⟨h.os,h.tape,h.output,by simp only [World.setCell,Array.size_modify];exact h.size,fun k hk h6 h7 h8=>(set_block h6).trans (h.block k hk h6 h7 h8),
  v,c3,h1.put 2 v,(fun e=>by cases e),fun _=>hv.put hn hgd _ _,h4,(fun e=>by cases e)⟩
theorem SN.put25 (h:SN rt bf vo s wd g B LN LF ln lf b9 b17 b21 false w) {v:Value} (hv:VR filA 3 74 wd LF lf v w) (hn:LN.ownBlock≠some g) (hf:LF.ownBlock≠some g) (hgd:g<wd.heap.size):SN rt bf vo s wd g B LN LF ln lf b9 b17 b21 true (w.setCell ⟨g,3,none⟩ v):=by
 obtain ⟨c2,c3,h1,h2,h3,h4,h5⟩:=h.ex
 exact ⟨h.os,h.tape,h.output,by simp only [World.setCell,Array.size_modify];exact h.size,fun k hk h6 h7 h8=>(set_block h6).trans (h.block k hk h6 h7 h8),
  c2,v,h1.put 3 v,h2,fun e=>(h3 e).put hn hgd _ _,(fun e=>by cases e),fun _=>hv.put hf hgd _ _⟩
theorem SN.end_ {w0:World} {fx:List FilS} {F:Fil} {raw:FilS} (h:SN rt bf vo s wd g w0.heap.size LN LF ln (fx++[raw]) true true true true w) (h0:DlS rt bf w0 g s vo LN LF wd)
  (hE:All2 (RFile wd (But (Pd w0.heap.size g LN) LF)) fx s.files) (hF:RFile wd (But (Pd w0.heap.size g LN) LF) raw F) :
  ∃ vn vf,DlS rt bf w0 g ⟨ln,s.files++[F],s.e,s.file,s.at_⟩ vo vn vf w∧DlF g LN LF wd vn vf w:=by
 obtain ⟨c2,c3,h1,-,h3,-,h5⟩:=h.ex
 obtain ⟨A2,n2,e2,k2⟩:=h3 rfl
 obtain ⟨A3,n3,e3,k3⟩:=h5 rfl
 have o2:∀ k,c2.ownBlock=some k→P9 wd LN k:=k2.2
 have o3:∀ k,c3.ownBlock=some k→P9 wd LF k:=k3.2
 have gl:=h0.gl
 have gb:=h0.gb
 have hne:∀ k,c2.ownBlock=some k→c3.ownBlock≠some k:=fun k e e'=>by
  rcases o2 k e with a | a
  ·rcases o3 k e' with b | b
   ·exact (h0.onb k a).1.2.2 b
   ·have:=(h0.onb k a).2;omega
  ·rcases o3 k e' with b | b
   ·have:=(h0.ofb k b).2;omega
   ·obtain ⟨x,y,z⟩:=k2.ty k e
    obtain ⟨x',y',z'⟩:=k3.ty k e'
    rw [z] at z'
    simp only [Option.some.injEq,Obj.cells.injEq] at z'
    exact absurd z'.2.1 (by decide)
 have b2:∀ k,c2.ownBlock=some k→w0.heap.size≤k∧k≠g:=fun k e=>by
  rcases o2 k e with a | a
  ·exact ⟨(h0.onb k a).1.1,(h0.onb k a).1.2.1⟩
  ·exact ⟨by have:=h0.nx.size;omega,by omega⟩
 have b3:∀ k,c3.ownBlock=some k→w0.heap.size≤k∧k≠g:=fun k e=>by
  rcases o3 k e with a | a
  ·exact ⟨(h0.ofb k a).1.1,(h0.ofb k a).1.2.1⟩
  ·exact ⟨by have:=h0.nx.size;omega,by omega⟩
 have hb:∀ k,k<wd.heap.size→k≠g→LN.ownBlock≠some k→LF.ownBlock≠some k→w.heap[k]? = wd.heap[k]?:=fun k hk hg a b=>h.block k hk hg (.inr a) (.inr b)
 have hmv:Mv (But (Pd w0.heap.size g LN) LF) (But (Pd w0.heap.size g c2) c3) wd w:=⟨fun k hp hl=>hb k hl hp.1.2.1 hp.1.2.2 hp.2,fun k hp hl =>
  ⟨⟨hp.1.1,hp.1.2.1,fun e=>by rcases o2 k e with a | a;exact hp.1.2.2 a;omega⟩,fun e=>by rcases o3 k e with a | a;exact hp.2 a;omega⟩⟩
 refine ⟨c2,c3,⟨?_,h1,?_,?_⟩,h.os,h.tape,h.output,h.size,hb,o2,o3⟩
 ·exact ⟨h.os.trans h0.nx.os,h.tape.trans h0.nx.tape,h.output.trans h0.nx.output,Nat.le_trans h0.nx.size h.size,fun k hk =>
   (hb k (Nat.lt_of_lt_of_le hk h0.nx.size) (by omega) (fun e=>by have:=(h0.onb k e).1.1;omega) (fun e=>by have:=(h0.ofb k e).1.1;omega)).trans (h0.nx.block k hk)⟩
 ·exact (show Sl (Pd w0.heap.size g c3) strA 1 9 w c2 ln from ⟨k2.1,fun k e=>⟨(b2 k e).1,(b2 k e).2,hne k e⟩⟩).rep
 ·exact ⟨fx++[raw],⟨k3.1,fun k e=>⟨(b3 k e).1,(b3 k e).2,fun e'=>hne k e' e⟩⟩,All2.snoc (hE.mono fun _ _ h=>RFile.lasts hmv h) (RFile.lasts hmv hF)⟩
end
def SNl (rt:List UInt8) (bf vo:Value) (s:LdW) (wd:World) (g B:Nat) (LN LF:Value) (ln:List (List UInt8)) (lf:List FilS) (ls:Array Bool) (w:World):Prop :=
 SN rt bf vo s wd g B LN LF ln lf (ls.getD 9 false) (ls.getD 17 false) (ls.getD 21 false) (ls.getD 25 false) w
section
variable {rt:List UInt8} {bf vo:Value} {s:LdW} {wd:World} {g B:Nat} {LN LF:Value} {ln:List (List UInt8)} {lf:List FilS} {ls:Array Bool} {w w':World}
theorem SNl.set (h:SNl rt bf vo s wd g B LN LF ln lf ls w) (n:Nx w w') (i:Nat) (h1:9≠i) (h2:17≠i) (h3:21≠i) (h4:25≠i):SNl rt bf vo s wd g B LN LF ln lf (ls.setIfInBounds i true) w':=by
 unfold SNl
 rw [getD_put _ _ _ h1,getD_put _ _ _ h2,getD_put _ _ _ h3,getD_put _ _ _ h4]
 exact SN.nx h n
end
def reg17 (wd:World) (g:Nat) (LN LF:Value) (nm:List UInt8) (raw:FilS) (ln:List (List UInt8)) (lf:List FilS):List (Value→World→Prop) :=
  [fun v _=>v = .pointer (some ⟨g,0,none⟩),fun v _=>v = .pointer (some ⟨g,0,none⟩),fun v _=>v = .pointer (some ⟨g,0,none⟩),fun v _=>v = .pointer (some ⟨g,0,none⟩),fun v _=>v = .pointer (some ⟨g,2,none⟩),fun v _=>v = .pointer (some ⟨g,2,none⟩),
   fun v _=>v=LN,fun v _=>v = .string ⟨nm.toArray⟩,fun v w=>∃ k,v = .slice (some ⟨k,0,none⟩) 1 1∧wd.heap.size≤k∧k<w.heap.size∧∀ j,j<1→w.cell? ⟨k,j,none⟩=(strA nm)[j]?,VR strA 1 9 wd LN ln,
   fun v _=>v = .pointer (some ⟨g,0,none⟩),fun v _=>v = .pointer (some ⟨g,0,none⟩),fun v _=>v = .pointer (some ⟨g,2,none⟩),fun v _=>v = .pointer (some ⟨g,3,none⟩),fun v _=>v=LF,fun v _=>v = .agg (filA raw),
   fun v w=>∃ k,v = .slice (some ⟨k,0,none⟩) 1 1∧wd.heap.size≤k∧k<w.heap.size∧∀ j,j<3→w.cell? ⟨k,j,none⟩=(filA raw)[j]?,VR filA 3 74 wd LF lf,
   fun v _=>v = .pointer (some ⟨g,0,none⟩),fun v _=>v = .pointer (some ⟨g,2,none⟩),fun v _=>v = .pointer (some ⟨g,2,none⟩),fun _ _=>True,fun v _=>v = .pointer (some ⟨g,0,none⟩),fun v _=>v = .pointer (some ⟨g,2,none⟩),fun v _=>v = .pointer (some ⟨g,3,none⟩),fun _ _=>True]
theorem VR.keep {α:Type} {f:α→Array Value} {k:Nat} {T:TypeId} {wd:World} {LN:Value} {l:List α} {v:Value} {w w':World} (h:VR f k T wd LN l v w) (hk:∀ b,P9 wd LN b→b<w.heap.size→w'.heap[b]? = w.heap[b]?):VR f k T wd LN l v w':=by
 obtain ⟨A,c,h1,h2⟩:=h
 exact ⟨A,c,h1,h2.mv ⟨hk,fun b hb _=>hb⟩⟩
theorem reg17_keep {wd:World} {g:Nat} {LN LF:Value} {nm:List UInt8} {raw:FilS} {ln:List (List UInt8)} {lf:List FilS} (hg:g<wd.heap.size) (hn:∀ k,LN.ownBlock=some k→k<wd.heap.size∧k≠g∧LF.ownBlock≠some k) (hf:∀ k,LF.ownBlock=some k→k<wd.heap.size∧k≠g) :
  ∀ (ls:Array Bool) (j:Nat) (v:Value) (w w':World),ls.getD j false=true→RI.Vof (reg17 wd g LN LF nm raw ln lf) j v w→RW2 g LN LF ls w w'→RI.Vof (reg17 wd g LN LF nm raw ln lf) j v w':=by
 intro ls j v w w' hl hv hr
 have hmk:∀ k,wd.heap.size≤k→k<w.heap.size→w'.heap[k]? = w.heap[k]?:=fun k h1 h2 =>
  hr.2 k h2 (by omega) (.inr fun e=>by have:=(hn k e).1;omega) (.inr fun e=>by have:=(hf k e).1;omega)
 rcases (show j=8∨j=9∨j=16∨j=17∨(j≠8∧j≠9∧j≠16∧j≠17) by omega) with rfl | rfl | rfl | rfl | ⟨n8,n9,n16,n17⟩
 ·obtain ⟨k,h1,h2,h3,h4⟩:=hv
  exact ⟨k,h1,h2,Nat.lt_of_lt_of_le h3 hr.1,fun j hj=>(World.cell?_of_block (hmk k h2 h3)).trans (h4 j hj)⟩
 ·refine VR.keep hv fun b hb hlt=>?_
  rcases hb with hb | hb
  ·exact hr.2 b hlt (hn b hb).2.1 (.inl hl) (.inr (hn b hb).2.2)
  ·exact hmk b hb hlt
 ·obtain ⟨k,h1,h2,h3,h4⟩:=hv
  exact ⟨k,h1,h2,Nat.lt_of_lt_of_le h3 hr.1,fun j hj=>(World.cell?_of_block (hmk k h2 h3)).trans (h4 j hj)⟩
 ·refine VR.keep hv fun b hb hlt=>?_
  rcases hb with hb | hb
  ·exact hr.2 b hlt (hf b hb).2 (.inr fun e=>(hn b e).2.2 hb) (.inl hl)
  ·exact hmk b hb hlt
 ·match j,n8,n9,n16,n17,hv with
  | 0,_,_,_,_,hv=>exact hv
  | 1,_,_,_,_,hv=>exact hv
  | 2,_,_,_,_,hv=>exact hv
  | 3,_,_,_,_,hv=>exact hv
  | 4,_,_,_,_,hv=>exact hv
  | 5,_,_,_,_,hv=>exact hv
  | 6,_,_,_,_,hv=>exact hv
  | 7,_,_,_,_,hv=>exact hv
  | 8,h,_,_,_,_=>exact absurd rfl h
  | 9,_,h,_,_,_=>exact absurd rfl h
  | 10,_,_,_,_,hv=>exact hv
  | 11,_,_,_,_,hv=>exact hv
  | 12,_,_,_,_,hv=>exact hv
  | 13,_,_,_,_,hv=>exact hv
  | 14,_,_,_,_,hv=>exact hv
  | 15,_,_,_,_,hv=>exact hv
  | 16,_,_,h,_,_=>exact absurd rfl h
  | 17,_,_,_,h,_=>exact absurd rfl h
  | 18,_,_,_,_,hv=>exact hv
  | 19,_,_,_,_,hv=>exact hv
  | 20,_,_,_,_,hv=>exact hv
  | 21,_,_,_,_,hv=>exact hv
  | 22,_,_,_,_,hv=>exact hv
  | 23,_,_,_,_,hv=>exact hv
  | 24,_,_,_,_,hv=>exact hv
  | 25,_,_,_,_,hv=>exact hv
  | n+26,_,_,_,_,hv=>exact hv
end Go.Proofs.YtpfecpcgdfbekaaGreatDoor
namespace Go.Proofs.YtpfecpcgdfbekaaGreatDoor
abbrev MapV:=List (List UInt8×List UInt8×Nat)
def getM (m:MapV) (k:List UInt8):Option (List UInt8×Nat):=(m.find? (fun e=>decide (e.1=k))).map (·.2)
def putM:MapV→List UInt8→List UInt8×Nat→MapV
 | [],k,v=>[(k,v)]
 | e :: r,k,v=>if e.1=k then (k,v) :: r else e :: putM r k v
structure LdV where
 m:MapV
 names:List (List UInt8)
 files:List Fil
 e:Nat
 file:List UInt8
 at_:Nat
def ld0:LdV:=⟨[],[],[],0,[],0⟩
def failV (e:Nat) (f:List UInt8) (a:Nat) (s:LdV):LdV:=if s.e=0 then ⟨s.m,s.names,s.files,e,f,a⟩ else s
def hasV (s:LdV) (k:List UInt8):Bool:=(getM s.m k).isSome
def getV (s:LdV) (k:List UInt8):List UInt8×Nat:=(getM s.m k).getD ([],0)
def setV (k:List UInt8) (v:List UInt8×Nat) (s:LdV):LdV:=⟨putM s.m k v,s.names,s.files,s.e,s.file,s.at_⟩
def addV (n:List UInt8) (f:Fil) (s:LdV):LdV:=⟨s.m,s.names++[n],s.files++[f],s.e,s.file,s.at_⟩
def needV (name asking:List UInt8) (s:LdV):LdV:=if hasV s name then s else failV 15 asking 0 s
def take1 (s:LdV) (f:List UInt8×List UInt8):LdV:=setV f.1 (f.2,0) (if hasV s f.1 then failV 8 f.1 0 s else s)
def take2 (s:LdV) (f:List UInt8×List UInt8):LdV:=if plainP f.1 then s else failV 2 f.1 0 s
def takeV (l:List (List UInt8×List UInt8)) (s:LdV):LdV:=l.foldl take2 (l.foldl take1 (if 5<l.length then failV 4 [] 0 s else s))
def incV (vis:List UInt8→LdV→LdV) (asking:List UInt8) (s:LdV) (name:List UInt8):LdV :=
 if (getV (needV name asking s) name).2=0 then vis name (needV name asking s)
 else if (getV (needV name asking s) name).2=1 then failV 9 asking 0 (needV name asking s) else needV name asking s
def preV (name:List UInt8) (s:LdV):LdV :=
 let s1:=setV name ((getV s name).1,1) s
 let p:=parseF (getV s name).1
 if p.2.1≠0 then failV p.2.1 name p.2.2 s1 else s1
def visV:Nat→List UInt8→LdV→LdV
 | 0=>fun _ s=>s
 | n+1=>fun name s=>if s.e≠0 then s else
  addV name (parseF (getV s name).1).1 (setV name ((getV s name).1,2) ((parseF (getV s name).1).1.incs.foldl (incV (visV n) name) (preV name s)))
def begV (root:List UInt8) (l:List (List UInt8×List UInt8)):LdV:=needV root root (takeV l ld0)
def endV (root:List UInt8) (l:List (List UInt8×List UInt8)):LdV:=visV (begV root l).m.length root (begV root l)
end Go.Proofs.YtpfecpcgdfbekaaGreatDoor
namespace Go.Proofs.YtpfecpcgdfbekaaGreatDoor
theorem plainP_len {t:List UInt8} (h:plainP t=true):t.length≤40:=by
 unfold plainP at h
 simp only [Bool.and_eq_true,decide_eq_true_eq] at h
 exact h.1.1.1
theorem incP_len (ws:List TokV) (s:PSt):(incP ws s).1.length≤40:=by
 unfold incP
 dsimp only
 split
 ·rename_i h
  rw [Bool.and_eq_true] at h
  exact plainP_len h.2
 ·exact Nat.zero_le _
def IncOk (l:List (List UInt8)):Prop:=l.length≤5∧∀ x ∈ l,x.length≤40
theorem IncOk.add {ws:List TokV} {a:List (List UInt8)} (h:IncOk a) (s:PSt):IncOk (addP 5 (incP ws) a s).1:=by
 unfold addP
 split
 ·exact h
 ·rename_i hne
  refine ⟨by have:=h.1;simp;omega,fun x hx=>?_⟩
  rcases List.mem_append.1 hx with hx | hx
  ·exact h.2 x hx
  ·rw [List.mem_singleton] at hx
   subst hx
   exact incP_len ws s
theorem headsB_inc (ws:List TokV):∀ (f:Nat) (a:List (List UInt8)) (b:List Spc) (s:PSt),IncOk a→IncOk (headsP ws f a b s).1.1
 | 0,a,b,s,h=>h
 | f+1,a,b,s,h=>by
  unfold headsP
  split
  ·exact headsB_inc ws f _ b _ (h.add s)
  ·split
   ·exact headsB_inc ws f a _ _ h
   ·exact h
theorem parse_inc (l:List UInt8):IncOk (parseF l).1.incs:=by
 have h0:IncOk []:=⟨Nat.zero_le _,fun x h=>by cases h⟩
 unfold parseF
 split
 ·exact h0
 ·dsimp only
  split
  ·exact h0
  ·exact headsB_inc _ _ _ _ _ h0
def Sz (s:LdV) (n:Nat):Prop:=s.names.length≤n∧s.files.length≤n
theorem Sz.mono {s:LdV} {n m:Nat} (h:Sz s n) (k:n≤m):Sz s m:=⟨Nat.le_trans h.1 k,Nat.le_trans h.2 k⟩
theorem Sz.fail {s:LdV} {n:Nat} (h:Sz s n) (e:Nat) (f:List UInt8) (a:Nat):Sz (failV e f a s) n:=by
 unfold failV;split <;> exact h
theorem Sz.need {s:LdV} {n:Nat} (h:Sz s n) (a b:List UInt8):Sz (needV a b s) n:=by
 unfold needV;split
 ·exact h
 ·exact h.fail _ _ _
theorem Sz.set {s:LdV} {n:Nat} (h:Sz s n) (k:List UInt8) (v:List UInt8×Nat):Sz (setV k v s) n:=h
theorem Sz.pre {s:LdV} {n:Nat} (h:Sz s n) (k:List UInt8):Sz (preV k s) n:=by
 unfold preV;dsimp only;split
 ·exact (h.set _ _).fail _ _ _
 ·exact h.set _ _
theorem Sz.inc {vis:List UInt8→LdV→LdV} {d:Nat} (hv:∀ k s n,Sz s n→Sz (vis k s) (n+d)) {s:LdV} {n:Nat} (h:Sz s n) (a k:List UInt8):Sz (incV vis a s k) (n+d):=by
 unfold incV
 split
 ·exact hv _ _ _ (h.need _ _)
 ·split
  ·exact ((h.need _ _).fail _ _ _).mono (Nat.le_add_right _ _)
  ·exact (h.need _ _).mono (Nat.le_add_right _ _)
theorem Sz.incs {vis:List UInt8→LdV→LdV} {d:Nat} (hv:∀ k s n,Sz s n→Sz (vis k s) (n+d)) (a:List UInt8):∀ (l:List (List UInt8)) {s:LdV} {n:Nat},Sz s n→Sz (l.foldl (incV vis a) s) (n+l.length * d)
 | [],s,n,h=>by simpa using h
 | k :: r,s,n,h=>by
  have:=Sz.incs hv a r (Sz.inc hv h a k)
  rw [List.foldl_cons]
  refine this.mono ?_
  rw [List.length_cons,Nat.succ_mul];omega
theorem Sz.vis:∀ (m:Nat) (k:List UInt8) (s:LdV) (n:Nat),Sz s n→Sz (visV m k s) (n+6 ^ m)
 | 0,_,s,n,h=>h.mono (by simp)
 | m+1,k,s,n,h=>by
  show Sz (if s.e≠0 then s else _) _
  split
  ·exact h.mono (Nat.le_add_right _ _)
  ·have h1:=Sz.incs (Sz.vis m) k (parseF (getV s k).1).1.incs (h.pre k)
   have h2:=(parse_inc (getV s k).1).1
   have h3:(parseF (getV s k).1).1.incs.length * 6 ^ m≤5 * 6 ^ m:=Nat.mul_le_mul_right _ h2
   have h4:0<6 ^ m:=Nat.pow_pos (by decide)
   have h5:6 ^ (m+1)=6 * 6 ^ m:=by rw [Nat.pow_succ,Nat.mul_comm]
   obtain ⟨a1,a2⟩:=h1
   refine ⟨?_,?_⟩
   ·show ((_:LdV).names++[k]).length≤_
    rw [List.length_append]
    show _+1≤_
    have:(setV k ((getV s k).1,2) ((parseF (getV s k).1).1.incs.foldl (incV (visV m) k) (preV k s))).names.length≤n+(parseF (getV s k).1).1.incs.length * 6 ^ m:=a1
    omega
   ·show ((_:LdV).files++[(parseF (getV s k).1).1]).length≤_
    rw [List.length_append]
    show _+1≤_
    have:(setV k ((getV s k).1,2) ((parseF (getV s k).1).1.incs.foldl (incV (visV m) k) (preV k s))).files.length≤n+(parseF (getV s k).1).1.incs.length * 6 ^ m:=a2
    omega
def Fo (s:LdV):Prop:=s.file.length≤8000
theorem Fo.fail {s:LdV} (h:Fo s) (e:Nat) {f:List UInt8} (hf:f.length≤8000) (a:Nat):Fo (failV e f a s):=by
 unfold failV;split
 ·exact hf
 ·exact h
theorem Fo.need {s:LdV} (h:Fo s) (n:List UInt8) {a:List UInt8} (ha:a.length≤8000):Fo (needV n a s):=by
 unfold needV;split
 ·exact h
 ·exact h.fail _ ha _
theorem Fo.pre {s:LdV} (h:Fo s) {k:List UInt8} (hk:k.length≤8000):Fo (preV k s):=by
 unfold preV;dsimp only;split
 ·exact Fo.fail (s:=setV _ _ s) h _ hk _
 ·exact h
theorem Fo.inc {vis:List UInt8→LdV→LdV} (hv:∀ k s,k.length≤8000→Fo s→Fo (vis k s)) {s:LdV} (h:Fo s) {a k:List UInt8} (ha:a.length≤8000) (hk:k.length≤8000):Fo (incV vis a s k):=by
 unfold incV
 split
 ·exact hv _ _ hk (h.need _ ha)
 ·split
  ·exact (h.need _ ha).fail _ ha _
  ·exact h.need _ ha
theorem Fo.incs {vis:List UInt8→LdV→LdV} (hv:∀ k s,k.length≤8000→Fo s→Fo (vis k s)) {a:List UInt8} (ha:a.length≤8000):∀ (l:List (List UInt8)) {s:LdV},(∀ x ∈ l,x.length≤40)→Fo s→Fo (l.foldl (incV vis a) s)
 | [],s,_,h=>h
 | k :: r,s,hl,h=>Fo.incs hv ha r (fun x hx=>hl x (by simp [hx])) (Fo.inc hv h ha (Nat.le_trans (hl k (by simp)) (by decide)))
theorem Fo.vis:∀ (m:Nat) (k:List UInt8) (s:LdV),k.length≤8000→Fo s→Fo (visV m k s)
 | 0,_,s,_,h=>h
 | m+1,k,s,hk,h=>by
  show Fo (if s.e≠0 then s else _)
  split
  ·exact h
  ·exact Fo.incs (Fo.vis m) hk (parseF (getV s k).1).1.incs (parse_inc (getV s k).1).2 (h.pre hk)
theorem Fo.end_ (root:List UInt8) (l:List (List UInt8×List UInt8)) (hr:root.length≤8000) (hl:∀ x ∈ l,x.1.length≤8000):Fo (endV root l):=by
 have h0:Fo ld0:=Nat.zero_le _
 have h1:∀ (r:List (List UInt8×List UInt8)) (s:LdV),(∀ x ∈ r,x.1.length≤8000)→Fo s→Fo (r.foldl take1 s):=fun r=>by
  induction r with
  | nil=>exact fun s _ h=>h
  | cons x r ih =>
   intro s hx h
   refine ih _ (fun y hy=>hx y (by simp [hy])) ?_
   show Fo (if _ then _ else _)
   split
   ·exact h.fail _ (hx x (by simp)) _
   ·exact h
 have h2:∀ (r:List (List UInt8×List UInt8)) (s:LdV),(∀ x ∈ r,x.1.length≤8000)→Fo s→Fo (r.foldl take2 s):=fun r=>by
  induction r with
  | nil=>exact fun s _ h=>h
  | cons x r ih =>
   intro s hx h
   refine ih _ (fun y hy=>hx y (by simp [hy])) ?_
   unfold take2
   split
   ·exact h
   ·exact h.fail _ (hx x (by simp)) _
 unfold endV
 refine Fo.vis _ _ _ hr ?_
 unfold begV takeV
 refine Fo.need (h2 l _ hl (h1 l _ hl ?_)) _ hr
 split
 ·exact h0.fail _ (Nat.zero_le _) _
 ·exact h0
end Go.Proofs.YtpfecpcgdfbekaaGreatDoor
namespace Go.Proofs.YtpfecpcgdfbekaaGreatDoor
theorem Sw.down (xs:List (List UInt8×List UInt8)):∀ (k:Nat) (opn:List (List UInt8)),DnSw (downW xs k opn) (6 ^ k)
 | 0,_=>fun n s m h=>h.mono (Nat.le_add_right _ _)
 | k+1,opn=>fun n s m h=>by
  show Sw (if _ then _ else _) _
  split
  ·exact (h.fail _ _ _).mono (Nat.le_add_right _ _)
  ·have h1:=Sw.incs (Sw.down xs k (opn++[n])) xs (opn++[n]) n (parseF ((txtW xs n).getD [])).1.incs h
   have h2:=(parse_inc ((txtW xs n).getD [])).1
   have h3:(parseF ((txtW xs n).getD [])).1.incs.length * 6 ^ k≤5 * 6 ^ k:=Nat.mul_le_mul_right _ h2
   have h4:0<6 ^ k:=Nat.pow_pos (by decide)
   have h5:6 ^ (k+1)=6 * 6 ^ k:=by rw [Nat.pow_succ,Nat.mul_comm]
   obtain ⟨a1,a2⟩:=h1
   exact ⟨by dsimp only;rw [List.length_append];show _+1≤_;omega,by dsimp only;rw [List.length_append];show _+1≤_;omega⟩
theorem names_le:∀ (xs:List (List UInt8×List UInt8)) (l:List (List UInt8)),l.Nodup→(∀ x ∈ l,(txtW xs x).isSome=true)→l.length≤xs.length
 | [],l,_,h=>by
  cases l with
  | nil=>exact Nat.le_refl _
  | cons x r=>have:=h x (by simp);cases this
 | y :: xs,l,hd,h=>by
  have h1:(l.filter (fun x=>!decide (x=y.1))).length≤xs.length:=names_le xs _ (hd.filter _) (fun x hx=>by
   obtain ⟨hx1,hx2⟩:=List.mem_filter.1 hx
   have hne:¬ y.1=x:=fun e=>by rw [e] at hx2;simp at hx2
   have:=h x hx1
   unfold txtW at this
   rw [if_neg hne] at this
   exact this)
  have h2:(l.filter (fun x=>decide (x=y.1))).length≤1:=by
   have hn:(l.filter (fun x=>decide (x=y.1))).Nodup:=hd.filter _
   have ha:∀ x ∈ l.filter (fun x=>decide (x=y.1)),x=y.1:=fun x hx=>by simpa using (List.mem_filter.1 hx).2
   generalize l.filter (fun x=>decide (x=y.1))=z at hn ha
   match z,hn,ha with
   | [],_,_=>exact Nat.zero_le _
   | [_],_,_=>exact Nat.le_refl _
   | a :: b :: r,hn,ha =>
    exfalso
    have e1:=ha a (by simp)
    have e2:=ha b (by simp)
    rw [List.nodup_cons] at hn
    exact hn.1 (by rw [e1,e2];simp)
  have h3:l.length=(l.filter (fun x=>decide (x=y.1))).length+(l.filter (fun x=>!decide (x=y.1))).length:=by
   clear hd h h1 h2
   induction l with
   | nil=>rfl
   | cons a l ih =>
    by_cases ha:a=y.1 <;> simp [List.filter_cons,ha] at * <;> omega
  rw [h3,List.length_cons]
  omega
end Go.Proofs.YtpfecpcgdfbekaaGreatDoor
namespace Go.Proofs.YtpfecpcgdfbekaaGreatDoor
open Go.RowKit
end Go.Proofs.YtpfecpcgdfbekaaGreatDoor
namespace Go.Proofs.YtpfecpcgdfbekaaGreatDoor
open Go.RowKit
end Go.Proofs.YtpfecpcgdfbekaaGreatDoor
namespace Go.Proofs.YtpfecpcgdfbekaaGreatDoor
open Go.RowKit
end Go.Proofs.YtpfecpcgdfbekaaGreatDoor
namespace Go.Proofs.YtpfecpcgdfbekaaGreatDoor
open Go.RowKit
theorem OwnN.one (w:World) (y:ByteArray) (B:Nat) (hB:B≤w.heap.size):OwnN (w.alloc (.cells #[.string y] 9)) B (.slice (some ⟨w.heap.size,0,none⟩) 1 1) [y] :=
 ⟨rfl,.inr ⟨w.heap.size,1,#[.string y],rfl,hB,heap_alloc_new w _,Nat.le_refl _,by decide,rfl,rfl⟩⟩
theorem wpList_appNs (w:World) {ops:Array Oper} {rest:List Oper} {o:Oper} {a:Act} {Q:Exit→Act→World→Prop} (hgd:o.guard=none) (s x:Operand)
  (ho:o.op = .call { callee:=.builtin .append,args:=#[s,x],argTypes:=#[25,25] })
  (B:Nat) (v:Value) (xs ys:List ByteArray) (hs:a.eval s=v) (hown:OwnN w B v xs) (A:Option Addr) (c:Nat) (hx:a.eval x = .slice A ys.length c)
  (hy:RdS strC 1 w A ys) (hc:ys.length=0→v≠.slice none 0 0) (h63:(xs.length:Int)+(ys.length:Int)≤100000) (hB:B≤w.heap.size)
  (h:∀ v' w',OwnN w' B v' (xs++ys)→w.grownBy w' v.ownBlock→wpList Tryz.prog ops Q rest (a.put o.dst v') w'):wpList Tryz.prog ops Q (o :: rest) a w:=by
 refine wpList_plain hgd fun K hK=>?_
 obtain ⟨i,hi,hz,h1,h2⟩:=info_parts (show (Tryz.prog.info? 9).map (fun i=>(i.zero,i.size,i.bytes))=some (some (.string ⟨#[]⟩),1,16) by kernel_rfl)
 have key:∃ v' w',(Builtin.append_ #[25,25] o.type #[v,.slice A ys.length c]).run Tryz.prog w = .ok v' w'∧OwnN w' B v' (xs++ys)∧w.grownBy w' v.ownBlock:=by
  rcases Nat.eq_zero_or_pos ys.length with h0 | h0
  ·have hn:=hc h0
   obtain rfl:=List.eq_nil_of_length_eq_zero h0
   rcases hown.2 with ⟨rfl,h3⟩ | ⟨g,cap,cur,rfl,hg,hh,hnc,r⟩
   ·exact absurd rfl hn
   ·refine ⟨_,w,?_,by rw [List.append_nil];exact ⟨hown.1,.inr ⟨g,cap,cur,rfl,hg,hh,hnc,r⟩⟩,⟨rfl,rfl,rfl,Nat.le_refl _,fun _ _ _=>rfl⟩⟩
    cases A with
    | none=>simp [Builtin.append_,run_underlying Tryz.underlying25,sizeOf,typeInfo,hi,Builtin.lenOf,Builtin.firstCells,hnc,storeCells]
    | some ad=>simp [Builtin.append_,run_underlying Tryz.underlying25,sizeOf,typeInfo,hi,Builtin.lenOf,Builtin.firstCells,hnc,storeCells,loadCells,loadCellsFrom]
  ·obtain ⟨g,rfl,hg,hcell⟩:=hy h0
   have hl:(rowL strC ys).length=ys.length * 1:=rowL_length strC_size ys
   have hcells:∀ j u,(rowL strC ys)[j]? = some u→w.cell? ((⟨g,0,none⟩:Addr).add j)=some u:=by
    intro j u hu
    have hj:j<ys.length:=by
     rcases Nat.lt_or_ge j ys.length with h | h
     ·exact h
     ·rw [List.getElem?_eq_none (by rw [hl];omega)] at hu;cases hu
    rw [Addr.add_lit,Nat.zero_add]
    have e1:=hcell j hj 0 (by decide)
    have e2:=rowL_get strC_size ys j hj 0 (by decide)
    rw [show j * 1+0=j by omega] at e1 e2
    rw [e1,← e2,hu]
   have hone:∀ u ∈ rowL strC ys,u.oneCell'=true:=by
    intro u hu
    obtain ⟨y,_,hy⟩:=List.mem_flatMap.1 hu
    simp [strC] at hy
    subst hy
    rfl
   obtain ⟨v',w',hrun,ho',hg',_,_⟩:=run_append_own_at (P:=Tryz.prog) w B 25 o.type 9 i _ 1 16 Tryz.underlying25 hi hz h1 h2 rfl (by decide) v xs.length (rowL strC xs) hown ⟨g,0,none⟩ ys.length c (rowL strC ys) hl hcells hone (by simp [maxLen];omega) (by omega) hB
   refine ⟨v',w',hrun,?_,hg'⟩
   unfold OwnN OwnS
   rw [List.length_append]
   have e:rowL strC (xs++ys)=rowL strC xs++rowL strC ys:=by unfold rowL;simp
   rw [e]
   exact ho'
 obtain ⟨v',w',hrun,ho',hg'⟩:=key
 have:=hK _ _ (h v' w' ho' hg')
 unfold Oper.wp execOp
 simp only [ho,resolve,invoke,builtin,Sem.run_bind,Sem.run_pure,Result.andThen_ok,List.map_toArray,List.map_cons,List.map_nil,hs,hx,hrun]
 exact this
theorem Nx.grownBy {w w1 w':World} {v:Value} (hn:Nx w w1) (h:w1.grownBy w' v.ownBlock) (hv:∀ k,v.ownBlock=some k→w.heap.size≤k):Nx w w' :=
 ⟨h.os.trans hn.os,h.tape.trans hn.tape,h.output.trans hn.output,Nat.le_trans hn.size h.size,fun k hk=>(h.block k (Nat.lt_of_lt_of_le hk hn.size) (fun e=>by have:=hv k e.symm;omega)).trans (hn.block k hk)⟩
end Go.Proofs.YtpfecpcgdfbekaaGreatDoor
