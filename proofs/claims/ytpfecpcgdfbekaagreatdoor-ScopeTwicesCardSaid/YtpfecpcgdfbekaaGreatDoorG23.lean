/- The document's load of a bundle, as a function. What lies where a list grows; what a load leaves alone. Plain lemmas. The contracts of the document's load's small functions: has, fail, text. Lists: append of one element, as an operation. A name and a file are appended to a load. Plain lemmas. A region that draws its order: an invariant that knows what has been carried out, and what not. Plain lemmas over any program. -/
import Derived.Test.YtpfecpcgdfbekaaGreatDoorG08
import Derived.Test.YtpfecpcgdfbekaaGreatDoorG12
import Derived.Test.YtpfecpcgdfbekaaGreatDoorG11
import Derived.Deep.DeepCutAuto
import Derived.Deep.CutBlock
import Derived.Test.YtpfecpcgdfbekaaGreatDoorG09
set_option linter.unusedVariables false
set_option linter.unusedSimpArgs false
set_option linter.unnecessarySimpa false
namespace Go.Proofs.YtpfecpcgdfbekaaGreatDoor
structure LdW where
 names:List (List UInt8)
 files:List Fil
 e:Nat
 file:List UInt8
 at_:Nat
def lw0:LdW:=⟨[],[],0,[],0⟩
def failW (e:Nat) (f:List UInt8) (a:Nat) (s:LdW):LdW:=if s.e=0 then ⟨s.names,s.files,e,f,a⟩ else s
def txtW:List (List UInt8×List UInt8)→List UInt8→Option (List UInt8)
 | [],_=>none
 | x :: r,k=>if x.1=k then some x.2 else txtW r k
def incW (dn:List UInt8→LdW→LdW) (xs:List (List UInt8×List UInt8)) (opn:List (List UInt8)) (name n:List UInt8) (s:LdW):LdW :=
 if opn.contains n then failW 9 name 0 s else if (txtW xs n).isNone then failW 15 name 0 s else if s.names.contains n then s else dn n s
def incsW (dn:List UInt8→LdW→LdW) (xs:List (List UInt8×List UInt8)) (opn:List (List UInt8)) (name:List UInt8):List (List UInt8)→LdW→LdW
 | [],s=>s
 | n :: r,s=>if s.e≠0 then s else incsW dn xs opn name r (incW dn xs opn name n s)
def downW (xs:List (List UInt8×List UInt8)):Nat→List (List UInt8)→List UInt8→LdW→LdW
 | 0,_,_,s=>s
 | n+1,opn,name,s =>
  let p:=parseF ((txtW xs name).getD [])
  if p.2.1≠0 then failW p.2.1 name p.2.2 s
  else
   let t:=incsW (downW xs n (opn++[name])) xs (opn++[name]) name p.1.incs s
   ⟨t.names++[name],t.files++[p.1],t.e,t.file,t.at_⟩
theorem incsW_end {dn:List UInt8→LdW→LdW} {xs:List (List UInt8×List UInt8)} {opn:List (List UInt8)} {name:List UInt8} {l:List (List UInt8)} {s:LdW} (h:s.e≠0):incsW dn xs opn name l s=s:=by
 cases l with
 | nil=>rfl
 | cons _ _=>exact if_pos h
theorem incsW_step {dn:List UInt8→LdW→LdW} {xs:List (List UInt8×List UInt8)} {opn:List (List UInt8)} {name:List UInt8} {l:List (List UInt8)} {s:LdW} (i:Nat) (hi:i<l.length) (h:s.e=0) :
  incsW dn xs opn name (l.drop i) s=incsW dn xs opn name (l.drop (i+1)) (incW dn xs opn name l[i] s):=by
 rw [List.drop_eq_getElem_cons hi]
 exact if_neg (by omega)
theorem failW_len (e:Nat) (f:List UInt8) (a:Nat) (s:LdW):(failW e f a s).names=s.names∧(failW e f a s).files=s.files:=by
 unfold failW;split <;> exact ⟨rfl,rfl⟩
def Sw (s:LdW) (m:Nat):Prop:=s.names.length≤m∧s.files.length≤m
theorem Sw.fail {s:LdW} {m:Nat} (h:Sw s m) (e:Nat) (f:List UInt8) (a:Nat):Sw (failW e f a s) m:=by
 obtain ⟨h1,h2⟩:=failW_len e f a s
 exact ⟨by rw [h1];exact h.1,by rw [h2];exact h.2⟩
theorem Sw.mono {s:LdW} {m k:Nat} (h:Sw s m) (hk:m≤k):Sw s k:=⟨Nat.le_trans h.1 hk,Nat.le_trans h.2 hk⟩
def DnSw (dn:List UInt8→LdW→LdW) (d:Nat):Prop:=∀ n s m,Sw s m→Sw (dn n s) (m+d)
theorem Sw.inc {dn:List UInt8→LdW→LdW} {d:Nat} (hd:DnSw dn d) (xs:List (List UInt8×List UInt8)) (opn:List (List UInt8)) (name n:List UInt8) {s:LdW} {m:Nat} (h:Sw s m):Sw (incW dn xs opn name n s) (m+d):=by
 unfold incW
 split
 ·exact (h.fail _ _ _).mono (Nat.le_add_right _ _)
 ·split
  ·exact (h.fail _ _ _).mono (Nat.le_add_right _ _)
  ·split
   ·exact h.mono (Nat.le_add_right _ _)
   ·exact hd n s m h
theorem Sw.incs {dn:List UInt8→LdW→LdW} {d:Nat} (hd:DnSw dn d) (xs:List (List UInt8×List UInt8)) (opn:List (List UInt8)) (name:List UInt8):∀ (l:List (List UInt8)) {s:LdW} {m:Nat},Sw s m→Sw (incsW dn xs opn name l s) (m+l.length * d)
 | [],s,m,h=>h.mono (Nat.le_add_right _ _)
 | n :: r,s,m,h=>by
  unfold incsW
  have e:m+(n :: r).length * d=m+d+r.length * d:=by rw [List.length_cons,Nat.succ_mul];omega
  split
  ·exact h.mono (Nat.le_add_right _ _)
  ·rw [e];exact Sw.incs hd xs opn name r (h.inc hd xs opn name n)
end Go.Proofs.YtpfecpcgdfbekaaGreatDoor
namespace Go.Proofs.YtpfecpcgdfbekaaGreatDoor
open Go.RowKit
def Pd (B g:Nat) (v:Value) (k:Nat):Prop:=B≤k∧k≠g∧v.ownBlock≠some k
structure DlS (rt:List UInt8) (bf:Value) (w0:World) (g:Nat) (s:LdW) (vo vn vf:Value) (w:World):Prop where
 nx:Nx w0 w
 bl:Blk w w0.heap.size g #[bt rt,bf,vn,vf,vo,.int .i64 (s.e:Int),bt s.file,.int .i64 (s.at_:Int)] 64
 nm:RepL strA 1 9 (REq (α:=List UInt8)) w (Pd w0.heap.size g vf) vn s.names
 fl:RepL filA 3 74 RFile w (Pd w0.heap.size g vn) vf s.files
structure DlF (g:Nat) (vn vf:Value) (w:World) (vn' vf':Value) (w':World):Prop where
 os:w'.os=w.os
 tape:w'.tape=w.tape
 output:w'.output=w.output
 size:w.heap.size≤w'.heap.size
 block:∀ k,k<w.heap.size→k≠g→vn.ownBlock≠some k→vf.ownBlock≠some k→w'.heap[k]? = w.heap[k]?
 ownn:∀ k,vn'.ownBlock=some k→vn.ownBlock=some k∨w.heap.size≤k
 ownf:∀ k,vf'.ownBlock=some k→vf.ownBlock=some k∨w.heap.size≤k
theorem DlF.nx {g:Nat} {w w':World} (h:Nx w w') (vn vf:Value):DlF g vn vf w vn vf w':=⟨h.os,h.tape,h.output,h.size,fun k hk _ _ _=>h.block k hk,fun _ h=>.inl h,fun _ h=>.inl h⟩
theorem DlF.refl (g:Nat) (vn vf:Value) (w:World):DlF g vn vf w vn vf w:=DlF.nx (Nx.refl w) vn vf
theorem DlF.trans {g:Nat} {vn vf vn1 vf1 vn2 vf2:Value} {x y z:World} (h:DlF g vn vf x vn1 vf1 y) (k:DlF g vn1 vf1 y vn2 vf2 z):DlF g vn vf x vn2 vf2 z :=
  ⟨k.os.trans h.os,k.tape.trans h.tape,k.output.trans h.output,Nat.le_trans h.size k.size,
   fun i hi hg hn hf=>(k.block i (Nat.lt_of_lt_of_le hi h.size) hg (fun e=>(h.ownn i e).elim hn (by omega)) (fun e=>(h.ownf i e).elim hf (by omega))).trans (h.block i hi hg hn hf),
   fun i e=>(k.ownn i e).elim (h.ownn i) (fun h'=>.inr (Nat.le_trans h.size h')),
   fun i e=>(k.ownf i e).elim (h.ownf i) (fun h'=>.inr (Nat.le_trans h.size h'))⟩
theorem DlF.put (w:World) (g i:Nat) (v vn vf:Value):DlF g vn vf w vn vf (w.setCell ⟨g,i,none⟩ v) :=
 ⟨rfl,rfl,rfl,by simp [World.setCell],fun k _ hk _ _=>by simp only [World.setCell];rw [Array.getElem?_modify,if_neg (fun e=>hk e.symm)],fun _ h=>.inl h,fun _ h=>.inl h⟩
def OpR (B g:Nat) (vn vf:Value) (w:World) (vo:Value) (l:List (List UInt8)):Prop :=
 ∃ A c,vo = .slice A l.length c∧l.length≤c∧c≤maxLen∧(0<l.length→∃ k,A=some ⟨k,0,none⟩∧B≤k∧k<w.heap.size∧k≠g∧vn.ownBlock≠some k∧vf.ownBlock≠some k∧∀ i (h:i<l.length),w.cell? ⟨k,i,none⟩=some (bt l[i]))
section
variable {rt:List UInt8} {bf:Value} {w0 w w':World} {g B:Nat} {s s':LdW} {vo vo' vn vf vn' vf':Value} {l:List (List UInt8)}
theorem OpR.fr (h:OpR B g vn vf w vo l) (f:DlF g vn vf w vn' vf' w'):OpR B g vn' vf' w' vo l:=by
 obtain ⟨A,c,h1,h2,h3,h4⟩:=h
 refine ⟨A,c,h1,h2,h3,fun h0=>?_⟩
 obtain ⟨k,a1,a2,a3,a4,a5,a6,a7⟩:=h4 h0
 refine ⟨k,a1,a2,Nat.lt_of_lt_of_le a3 f.size,a4,fun e=>(f.ownn k e).elim a5 (by omega),fun e=>(f.ownf k e).elim a6 (by omega),fun i h=>?_⟩
 rw [World.cell?_of_block (f.block k a3 a4 a5 a6)]
 exact a7 i h
theorem DlS.gb (h:DlS rt bf w0 g s vo vn vf w):w0.heap.size≤g:=h.bl.1
theorem DlS.gl (h:DlS rt bf w0 g s vo vn vf w):g<w.heap.size:=h.bl.lt
theorem DlS.onb (h:DlS rt bf w0 g s vo vn vf w) (k:Nat) (e:vn.ownBlock=some k):(w0.heap.size≤k∧k≠g∧vf.ownBlock≠some k)∧k<w.heap.size:=h.nm.own_lt k e
theorem DlS.ofb (h:DlS rt bf w0 g s vo vn vf w) (k:Nat) (e:vf.ownBlock=some k):(w0.heap.size≤k∧k≠g∧vn.ownBlock≠some k)∧k<w.heap.size:=h.fl.own_lt k e
theorem DlS.next (h:DlS rt bf w0 g s vo vn vf w) (n:Nx w w'):DlS rt bf w0 g s vo vn vf w' :=
 ⟨Nx.trans h.nx n,h.bl.below n,h.nm.mv REq.lasts ⟨fun k _ hl=>n.block k hl,fun k hk _=>hk⟩,h.fl.mv RFile.lasts ⟨fun k _ hl=>n.block k hl,fun k hk _=>hk⟩⟩
theorem DlS.eq (h:DlS rt bf w0 g s vo vn vf w) (e:s=s'):DlS rt bf w0 g s' vo vn vf w:=e ▸ h
theorem DlS.put (h:DlS rt bf w0 g s vo vn vf w) (i:Nat) (v:Value) (hs:s'.names=s.names∧s'.files=s.files)
  (hc:(#[bt rt,bf,vn,vf,vo,.int .i64 (s.e:Int),bt s.file,.int .i64 (s.at_:Int)]:Array Value).setIfInBounds i v=#[bt rt,bf,vn,vf,vo',.int .i64 (s'.e:Int),bt s'.file,.int .i64 (s'.at_:Int)]) :
  DlS rt bf w0 g s' vo' vn vf (w.setCell ⟨g,i,none⟩ v):=by
 have hk:∀ k,k≠g→(w.setCell ⟨g,i,none⟩ v).heap[k]? = w.heap[k]?:=fun k hk=>by
  simp only [World.setCell];rw [Array.getElem?_modify,if_neg (fun e=>hk e.symm)]
 refine ⟨Nx.put' h.nx h.gb i v,hc ▸ h.bl.put i v,?_,?_⟩
 ·rw [hs.1];exact h.nm.mv REq.lasts ⟨fun k hp _=>hk k hp.2.1,fun k hp _=>hp⟩
 ·rw [hs.2];exact h.fl.mv RFile.lasts ⟨fun k hp _=>hk k hp.2.1,fun k hp _=>hp⟩
theorem DlS.put3 (h:DlS rt bf w0 g s vo vn vf w) (e:Nat) (fl:List UInt8) (a:Nat):DlS rt bf w0 g ⟨s.names,s.files,e,fl,a⟩ vo vn vf (((w.setCell ⟨g,5,none⟩ (.int .i64 (e:Int))).setCell ⟨g,6,none⟩ (bt fl)).setCell ⟨g,7,none⟩ (.int .i64 (a:Int))) :=
 ((h.put (s':=⟨s.names,s.files,e,s.file,s.at_⟩) 5 _ ⟨rfl,rfl⟩ rfl).put (s':=⟨s.names,s.files,e,fl,s.at_⟩) 6 _ ⟨rfl,rfl⟩ rfl).put 7 _ ⟨rfl,rfl⟩ rfl
theorem DlF.put3 (w:World) (g:Nat) (u v x vn vf:Value):DlF g vn vf w vn vf (((w.setCell ⟨g,5,none⟩ u).setCell ⟨g,6,none⟩ v).setCell ⟨g,7,none⟩ x) :=
 ((DlF.put w g 5 u vn vf).trans (DlF.put _ g 6 v vn vf)).trans (DlF.put _ g 7 x vn vf)
end
end Go.Proofs.YtpfecpcgdfbekaaGreatDoor
namespace Go.Proofs.YtpfecpcgdfbekaaGreatDoor
open Go.RowKit
set_option maxRecDepth 100000 in
set_option maxHeartbeats 1600000 in
theorem dhas_any (A:Option Addr) (c:Nat) (l:List (List UInt8)) (w:World) (hr:0<l.length→∃ k,A=some ⟨k,0,none⟩∧∀ i (h:i<l.length),w.cell? ⟨k,i,none⟩=some (bt l[i])) (hl:(l.length:Int)≤1000000) (t:List UInt8) (B:Bool) (hB:l.contains t=B) :
  Calls Tryz.prog 35 #[.slice A l.length c,.string ⟨t.toArray⟩] w fun e w'=>e = .returned (.bool B)∧Nx w w':=by
 have HR:=Lib.hid hr
 obtain ⟨n,hn⟩:∃ n,Hid (l.length=n):=⟨_,rfl⟩
 rw [hn.out] at hl ⊢
 have HB:=Lib.hid hB
 clear hr hB
 go_enter Tryz.func35,Tryz.ntmps35
 go_wp2_with fail
 go_loopw [5] (fun v wr=>∃ i:Nat,v = .int .i64 (i:Int)∧i≤n∧(∀ j (h:j<l.length),j<i→l[j]≠t)∧w=wr) (fun v _=>(2000000 - intOf v).toNat)
 case atStart=>exact ⟨0,rfl,Nat.zero_le _,fun j _ h=>absurd h (by omega),rfl⟩
 case round =>
  obtain ⟨i,rfl,hi,hno,rfl⟩:=hrel
  have HNO:=Lib.hid hno
  clear hno
  by_cases hlt:i<n
  ·have h1:i<l.length:=by rw [hn.out];exact hlt
   obtain ⟨k,rfl,hc⟩:=HR.out (by omega)
   have c1:=hc i h1
   obtain ⟨x,hx⟩:∃ x,l[i]=x:=⟨_,rfl⟩
   rw [hx] at c1
   unfold bt at c1
   have b1:decide ((i:Int)<(n:Int))=true:=decide_eq_true (by omega)
   have b2:(i:Int)<(n:Int):=by omega
   by_cases hxt:x=t
   ·subst hxt
    obtain rfl:B=true:=by rw [← HB.out,List.contains_iff_mem,← hx];exact List.getElem_mem h1
    clear hc hx h1
    have b3:(x == x)=true:=by simp
    go_wp2_with fail
    go_ret
    exact ⟨rfl,Nx.refl _⟩
   ·have b3:(x == t)=false:=by rw [beq_eq_false_iff_ne];exact hxt
    have HN2:Hid (∀ j (h:j<l.length),j<i+1→l[j]≠t):=by
     intro j h hj
     rcases Nat.lt_or_ge j i with h3 | h3
     ·exact HNO.out j h h3
     ·obtain rfl:j=i:=by omega
      rw [hx];exact hxt
    clear hc hx h1 hxt
    go_wp2_with fail
    go_roundw
    case rel=>exact ⟨i+1,by go_num,hlt,HN2.out,by first | exact rfl | exact trivial⟩
    case measure=>simp [intOf];omega
  ·have b1:decide ((i:Int)<(n:Int))=false:=decide_eq_false (by omega)
   have b2:¬ (i:Int)<(n:Int):=by omega
   obtain rfl:B=false:=by
    rw [← HB.out,Bool.eq_false_iff]
    intro hm
    obtain ⟨j,h1,h2⟩:=List.getElem_of_mem (List.contains_iff_mem.1 hm)
    exact HNO.out j h1 (by have:=hn.out;omega) h2
   go_wp2_with fail
   go_ret
   exact ⟨rfl,Nx.refl _⟩
section
variable {rt:List UInt8} {bf:Value} {w0 w w':World} {g B:Nat} {s s':LdW} {vo vo' vn vf vn' vf':Value}
theorem DlS.cs (h:DlS rt bf w0 g s vo vn vf w):w.cell? ⟨g,0,none⟩=some (bt rt)∧w.cell? ⟨g,1,none⟩=some bf∧w.cell? ⟨g,2,none⟩=some vn∧w.cell? ⟨g,3,none⟩=some vf∧w.cell? ⟨g,4,none⟩=some vo ∧
  w.cell? ⟨g,5,none⟩=some (.int .i64 (s.e:Int))∧w.cell? ⟨g,6,none⟩=some (bt s.file)∧w.cell? ⟨g,7,none⟩=some (.int .i64 (s.at_:Int)) :=
 ⟨h.bl.cell 0,h.bl.cell 1,h.bl.cell 2,h.bl.cell 3,h.bl.cell 4,h.bl.cell 5,h.bl.cell 6,h.bl.cell 7⟩
theorem DlS.fs (h:DlS rt bf w0 g s vo vn vf w) (i:Nat):w.frozen? ⟨g,i,none⟩=false:=h.bl.free i
set_option maxRecDepth 100000 in
set_option maxHeartbeats 1600000 in
theorem dlfail_any (h0:DlS rt bf w0 g s vo vn vf w) (k:Nat) (fl:List UInt8) (a:Nat) :
  Calls Tryz.prog 34 #[.pointer (some ⟨g,0,none⟩),.int .i64 (k:Int),.string ⟨fl.toArray⟩,.int .i64 (a:Int)] w fun e w'=>e = .returned (.tuple #[])∧DlS rt bf w0 g (failW k fl a s) vo vn vf w'∧DlF g vn vf w vn vf w':=by
 have H:=Lib.hid h0
 obtain ⟨c0,c1,c2,c3,c4,c5,c6,c7⟩:=h0.cs
 have f5:=h0.fs 5
 have f6:=h0.fs 6
 have f7:=h0.fs 7
 by_cases he:s.e=0
 ·have b0:((s.e:Int) == 0)=true:=by rw [he];rfl
  have hnp:failW k fl a s=⟨s.names,s.files,k,fl,a⟩:=by unfold failW;rw [if_pos he]
  have HNP:=Lib.hid hnp
  clear hnp he h0
  go_enter Tryz.func34,Tryz.ntmps34
  go_wp2_with fail
  go_end0
  refine ⟨rfl,?_,DlF.put3 _ _ _ _ _ _ _⟩
  rw [HNP.out]
  exact H.out.put3 k fl a
 ·have b0:((s.e:Int) == 0)=false:=by rw [beq_eq_false_iff_ne];omega
  have hnp:failW k fl a s=s:=by unfold failW;rw [if_neg he]
  have HNP:=Lib.hid hnp
  clear hnp he h0
  go_enter Tryz.func34,Tryz.ntmps34
  go_wp2_with fail
  go_end0
  refine ⟨rfl,?_,DlF.refl _ _ _ _⟩
  rw [HNP.out]
  exact H.out
end
def RdW (w0:World) (A:Option Addr) (xs:List (List UInt8×List UInt8)):Prop :=
 0<xs.length→∃ g o,A=some ⟨g,o,none⟩∧g<w0.heap.size∧∀ i (h:i<xs.length),w0.cell? ⟨g,o+i * 2,none⟩=some (bt xs[i].1)∧w0.cell? ⟨g,o+i * 2+1,none⟩=some (bt xs[i].2)
theorem RdW.nx {w w':World} {A:Option Addr} {xs:List (List UInt8×List UInt8)} (h:RdW w A xs) (n:Nx w w'):RdW w' A xs:=fun h0=>by
 obtain ⟨g,o,h1,h2,h3⟩:=h h0
 exact ⟨g,o,h1,Nat.lt_of_lt_of_le h2 n.size,fun i hi=>⟨(n.cell h2).trans (h3 i hi).1,(n.cell h2).trans (h3 i hi).2⟩⟩
theorem txtW_no {xs:List (List UInt8×List UInt8)} {k:List UInt8} (h:∀ i (h:i<xs.length),xs[i].1≠k):txtW xs k=none:=by
 induction xs with
 | nil=>rfl
 | cons x r ih =>
  show (if x.1=k then _ else _)=_
  rw [if_neg (show x.1≠k from h 0 (by simp))]
  exact ih fun i hi=>h (i+1) (by simp;omega)
theorem txtW_at {k:List UInt8}:∀ {xs:List (List UInt8×List UInt8)} (i:Nat) (hi:i<xs.length),(∀ j (h:j<xs.length),j<i→xs[j].1≠k)→xs[i].1=k→txtW xs k=some xs[i].2
 | x :: r,0,_,_,h=>if_pos h
 | x :: r,i+1,hi,h,h2=>by
  show (if x.1=k then _ else _)=_
  rw [if_neg (show x.1≠k from h 0 (by simp) (by omega))]
  exact txtW_at i (by simpa using hi) (fun j hj hji=>h (j+1) (by simp;omega) (by omega)) h2
set_option maxRecDepth 100000 in
set_option maxHeartbeats 1600000 in
theorem dtext_any {rt:List UInt8} {w0 w:World} {g:Nat} {s:LdW} {vo vn vf:Value} (A:Option Addr) (n c:Nat) (xs:List (List UInt8×List UInt8)) (hn0:xs.length=n) (hl:(n:Int)≤1000000) (h0:DlS rt (.slice A n c) w0 g s vo vn vf w) (hr:RdW w0 A xs) (t:List UInt8) :
  Calls Tryz.prog 17 #[.pointer (some ⟨g,0,none⟩),.string ⟨t.toArray⟩] w fun e w'=>e = .returned (.tuple #[bt ((txtW xs t).getD []),.bool (txtW xs t).isSome])∧Nx w w':=by
 have HR:=Lib.hid (hr.nx h0.nx)
 have hn:=Lib.hid hn0
 obtain ⟨-,c1,-⟩:=h0.cs
 clear hr h0 hn0
 go_enter Tryz.func17,Tryz.ntmps17
 go_wp2_with fail
 go_loopw [6] (fun v wr=>∃ i:Nat,v = .int .i64 (i:Int)∧i≤n∧(∀ j (h:j<xs.length),j<i→xs[j].1≠t)∧w=wr) (fun v _=>(2000000 - intOf v).toNat)
 case atStart=>exact ⟨0,rfl,Nat.zero_le _,fun j _ h=>absurd h (by omega),rfl⟩
 case round =>
  obtain ⟨i,rfl,hi,hno,rfl⟩:=hrel
  have HNO:=Lib.hid hno
  clear hno
  by_cases hlt:i<n
  ·have h1:i<xs.length:=by rw [hn.out];exact hlt
   obtain ⟨k,o,rfl,hk,hc⟩:=HR.out (by omega)
   obtain ⟨d1,d2⟩:=hc i h1
   obtain ⟨⟨x,y⟩,hx⟩:∃ x,xs[i]=x:=⟨_,rfl⟩
   rw [hx] at d1 d2
   unfold bt at d1 d2
   dsimp only at d1 d2
   have b1:decide ((i:Int)<(n:Int))=true:=decide_eq_true (by omega)
   have b2:(i:Int)<(n:Int):=by omega
   by_cases hxt:x=t
   ·subst hxt
    have HC:Hid (txtW xs x=some y):=by
     have:=txtW_at i h1 HNO.out (by rw [hx])
     rw [hx] at this;exact this
    clear hc hx h1
    have b3:(x == x)=true:=by simp
    go_wp2_with fail
    go_ret2
    refine ⟨?_,Nx.refl _⟩
    rw [HC.out]
    rfl
   ·have b3:(x == t)=false:=by rw [beq_eq_false_iff_ne];exact hxt
    have HN2:Hid (∀ j (h:j<xs.length),j<i+1→xs[j].1≠t):=by
     intro j h hj
     rcases Nat.lt_or_ge j i with h3 | h3
     ·exact HNO.out j h h3
     ·obtain rfl:j=i:=by omega
      rw [hx];exact hxt
    clear hc hx h1 hxt
    go_wp2_with fail
    go_roundw
    case rel=>exact ⟨i+1,by go_num,hlt,HN2.out,by first | exact rfl | exact trivial⟩
    case measure=>simp [intOf];omega
  ·have b1:decide ((i:Int)<(n:Int))=false:=decide_eq_false (by omega)
   have b2:¬ (i:Int)<(n:Int):=by omega
   have HC:Hid (txtW xs t=none):=txtW_no fun j hj=>HNO.out j hj (by have:=hn.out;omega)
   go_wp2_with fail
   go_ret2
   refine ⟨?_,Nx.refl _⟩
   rw [HC.out]
   rfl
end Go.Proofs.YtpfecpcgdfbekaaGreatDoor
namespace Go.Proofs.YtpfecpcgdfbekaaGreatDoor
open Go.RowKit
structure Gx (v:Value) (w:World) (v':Value) (w':World):Prop where
 os:w'.os=w.os
 tape:w'.tape=w.tape
 output:w'.output=w.output
 size:w.heap.size≤w'.heap.size
 block:∀ k,k<w.heap.size→v.ownBlock≠some k→w'.heap[k]? = w.heap[k]?
 own:∀ k,v'.ownBlock=some k→v.ownBlock=some k∨w.heap.size≤k
theorem Gx.nx {w w':World} (h:Nx w w') (v:Value):Gx v w v w':=⟨h.os,h.tape,h.output,h.size,fun k hk _=>h.block k hk,fun _ h=>.inl h⟩
theorem Gx.trans {v v1 v2:Value} {x y z:World} (h:Gx v x v1 y) (k:Gx v1 y v2 z):Gx v x v2 z :=
  ⟨k.os.trans h.os,k.tape.trans h.tape,k.output.trans h.output,Nat.le_trans h.size k.size,
   fun i hi hv=>(k.block i (Nat.lt_of_lt_of_le hi h.size) (fun e=>(h.own i e).elim hv (by omega))).trans (h.block i hi hv),
   fun i e=>(k.own i e).elim (h.own i) (fun h'=>.inr (Nat.le_trans h.size h'))⟩
section
variable {α β:Type} {f:α→Array Value} {k:Nat} {T:TypeId} {R:World→(Nat→Prop)→α→β→Prop}
variable (w:World) {o:Oper} {a:Act} {sz:Nat} {T2:TypeId} {z:Value}
theorem op_appP (hR:Lasts R) (hinfo:(Tryz.prog.info? T).map (fun i=>(i.zero,i.size,i.bytes))=some (some z,k,sz)) (hund:Tryz.prog.underlying T2=some (.slice T)) (hzs:z.cells.size=k) (hk:0<k) (hsz:sz≤1000)
  (hf:∀ x,(f x).size=k)
  {K:Act→World→Prop} (s x:Operand) (ho:o.op = .call { callee:=.builtin .append,args:=#[s,x],argTypes:=#[T2,T2] })
  (P:Nat→Prop) (v:Value) (l:List β) (ex:α) (ey:β) (hs:a.eval s=v) (hrep:RepL f k T R w P v l) (hone:∀ u ∈ (f ex).toList,u.oneCell'=true) (g:Nat) (hx:a.eval x = .slice (some ⟨g,0,none⟩) 1 1)
  (hy:∀ j,j<k→w.cell? ⟨g,j,none⟩=(f ex)[j]?) (hey:R w (But P v) ex ey) (h63:(l.length:Int)≤100000) (hP:∀ j,w.heap.size≤j→P j)
  (h:∀ v' w',RepL f k T R w' P v' (l++[ey])→Gx v w v' w'→K (a.put o.dst v') w'):o.wp Tryz.prog a w K (fun _ _ _=>False):=by
 obtain ⟨i,hi,hz,h1,h2⟩:=info_parts hinfo
 obtain ⟨xs,hsl,hall⟩:=hrep
 have hlen:=hall.len
 have hcells:∀ j u,((f ex).toList)[j]? = some u→w.cell? ((⟨g,0,none⟩:Addr).add j)=some u:=by
  intro j u hu
  have hj:j<k:=by
   rcases Nat.lt_or_ge j k with h | h
   ·exact h
   ·rw [List.getElem?_eq_none (by rw [Array.length_toList,hf];exact h)] at hu;cases hu
  rw [Addr.add_lit,Nat.zero_add,hy j hj]
  rw [← hu];simp
 obtain ⟨v',w',hrun,ho',hg,_,hob⟩:=run_append_own_at (P:=Tryz.prog) w 0 T2 o.type T i _ k sz hund hi hz h1 h2 hzs hk v xs.length (rowL f xs) hsl.1 ⟨g,0,none⟩ 1 1 (f ex).toList (by rw [Array.length_toList,hf,Nat.one_mul]) hcells hone (by simp [maxLen];omega)
  (by
    have:(xs.length+1) * sz≤100001 * 1000:=Nat.mul_le_mul (by omega) hsz
    omega) (Nat.zero_le _)
 have hfr:Gx v w v' w':=⟨hg.os,hg.tape,hg.output,hg.size,fun k hk hv=>hg.block k hk (fun e=>hv e.symm),fun k e=>by
  rcases hob with h | h
  ·exact .inl (h ▸ e)
  ·rw [h] at e;cases e;exact .inr (Nat.le_refl _)⟩
 have hmv:Mv (But P v) (But P v') w w':=⟨fun g hg hl=>hfr.block g hl hg.2,fun g hg hl=>⟨hg.1,fun e=>(hfr.own g e).elim hg.2 (by omega)⟩⟩
 have hrep':RepL f k T R w' P v' (l++[ey]):=by
  refine ⟨xs++[ex],⟨?_,fun g' e=>?_⟩,All2.snoc (hall.mono fun _ _ h=>hR hmv h) (hR hmv hey)⟩
  ·unfold OwnS
   rw [List.length_append,rowL_snoc]
   exact ho'
  ·rcases hob with h | h
   ·exact hsl.2 g' (h ▸ e)
   ·rw [h] at e;cases e;exact hP _ (Nat.le_refl _)
 have:=h v' w' hrep' hfr
 unfold Oper.wp execOp
 simp only [ho,resolve,invoke,builtin,Sem.run_bind,Sem.run_pure,Result.andThen_ok,List.map_toArray,List.map_cons,List.map_nil,hs,hx,hrun]
 exact this
end
theorem infoU:(Tryz.prog.info? 74).map (fun i=>(i.zero,i.size,i.bytes))=some (some (.agg #[.slice none 0 0,.slice none 0 0,.slice none 0 0]),3,72):=by kernel_rfl
end Go.Proofs.YtpfecpcgdfbekaaGreatDoor
namespace Go.Proofs.YtpfecpcgdfbekaaGreatDoor
open Go.RowKit
structure DlM (rt:List UInt8) (bf:Value) (w0:World) (g:Nat) (s:LdW) (vo cn cf vn vf:Value) (w:World):Prop where
 nx:Nx w0 w
 bl:Blk w w0.heap.size g #[bt rt,bf,cn,cf,vo,.int .i64 (s.e:Int),bt s.file,.int .i64 (s.at_:Int)] 64
 nm:RepL strA 1 9 (REq (α:=List UInt8)) w (Pd w0.heap.size g vf) vn s.names
 fl:RepL filA 3 74 RFile w (Pd w0.heap.size g vn) vf s.files
section
variable {rt:List UInt8} {bf:Value} {w0 w w' w2 w3 w4:World} {g:Nat} {s s':LdW} {vo vo' cn cf vn vf vn' vf':Value}
theorem DlM.next (h:DlM rt bf w0 g s vo cn cf vn vf w) (n:Nx w w'):DlM rt bf w0 g s vo cn cf vn vf w' :=
 ⟨Nx.trans h.nx n,h.bl.below n,h.nm.mv REq.lasts ⟨fun k _ hl=>n.block k hl,fun k hk _=>hk⟩,h.fl.mv RFile.lasts ⟨fun k _ hl=>n.block k hl,fun k hk _=>hk⟩⟩
theorem DlM.put (h:DlM rt bf w0 g s vo cn cf vn vf w) (i:Nat) (v:Value) {cn' cf':Value}
  (hc:(#[bt rt,bf,cn,cf,vo,.int .i64 (s.e:Int),bt s.file,.int .i64 (s.at_:Int)]:Array Value).setIfInBounds i v=#[bt rt,bf,cn',cf',vo,.int .i64 (s.e:Int),bt s.file,.int .i64 (s.at_:Int)]) :
  DlM rt bf w0 g s vo cn' cf' vn vf (w.setCell ⟨g,i,none⟩ v):=by
 have hk:∀ k,k≠g→(w.setCell ⟨g,i,none⟩ v).heap[k]? = w.heap[k]?:=fun k hk=>by
  simp only [World.setCell];rw [Array.getElem?_modify,if_neg (fun e=>hk e.symm)]
 exact ⟨Nx.put' h.nx h.bl.1 i v,hc ▸ h.bl.put i v,h.nm.mv REq.lasts ⟨fun k hp _=>hk k hp.2.1,fun k hp _=>hp⟩,h.fl.mv RFile.lasts ⟨fun k hp _=>hk k hp.2.1,fun k hp _=>hp⟩⟩
theorem DlM.of (h:DlS rt bf w0 g s vo vn vf w) {ln:List (List UInt8)} {lf:List Fil} (hr:RepL strA 1 9 (REq (α:=List UInt8)) w3 (Pd w0.heap.size g vf) vn' ln) (hg:Gx vn w vn' w3)
  (hr2:RepL filA 3 74 RFile w4 (Pd w0.heap.size g vn') vf' lf) (hg2:Gx vf w3 vf' w4):DlM rt bf w0 g ⟨ln,lf,s.e,s.file,s.at_⟩ vo vn vf vn' vf' w4:=by
 have hgn:vn.ownBlock≠some g:=fun e=>(h.onb g e).1.2.1 rfl
 have hgf:vf.ownBlock≠some g:=fun e=>(h.ofb g e).1.2.1 rfl
 have hb:∀ k,k<w.heap.size→vn.ownBlock≠some k→vf.ownBlock≠some k→w4.heap[k]? = w.heap[k]?:=fun k hk h1 h2 =>
  (hg2.block k (Nat.lt_of_lt_of_le hk hg.size) h2).trans (hg.block k hk h1)
 refine ⟨?_,⟨h.bl.1,by rw [hb g h.gl hgn hgf];exact h.bl.2⟩,?_,hr2⟩
 ·exact ⟨hg2.os.trans (hg.os.trans h.nx.os),hg2.tape.trans (hg.tape.trans h.nx.tape),hg2.output.trans (hg.output.trans h.nx.output),Nat.le_trans h.nx.size (Nat.le_trans hg.size hg2.size),fun k hk =>
   (hb k (Nat.lt_of_lt_of_le hk h.nx.size) (fun e=>by have:=(h.onb k e).1.1;omega) (fun e=>by have:=(h.ofb k e).1.1;omega)).trans (h.nx.block k hk)⟩
 ·exact hr.mv REq.lasts ⟨fun k hp hl=>hg2.block k hl hp.2.2,fun k hp hl=>⟨hp.1,hp.2.1,fun e=>(hg2.own k e).elim hp.2.2 (by omega)⟩⟩
theorem OpR.cut {B:Nat} {A:Option Addr} {c:Nat} {l:List (List UInt8)} {x:List UInt8} (h:OpR B g vn vf w (.slice A (l.length+1) c) (l++[x])):OpR B g vn vf w (.slice A l.length c) l:=by
 obtain ⟨A',c',h1,h2,h3,h4⟩:=h
 injection h1 with e1 e2 e3
 subst e1 e3
 refine ⟨A,c,rfl,by rw [List.length_append] at h2;omega,h3,fun h0=>?_⟩
 obtain ⟨k,a1,a2,a3,a4,a5,a6,a7⟩:=h4 (by rw [List.length_append];omega)
 refine ⟨k,a1,a2,a3,a4,a5,a6,fun i hi=>?_⟩
 have:=a7 i (by simp;omega)
 rw [List.getElem_append_left hi] at this
 exact this
end
end Go.Proofs.YtpfecpcgdfbekaaGreatDoor
namespace Go.Proofs.YtpfecpcgdfbekaaGreatDoor
namespace RI
def reachB (L:List Oper):Nat→Nat→Nat→Bool
 | 0,j,i=>j == i
 | f+1,j,i=>j == i || match L[j]? with
  | some o=>o.after.any fun e=>Region.binds .any e && reachB L f e.on i
  | none=>false
def Closed (L:List Oper) (ls:Array Bool):Prop:=∀ j o,L[j]? = some o→ls.getD j false=true→∀ e ∈ o.after.toList,Region.binds .any e=true→ls.getD e.on false=true
theorem Closed.reach {L:List Oper} {ls:Array Bool} (h:Closed L ls):∀ (f j i:Nat),reachB L f j i=true→ls.getD j false=true→ls.getD i false=true
 | 0,j,i,hr,hj=>by
  have:j=i:=by simpa [reachB] using hr
  rw [← this];exact hj
 | f+1,j,i,hr,hj=>by
  unfold reachB at hr
  rw [Bool.or_eq_true] at hr
  rcases hr with hr | hr
  ·have:j=i:=by simpa using hr
   rw [← this];exact hj
  ·cases ho:L[j]? with
   | none=>rw [ho] at hr;cases hr
   | some o =>
    rw [ho] at hr
    dsimp only at hr
    obtain ⟨e,he,hb⟩:=Array.any_eq_true'.1 hr
    rw [Bool.and_eq_true] at hb
    exact Closed.reach h f e.on i hb.2 (h j o ho hj e (by simpa using he) hb.1)
theorem Closed.not {L:List Oper} {ls:Array Bool} (h:Closed L ls) (f j i:Nat) (hr:reachB L f j i=true) (hi:ls.getD i true=false):ls.getD j false=false:=by
 rw [Bool.eq_false_iff]
 intro hj
 have h1:=h.reach f j i hr hj
 have h2:i<ls.size:=by
  rcases Nat.lt_or_ge i ls.size with h | h
  ·exact h
  ·rw [Array.getD_eq_getD_getElem?,Array.getElem?_eq_none h] at h1;cases h1
 simp [h2] at h1 hi
 rw [hi] at h1;cases h1
section
variable {P:Program} (L:List Oper) (a0:Act) (V:Nat→Value→World→Prop) (S:Array Bool→World→Prop) (R:Array Bool→World→World→Prop)
def StepM (P:Program) (i:Nat) (o:Oper):Prop :=
 ∀ (a:Act) (x:Nat→Value) (ls:Array Bool) (w:World),S ls w→ls.size=L.length→ls.getD i true=false→Closed L ls→(∀ j,j<L.length→ls.getD j false=false→x j=old a0 L j)→(∀ d i,slotB L d i=true→d<a0.tmps.size→a.eval (.tmp d)=x i)→(∀ d,(dsts L).contains d=false→a.eval (.tmp d)=a0.eval (.tmp d)) →
  (∀ e ∈ o.after.toList,Region.binds .any e=true→V e.on (x e.on) w) →
  ∀ K:Act→World→Prop,(∀ w' v,V i v w'→S (ls.setIfInBounds i true) w'→R ls w w'→K (a.put o.dst v) w')→o.wp P a w K (fun _ _ _=>False)
def StepsM (P:Program):List Oper→Nat→Prop
 | [],_=>True
 | o :: os,i=>StepM L a0 V S R P i o∧StepsM P os (i+1)
variable {L a0 V S R}
theorem StepsM.at_:∀ {os:List Oper} {k:Nat},StepsM L a0 V S R P os k→∀ i o,os[i]? = some o→StepM L a0 V S R P (k+i) o
 | [],_,_,i,o,h=>by simp at h
 | o' :: os,k,hs,i,o,h=>by
  cases i with
  | zero=>simp at h;subst h;exact hs.1
  | succ i=>rw [show k+(i+1)=k+1+i by omega];exact StepsM.at_ hs.2 i o (by simpa using h)
theorem inv_anyM {Q:Exit→Act→World→Prop} (hok:okB L=true) (hg:L.all (fun o=>o.guard == none)=true) (hV:∀ ls j v w w',ls.getD j false=true→V j v w→R ls w w'→V j v w') (hs:StepsM L a0 V S R P L 0)
  (hend:∀ (x:Nat→Value) ls w,S ls w→(∀ j,j<L.length→ls.getD j false=true)→(∀ j,j<L.length→V j (x j) w)→Q .normal (PA L 0 x a0) w) :
  ∀ (f:Nat) (listed:Array Bool) (x:Nat→Value) (w:World),listed.size=L.length→unl L.length listed≤f→S listed w→Closed L listed→(∀ j,j<L.length→listed.getD j false=false→x j=old a0 L j)→(∀ j,listed.getD j false=true→V j (x j) w) →
   wpAny P .any L.toArray Q f listed (PA L 0 x a0) w:=by
 simp only [okB,Bool.and_eq_true,decide_eq_true_eq] at hok
 obtain ⟨hb,hn⟩:=hok
 have fin:∀ (listed:Array Bool) (x:Nat→Value) (w:World),listed.size=L.length→S listed w→(∀ j,listed.getD j false=true→V j (x j) w)→(∀ i,i<L.length→listed.getD i true=true)→Q .normal (PA L 0 x a0) w:=by
  intro listed x w hz hS hx hall
  have hall':∀ j,j<L.length→listed.getD j false=true:=fun j hj=>by
   have h4:j<listed.size:=by omega
   simpa [h4] using hall j hj
  exact hend x listed w hS hall' fun j hj=>hx j (hall' j hj)
 intro f
 induction f with
 | zero =>
  intro listed x w hz hf hS hcl hun hx
  have hall:∀ i,i<L.length→listed.getD i true=true:=by
   intro i hi
   cases h:listed.getD i true with
   | true=>rfl
   | false =>
    exfalso
    have:i ∈ (List.range L.length).filter fun i=>!listed.getD i true:=List.mem_filter.2 ⟨List.mem_range.2 hi,by rw [h];rfl⟩
    have:=List.length_pos_of_mem this
    unfold unl at hf
    omega
  refine ⟨?_,fin listed x w hz hS hx hall⟩
  rw [List.eq_nil_iff_forall_not_mem]
  intro i hi
  obtain ⟨h1,o,ho,-⟩:=mem_ready.1 hi
  have hi2:i<L.length:=by
   have:=(Array.getElem?_eq_some_iff.1 ho).1
   simpa using this
  rw [hall i hi2] at h1
  cases h1
 | succ f ih =>
  intro listed x w hz hf hS hcl hun hx
  refine ⟨fun hr=>fin listed x w hz hS hx (all_listed hb hz hr),fun i hi=>?_⟩
  obtain ⟨h1,o,ho,hdep⟩:=mem_ready.1 hi
  have hi2:i<L.length:=by
   have:=(Array.getElem?_eq_some_iff.1 ho).1
   simpa using this
  have hol:L[i]? = some o:=by simpa using ho
  have hgd:o.guard=none:=by
   have:=List.all_eq_true.1 hg o (List.mem_of_getElem? hol)
   simpa using this
  have hst:=hs.at_ i o hol
  rw [Nat.zero_add] at hst
  have h4:i<listed.size:=by omega
  have h:=hst (PA L 0 x a0) x listed w hS hz h1 hcl hun (fun d i g1 g2=>PA_slot g1 g2) (fun d g1=>PA_old_slot g1) (fun e he hbd=>hx e.on (hdep e (by simpa using he) hbd)) (wpAny P .any L.toArray Q f (listed.setIfInBounds i true)) (by
   intro w' v hv hS' hR
   rw [PA_upd L 0 x a0 i o v hn hol,Nat.zero_add]
   refine ih (listed.setIfInBounds i true) (upd x i v) w' (by simpa using hz) ?_ hS' ?_ ?_ ?_
   ·have:unl L.length (listed.setIfInBounds i true)<unl L.length listed:=by
     refine filter_lt _ _ _ ?_ i (List.mem_range.2 hi2) ?_ ?_
     ·intro y hy hp
      by_cases hyi:i=y
      ·subst hyi
       simp [h4] at hp
      ·rw [getD_set_ne true hyi] at hp;exact hp
     ·simp [h4]
     ·rw [h1];rfl
    omega
   ·intro j o' ho' hj e he hbd
    by_cases hji:j=i
    ·subst hji
     rw [hol] at ho'
     obtain rfl:=Option.some.inj ho'
     have:=hdep e (by simpa using he) hbd
     by_cases hei:j=e.on
     ·rw [← hei];simp [h4]
     ·rw [getD_set_ne false hei];exact this
    ·rw [getD_set_ne false (Ne.symm hji)] at hj
     have:=hcl j o' ho' hj e he hbd
     by_cases hei:i=e.on
     ·rw [← hei];simp [h4]
     ·rw [getD_set_ne false hei];exact this
   ·intro j hj hl
    by_cases hji:j=i
    ·subst hji;simp [h4] at hl
    ·rw [upd_ne _ _ _ _ hji]
     rw [getD_set_ne false (Ne.symm hji)] at hl
     exact hun j hj hl
   ·intro j hj
    by_cases hji:j=i
    ·subst hji;rw [upd_same];exact hv
    ·rw [upd_ne _ _ _ _ hji]
     rw [getD_set_ne false (Ne.symm hji)] at hj
     exact hV _ _ _ _ _ hj (hx j hj) hR)
  unfold wpOp
  rw [ho]
  dsimp only
  rw [if_pos (by unfold Region.wanted;rw [hgd])]
  exact .inl (wp_mono_both (fun _ _ h=>h) h trivial)
theorem wp_region_M {id:Nat} {Q:Exit→Act→World→Prop} {w:World} {ops:Array Oper} (V:Nat→Value→World→Prop) (S:Array Bool→World→Prop) (R:Array Bool→World→World→Prop) (hm:P.follows .mixedOrders=true) (hok:okB ops.toList=true) (hg:ops.toList.all (fun o=>o.guard == none)=true)
  (hV:∀ ls j v w w',ls.getD j false=true→V j v w→R ls w w'→V j v w') (hS:S (Array.replicate ops.size false) { w with drawn:=w.drawn+1 }) (hs:StepsM ops.toList a0 V S R P ops.toList 0)
  (hend:∀ (A:Act) (x:Nat→Value) ls w,S ls w→(∀ j,j<ops.toList.length→ls.getD j false=true)→(∀ d i,slotB ops.toList d i=true→d<a0.tmps.size→A.eval (.tmp d)=x i)→(∀ d,(dsts ops.toList).contains d=false→A.eval (.tmp d)=a0.eval (.tmp d))→(∀ j,j<ops.toList.length→V j (x j) w) →
   RowKit.Hid (A=⟨(setAll ops.toList 0 x a0.tmps.toList).toArray,a0.defers⟩)→Q .normal A w):(Code.region id ops true).wp P Q a0 w:=by
 refine wp_region_any hm ?_
 have hold:PA ops.toList 0 (old a0 ops.toList) a0=a0:=PA_old ops.toList 0 _ a0 (fun i o d h1 h2=>by unfold old;rw [Nat.zero_add,h1];simp [h2])
 have hrep:∀ j,(Array.replicate ops.size false).getD j false=false:=by
  intro j
  rw [Array.getD_eq_getD_getElem?]
  cases h:(Array.replicate ops.size false)[j]? with
  | none=>rfl
  | some b =>
   obtain ⟨h1,h2⟩:=Array.getElem?_eq_some_iff.1 h
   simp at h2
   simp [← h2]
 have:=inv_anyM (P:=P) (Q:=Q) hok hg hV hs (fun x ls w h1 h2 h3=>hend (PA ops.toList 0 x a0) x ls w h1 h2 (fun d i g1 g2=>PA_slot g1 g2) (fun d g1=>PA_old_slot g1) h3 (PA_list ops.toList 0 x a0)) ops.size (Array.replicate ops.size false) (old a0 ops.toList) { w with drawn:=w.drawn+1 } (by simp) ?_ hS ?_ ?_ ?_
 ·rw [hold] at this
  simpa using this
 ·unfold unl
  have:=List.length_filter_le (fun i=>!(Array.replicate ops.size false).getD i true) (List.range ops.toList.length)
  simp only [List.length_range] at this
  simpa using this
 ·intro j o ho hj
  rw [hrep] at hj;cases hj
 ·intro j _ _;rfl
 ·intro j hj
  rw [hrep] at hj;cases hj
end
end RI
end Go.Proofs.YtpfecpcgdfbekaaGreatDoor
