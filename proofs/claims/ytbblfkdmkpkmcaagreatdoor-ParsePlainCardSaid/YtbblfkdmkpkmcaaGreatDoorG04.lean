/- A region that draws its order: an invariant that knows what has been carried out. Plain lemmas over any program. The signs of types: a map that the call makes, in any order. A cursor over the text of a type: its cells, its names, what a call leaves of the world. Plain lemmas. A cursor over the words of a file; append of one element onto a list. Plain lemmas. -/
import Derived.Test.YtbblfkdmkpkmcaaGreatDoorG03
import Derived.DeepKeys4
import Derived.Maps.Keyed
import Derived.Maps.Own
import Derived.Test.YtbblfkdmkpkmcaaGreatDoorG02
set_option linter.unusedVariables false
set_option linter.unusedSimpArgs false
set_option linter.unnecessarySimpa false
namespace Go.Proofs.YtbblfkdmkpkmcaaGreatDoor
namespace RI
section
variable {P:Program} (L:List Oper) (a0:Act) (V:Nat→Value→World→Prop) (S:Array Bool→World→Prop) (R:World→World→Prop)
def StepN (P:Program) (i:Nat) (o:Oper):Prop :=
 ∀ (a:Act) (x:Nat→Value) (ls:Array Bool) (w:World),S ls w→ls.size=L.length→ls.getD i true=false→(∀ d i,slotB L d i=true→d<a0.tmps.size→a.eval (.tmp d)=x i)→(∀ d,(dsts L).contains d=false→a.eval (.tmp d)=a0.eval (.tmp d)) →
  (∀ e ∈ o.after.toList,Region.binds .any e=true→V e.on (x e.on) w) →
  ∀ K:Act→World→Prop,(∀ w' v,V i v w'→S (ls.setIfInBounds i true) w'→R w w'→K (a.put o.dst v) w')→o.wp P a w K (fun _ _ _=>False)
def StepsN (P:Program):List Oper→Nat→Prop
 | [],_=>True
 | o :: os,i=>StepN L a0 V S R P i o∧StepsN P os (i+1)
variable {L a0 V S R}
theorem StepsN.at_:∀ {os:List Oper} {k:Nat},StepsN L a0 V S R P os k→∀ i o,os[i]? = some o→StepN L a0 V S R P (k+i) o
 | [],_,_,i,o,h=>by simp at h
 | o' :: os,k,hs,i,o,h=>by
  cases i with
  | zero=>simp at h;subst h;exact hs.1
  | succ i=>rw [show k+(i+1)=k+1+i by omega];exact StepsN.at_ hs.2 i o (by simpa using h)
theorem inv_anyN {Q:Exit→Act→World→Prop} (hok:okB L=true) (hg:L.all (fun o=>o.guard == none)=true) (hV:∀ j v w w',V j v w→R w w'→V j v w') (hs:StepsN L a0 V S R P L 0)
  (hend:∀ (x:Nat→Value) ls w,S ls w→(∀ j,j<L.length→ls.getD j false=true)→(∀ j,j<L.length→V j (x j) w)→Q .normal (PA L 0 x a0) w) :
  ∀ (f:Nat) (listed:Array Bool) (x:Nat→Value) (w:World),listed.size=L.length→unl L.length listed≤f→S listed w→(∀ j,listed.getD j false=true→V j (x j) w) →
   wpAny P .any L.toArray Q f listed (PA L 0 x a0) w:=by
 simp only [okB,Bool.and_eq_true,decide_eq_true_eq] at hok
 obtain ⟨hb,hn⟩:=hok
 have fin:∀ (listed:Array Bool) (x:Nat→Value) (w:World),listed.size=L.length→S listed w→(∀ j,listed.getD j false=true→V j (x j) w)→(∀ i,i<L.length→listed.getD i true=true)→Q .normal (PA L 0 x a0) w:=by
  intro listed x w hz hS hx hall
  have hall':∀ j,j<L.length→listed.getD j false=true:=fun j hj=>by
   have h4:j<listed.size:=by omega
   simpa [h4] using hall j hj
  exact hend x listed w hS hall' fun j hj=>hx j (hall' j hj)
 intro f
 induction f with
 | zero =>
  intro listed x w hz hf hS hx
  have hall:∀ i,i<L.length→listed.getD i true=true:=by
   intro i hi
   cases h:listed.getD i true with
   | true=>rfl
   | false =>
    exfalso
    have:i ∈ (List.range L.length).filter fun i=>!listed.getD i true:=List.mem_filter.2 ⟨List.mem_range.2 hi,by rw [h];rfl⟩
    have:=List.length_pos_of_mem this
    unfold unl at hf
    omega
  refine ⟨?_,fin listed x w hz hS hx hall⟩
  rw [List.eq_nil_iff_forall_not_mem]
  intro i hi
  obtain ⟨h1,o,ho,-⟩:=mem_ready.1 hi
  have hi2:i<L.length:=by
   have:=(Array.getElem?_eq_some_iff.1 ho).1
   simpa using this
  rw [hall i hi2] at h1
  cases h1
 | succ f ih =>
  intro listed x w hz hf hS hx
  refine ⟨fun hr=>fin listed x w hz hS hx (all_listed hb hz hr),fun i hi=>?_⟩
  obtain ⟨h1,o,ho,hdep⟩:=mem_ready.1 hi
  have hi2:i<L.length:=by
   have:=(Array.getElem?_eq_some_iff.1 ho).1
   simpa using this
  have hol:L[i]? = some o:=by simpa using ho
  have hgd:o.guard=none:=by
   have:=List.all_eq_true.1 hg o (List.mem_of_getElem? hol)
   simpa using this
  have hst:=hs.at_ i o hol
  rw [Nat.zero_add] at hst
  have h:=hst (PA L 0 x a0) x listed w hS hz h1 (fun d i g1 g2=>PA_slot g1 g2) (fun d g1=>PA_old_slot g1) (fun e he hbd=>hx e.on (hdep e (by simpa using he) hbd)) (wpAny P .any L.toArray Q f (listed.setIfInBounds i true)) (by
   intro w' v hv hS' hR
   rw [PA_upd L 0 x a0 i o v hn hol,Nat.zero_add]
   refine ih (listed.setIfInBounds i true) (upd x i v) w' (by simpa using hz) ?_ hS' ?_
   ·have:unl L.length (listed.setIfInBounds i true)<unl L.length listed:=by
     refine filter_lt _ _ _ ?_ i (List.mem_range.2 hi2) ?_ ?_
     ·intro y hy hp
      by_cases hyi:i=y
      ·subst hyi
       have h4:i<listed.size:=by omega
       simp [h4] at hp
      ·rw [getD_set_ne true hyi] at hp;exact hp
     ·have h4:i<listed.size:=by omega
      simp [h4]
     ·rw [h1];rfl
    omega
   ·intro j hj
    by_cases hji:j=i
    ·subst hji;rw [upd_same];exact hv
    ·rw [upd_ne _ _ _ _ hji]
     rw [getD_set_ne false (Ne.symm hji)] at hj
     exact hV _ _ _ _ (hx j hj) hR)
  unfold wpOp
  rw [ho]
  dsimp only
  rw [if_pos (by unfold Region.wanted;rw [hgd])]
  exact .inl (wp_mono_both (fun _ _ h=>h) h trivial)
theorem wp_region_N {id:Nat} {Q:Exit→Act→World→Prop} {w:World} {ops:Array Oper} (V:Nat→Value→World→Prop) (S:Array Bool→World→Prop) (R:World→World→Prop) (hm:P.follows .mixedOrders=true) (hok:okB ops.toList=true) (hg:ops.toList.all (fun o=>o.guard == none)=true)
  (hV:∀ j v w w',V j v w→R w w'→V j v w') (hS:S (Array.replicate ops.size false) { w with drawn:=w.drawn+1 }) (hs:StepsN ops.toList a0 V S R P ops.toList 0)
  (hend:∀ (A:Act) (x:Nat→Value) ls w,S ls w→(∀ j,j<ops.toList.length→ls.getD j false=true)→(∀ d i,slotB ops.toList d i=true→d<a0.tmps.size→A.eval (.tmp d)=x i)→(∀ d,(dsts ops.toList).contains d=false→A.eval (.tmp d)=a0.eval (.tmp d))→(∀ j,j<ops.toList.length→V j (x j) w) →
   RowKit.Hid (A=⟨(setAll ops.toList 0 x a0.tmps.toList).toArray,a0.defers⟩)→Q .normal A w):(Code.region id ops true).wp P Q a0 w:=by
 refine wp_region_any hm ?_
 have hold:PA ops.toList 0 (old a0 ops.toList) a0=a0:=PA_old ops.toList 0 _ a0 (fun i o d h1 h2=>by unfold old;rw [Nat.zero_add,h1];simp [h2])
 have hrep:∀ j d,j<ops.toList.length→(Array.replicate ops.size false).getD j d=false:=by
  intro j d hj
  simp at hj
  simp [Array.getElem?_replicate,hj]
 have:=inv_anyN (P:=P) (Q:=Q) hok hg hV hs (fun x ls w h1 h2 h3=>hend (PA ops.toList 0 x a0) x ls w h1 h2 (fun d i g1 g2=>PA_slot g1 g2) (fun d g1=>PA_old_slot g1) h3 (PA_list ops.toList 0 x a0)) ops.size (Array.replicate ops.size false) (old a0 ops.toList) { w with drawn:=w.drawn+1 } (by simp) ?_ hS ?_
 ·rw [hold] at this
  simpa using this
 ·unfold unl
  have:=List.length_filter_le (fun i=>!(Array.replicate ops.size false).getD i true) (List.range ops.toList.length)
  simp only [List.length_range] at this
  simpa using this
 ·intro j hj
  exfalso
  revert hj
  rw [Array.getD_eq_getD_getElem?]
  cases h:(Array.replicate ops.size false)[j]? with
  | none=>simp
  | some b =>
   have:=Array.getElem?_eq_some_iff.1 h
   obtain ⟨h1,h2⟩:=this
   simp at h2
   simp [← h2]
end
end RI
end Go.Proofs.YtbblfkdmkpkmcaaGreatDoor
namespace Go.Proofs.YtbblfkdmkpkmcaaGreatDoor
open Go.RowKit
def plc (k n:Nat):Value:=.agg #[.int .i64 (k:Int),.int .i64 (n:Int)]
theorem plc_inj {k n k' n':Nat} (h:plc k n=plc k' n'):k=k'∧n=n':=by
 unfold plc at h
 simp at h
 omega
theorem laidOutK:laidOutB Tryz.prog=true:=by kernel_rfl
theorem plcIn:(180 : TypeId) < Tryz.prog.types.size:=of_decide_eq_true (by kernel_rfl)
theorem plcLaw:Maps.Keyed Tryz.prog 180:=Maps.Keyed.of_law (deep_law_laid laidOutK (m:=2) (by omega) plcIn (by kernel_rfl) (by rw [Tryz.underlying180]))
theorem plc_keys:∀ k ∈ List.range 17,∀ n ∈ List.range 4,(keyOf Tryz.prog 180 (plc k n)).isSome=true:=by decide +kernel
theorem plc_key {k n:Nat} (hk:k<17) (hn:n<4):∃ l,keyOf Tryz.prog 180 (plc k n)=some l :=
 Option.isSome_iff_exists.1 (plc_keys k (List.mem_range.2 hk) n (List.mem_range.2 hn))
def signV (k n:Nat):Option Nat :=
 if (k=13∨k=14∨k=15)∧n=0 then some 60
 else if k=13∧n=1 then some 44
 else if (k=14∨k=15)∧n=1∨k=13∧n=2 then some 62 else none
theorem signV_lt {k n v:Nat} (h:signV k n=some v):k<17∧n<4:=by
 unfold signV at h
 split at h
 ·omega
 ·split at h
  ·omega
  ·split at h
   ·omega
   ·cases h
def GoodE (es:Array MapEntry):Prop:=∀ e ∈ es.toList,∃ k n v,signV k n=some v∧e.key=plc k n∧e.val = .int .u8 (v:Int)
def Sg (w:World) (g:Nat):Prop:=∃ es c,w.heap[g]? = some (.map es c)∧GoodE es∧∀ k n v,signV k n=some v→∃ e ∈ es.toList,e.key=plc k n
theorem GoodE.keys {es:Array MapEntry} (h:GoodE es):∀ e ∈ es.toList,∃ l,keyOf Tryz.prog 180 e.key=some l:=by
 intro e he
 obtain ⟨k,n,v,h1,h2,-⟩:=h e he
 rw [h2]
 exact plc_key (signV_lt h1).1 (signV_lt h1).2
theorem zero_u8 (w:World):(zeroValue 5).run Tryz.prog w = .ok (.int .u8 0) w:=by kernel_rfl
theorem look_sign {w:World} {g:Nat} (h:Sg w g) (k n:Nat) (hk:k<17) (hn:n<4) :
  (Instr.lookup 129 (.map (some g)) (plc k n) true).run Tryz.prog w = .ok (.tuple #[.int .u8 (((signV k n).getD 0:Nat):Int),.bool (signV k n).isSome]) w:=by
 obtain ⟨es,c,hg,hE,hall⟩:=h
 obtain ⟨kl,hkey⟩:=plc_key hk hn
 rcases plcLaw.find w hkey es.toList hE.keys with ⟨h1,h2⟩ | ⟨j,e,h1,h2,h3⟩
 ·have hs:signV k n=none:=by
   cases hv:signV k n with
   | none=>rfl
   | some v =>
    obtain ⟨e,he,hek⟩:=hall k n v hv
    exact absurd hek (h2 e he)
  simp [Instr.lookup,run_underlying Tryz.underlying129,MapKept.run_getObj_map hg,plcLaw.check w es.isEmpty hkey,h1,zero_u8,hs,Result.andThen]
 ·obtain ⟨k',n',v,hv,hk',hval⟩:=hE e (List.mem_of_getElem? h2)
  obtain ⟨rfl,rfl⟩:=plc_inj (h3.symm.trans hk')
  simp [Instr.lookup,run_underlying Tryz.underlying129,MapKept.run_getObj_map hg,plcLaw.check w es.isEmpty hkey,h1,hval,hv,Result.andThen]
theorem put_sign {w:World} {g:Nat} {es:Array MapEntry} {c:Nat} (hg:w.heap[g]? = some (.map es c)) (hE:GoodE es) (k n v:Nat) (hv:signV k n=some v) :
  ∃ es' c',(Instr.mapUpdate 129 (.map (some g)) (plc k n) (.int .u8 (v:Int))).run Tryz.prog w = .ok () (ChangeMaps.setBlock w g (.map es' c'))∧GoodE es' ∧
   (∃ e ∈ es'.toList,e.key=plc k n)∧∀ x ∈ es.toList,∃ y ∈ es'.toList,y.key=x.key:=by
 obtain ⟨kl,hkey⟩:=plc_key (signV_lt hv).1 (signV_lt hv).2
 rcases plcLaw.find w hkey es.toList hE.keys with ⟨h1,h2⟩ | ⟨j,e,h1,h2,h3⟩
 ·refine ⟨es.push ⟨plc k n,.int .u8 (v:Int),c⟩,c+1,?_,?_,⟨⟨plc k n,.int .u8 (v:Int),c⟩,by simp,rfl⟩,fun x hx=>⟨x,by simp at hx ⊢;exact .inl hx,rfl⟩⟩
  ·simp [Instr.mapUpdate,run_underlying Tryz.underlying129,MapKept.run_getObj_map hg,plcLaw.check w false hkey,h1,MapKept.run_setObj_map _ hg,Result.andThen,ChangeMaps.setBlock]
  ·intro e he
   simp only [Array.toList_push,List.mem_append,List.mem_singleton] at he
   rcases he with he | rfl
   ·exact hE e he
   ·exact ⟨k,n,v,hv,rfl,rfl⟩
 ·have hj:es[j]? = some e:=by simpa using h2
  have hlist:(es.modify j (fun e'=>{ e' with key:=plc k n,val:=.int .u8 (v:Int) })).toList=es.toList.set j { e with key:=plc k n,val:=.int .u8 (v:Int) }:=by rw [Array.toList_modify,ChangeMaps.modify_eq_set _ _ _ _ h2]
  refine ⟨es.modify j (fun e'=>{ e' with key:=plc k n,val:=.int .u8 (v:Int) }),c,?_,?_,?_,?_⟩
  ·simp [Instr.mapUpdate,run_underlying Tryz.underlying129,MapKept.run_getObj_map hg,plcLaw.check w false hkey,h1,hj,h3,plcLaw.stays w hkey,MapKept.run_setObj_map _ hg,Result.andThen,ChangeMaps.setBlock]
  ·intro x hx
   rw [hlist] at hx
   rcases List.mem_or_eq_of_mem_set hx with hx | rfl
   ·exact hE x hx
   ·exact ⟨k,n,v,hv,rfl,rfl⟩
  ·have hjl:j<es.toList.length:=(List.getElem?_eq_some_iff.1 h2).1
   exact ⟨_,by rw [hlist];exact List.mem_set hjl _,rfl⟩
  ·intro x hx
   obtain ⟨i,hi⟩:=List.getElem?_of_mem hx
   by_cases hij:j=i
   ·subst hij
    rw [h2] at hi
    cases hi
    have hjl:j<es.toList.length:=(List.getElem?_eq_some_iff.1 h2).1
    exact ⟨_,by rw [hlist];exact List.mem_set hjl _,h3.symm⟩
   ·refine ⟨x,?_,rfl⟩
    rw [hlist]
    exact List.mem_of_getElem? (by rw [List.getElem?_set_ne hij];exact hi)
def SgS (W:World) (ls:Array Bool) (w:World):Prop :=
 Nx W w∧((ls.getD 0 false=false∧w.heap.size=W.heap.size)∨(ls.getD 0 false=true∧∃ es c,w.heap[W.heap.size]? = some (.map es c)∧GoodE es))
def SgR (W w w':World):Prop:=∀ es c,w.heap[W.heap.size]? = some (.map es c)→∃ es' c',w'.heap[W.heap.size]? = some (.map es' c')∧∀ x ∈ es.toList,∃ y ∈ es'.toList,y.key=x.key
theorem SgR.refl (W w:World):SgR W w w:=fun es c h=>⟨es,c,h,fun x hx=>⟨x,hx,rfl⟩⟩
def SgV (W:World) (k n:Nat) (w:World):Prop:=∃ es c,w.heap[W.heap.size]? = some (.map es c)∧∃ e ∈ es.toList,e.key=plc k n
theorem SgV.keep {W w w':World} {k n:Nat} (h:SgV W k n w) (hr:SgR W w w'):SgV W k n w':=by
 obtain ⟨es,c,hg,e,he,hk⟩:=h
 obtain ⟨es',c',hg',hall⟩:=hr es c hg
 obtain ⟨y,hy,hyk⟩:=hall e he
 exact ⟨es',c',hg',y,hy,hyk.trans hk⟩
def SgM (W w:World):Prop:=∃ es c,w.heap[W.heap.size]? = some (.map es c)
theorem SgM.keep {W w w':World} (h:SgM W w) (hr:SgR W w w'):SgM W w':=by
 obtain ⟨es,c,h⟩:=h
 obtain ⟨es',c',h',-⟩:=hr es c h
 exact ⟨es',c',h'⟩
theorem put_step {W w:World} {ls:Array Bool} {i:Nat} (hS:SgS W ls w) (h0:SgM W w) (hi:i≠0) (k n v:Nat) (hv:signV k n=some v) (vi:Int) (hvi:(v:Int)=vi) :
  ∃ w',(Instr.mapUpdate 129 (.map (some W.heap.size)) (plc k n) (.int .u8 vi)).run Tryz.prog w = .ok () w'∧SgV W k n w'∧SgS W (ls.setIfInBounds i true) w'∧SgR W w w':=by
 subst hvi
 obtain ⟨hN,h | ⟨h1,es,c,hg,hE⟩⟩:=hS
 ·obtain ⟨es,c,h2⟩:=h0
  rw [← h.2,Array.getElem?_eq_none (Nat.le_refl _)] at h2;cases h2
 ·obtain ⟨es',c',hrun,hE',hhas,hold⟩:=put_sign hg hE k n v hv
  have hlt:W.heap.size<w.heap.size:=(Array.getElem?_eq_some_iff.1 hg).1
  have hnew:(ChangeMaps.setBlock w W.heap.size (.map es' c')).heap[W.heap.size]? = some (.map es' c'):=by
   simp [ChangeMaps.setBlock,hlt]
  refine ⟨_,hrun,⟨es',c',hnew,hhas⟩,⟨⟨hN.os,hN.tape,hN.output,by simp [ChangeMaps.setBlock];exact hN.size,fun b hb=>?_⟩,.inr ⟨?_,es',c',hnew,hE'⟩⟩,fun es2 c2 h2=>?_⟩
  ·simp only [ChangeMaps.setBlock]
   rw [Array.getElem?_setIfInBounds_ne (by omega)]
   exact hN.block b hb
  ·rw [getD_set_ne false hi];exact h1
  ·rw [hg] at h2
   cases h2
   exact ⟨es',c',hnew,hold⟩
theorem SgS.set {W w:World} {ls:Array Bool} (h:SgS W ls w) (i:Nat) (hi:i≠0):SgS W (ls.setIfInBounds i true) w:=by
 obtain ⟨h1,h2⟩:=h
 refine ⟨h1,?_⟩
 rw [getD_set_ne false hi]
 exact h2
theorem SgS.first {W w:World} {ls:Array Bool} (h:SgS W ls w) (hz:0<ls.size) (hl:ls.getD 0 true=false):w.heap.size=W.heap.size∧Nx W w:=by
 have:ls.getD 0 false=false:=by
  simp [hz] at hl ⊢;exact hl
 rcases h.2 with h2 | ⟨h2,-⟩
 ·exact ⟨h2.2,h.1⟩
 ·rw [this] at h2;cases h2
theorem SgS.made {W w:World} {ls:Array Bool} (hz:0<ls.size) (hw:w.heap.size=W.heap.size) (hn:Nx W w):SgS W (ls.setIfInBounds 0 true) (w.alloc (.map #[] 0)):=by
 refine ⟨hn.al _,.inr ⟨by simp [hz],#[],0,?_,fun e he=>by simp at he⟩⟩
 rw [← hw];exact heap_alloc_new w _
theorem SgR.made {W w:World} (hw:w.heap.size=W.heap.size):SgR W w (w.alloc (.map #[] 0)):=fun es c h=>by
 rw [← hw] at h
 simp at h
set_option maxRecDepth 100000 in
set_option maxHeartbeats 1600000 in
theorem signs_any (w:World) :
  Calls Tryz.prog 119 #[] w fun e w'=>e = .returned (.map (some w.heap.size))∧Sg w' w.heap.size∧Nx w w':=by
 go_enter Tryz.func119,Tryz.ntmps119
 go_wp2_with fail
 have hmm:=@run_makeMap Tryz.prog
 refine RI.wp_region_N (RI.Vof [fun v x=>v = .map (some w.heap.size)∧SgM w x,fun v _=>v=plc 15 0,fun _ x=>SgV w 15 0 x,fun v _=>v=plc 15 1,fun _ x=>SgV w 15 1 x,fun v _=>v=plc 14 0,fun _ x=>SgV w 14 0 x,
  fun v _=>v=plc 14 1,fun _ x=>SgV w 14 1 x,fun v _=>v=plc 13 0,fun _ x=>SgV w 13 0 x,fun v _=>v=plc 13 1,fun _ x=>SgV w 13 1 x,fun v _=>v=plc 13 2,fun _ x=>SgV w 13 2 x,
  fun v _=>v = .map (some w.heap.size),fun v _=>v = .map (some w.heap.size)]) (SgS w) (SgR w) (by kernel_rfl) (by kernel_rfl) (by kernel_rfl) ?_ ?_ ?_ ?_
 ·refine RI.Vof.keeps ?_
  intro p hp v w1 w2 h1 h2
  simp only [List.mem_cons,List.not_mem_nil,or_false] at hp
  rcases hp with rfl | rfl | rfl | rfl | rfl | rfl | rfl | rfl | rfl | rfl | rfl | rfl | rfl | rfl | rfl | rfl | rfl <;> first | exact h1 | exact SgV.keep h1 h2 | exact ⟨h1.1,h1.2.keep h2⟩
 ·exact ⟨Nx.drawn w,.inl ⟨rfl,rfl⟩⟩
 ·refine ⟨?_,?_,?_,?_,?_,?_,?_,?_,?_,?_,?_,?_,?_,?_,?_,?_,?_,trivial⟩
  ·intro a x ls w1 hS hsz hl hin hout hd K hK
   obtain ⟨hw,hn⟩:=hS.first (by rw [hsz];decide) hl
   have h1:=hK (w1.alloc (.map #[] 0)) (.map (some w.heap.size)) ⟨rfl,_,_,by rw [← hw];exact heap_alloc_new w1 _⟩ (SgS.made (by rw [hsz];decide) hw hn) (SgR.made hw)
   clear hK hS hl hd hin hout hsz
   go_simp
   exact h1
  ·intro a x ls w1 hS hsz hl hin hout hd K hK
   have h1:=hK w1 (plc 15 0) rfl (hS.set _ (by decide)) (SgR.refl _ _)
   clear hK hS hl hd hin hout hsz
   go_simp
   exact h1
  ·intro a x ls w1 hS hsz hl hin hout hd K hK
   have hv0:=hd ⟨0,.data⟩ (by simp) rfl
   have e1:a.tmps.getD 1 undef = .map (some w.heap.size):=(hin 1 0 (by decide) (by show 1<10;decide)).trans hv0.1
   have e2:a.tmps.getD 2 undef=plc 15 0:=(hin 2 1 (by decide) (by show 2<10;decide)).trans (hd ⟨1,.data⟩ (by simp) rfl)
   obtain ⟨w2,hrun,hv,hS',hR⟩:=put_step (i:=2) hS hv0.2 (by decide) 15 0 60 rfl 60 rfl
   have h1:=hK w2 undef hv hS' hR
   clear hK hS hl hd hin hout hsz hv hS' hR hv0
   go_simp
   exact h1
  ·intro a x ls w1 hS hsz hl hin hout hd K hK
   have h1:=hK w1 (plc 15 1) rfl (hS.set _ (by decide)) (SgR.refl _ _)
   clear hK hS hl hd hin hout hsz
   go_simp
   exact h1
  ·intro a x ls w1 hS hsz hl hin hout hd K hK
   have hv0:=hd ⟨0,.data⟩ (by simp) rfl
   have e1:a.tmps.getD 1 undef = .map (some w.heap.size):=(hin 1 0 (by decide) (by show 1<10;decide)).trans hv0.1
   have e2:a.tmps.getD 3 undef=plc 15 1:=(hin 3 3 (by decide) (by show 3<10;decide)).trans (hd ⟨3,.data⟩ (by simp) rfl)
   obtain ⟨w2,hrun,hv,hS',hR⟩:=put_step (i:=4) hS hv0.2 (by decide) 15 1 62 rfl 62 rfl
   have h1:=hK w2 undef hv hS' hR
   clear hK hS hl hd hin hout hsz hv hS' hR hv0
   go_simp
   exact h1
  ·intro a x ls w1 hS hsz hl hin hout hd K hK
   have h1:=hK w1 (plc 14 0) rfl (hS.set _ (by decide)) (SgR.refl _ _)
   clear hK hS hl hd hin hout hsz
   go_simp
   exact h1
  ·intro a x ls w1 hS hsz hl hin hout hd K hK
   have hv0:=hd ⟨0,.data⟩ (by simp) rfl
   have e1:a.tmps.getD 1 undef = .map (some w.heap.size):=(hin 1 0 (by decide) (by show 1<10;decide)).trans hv0.1
   have e2:a.tmps.getD 4 undef=plc 14 0:=(hin 4 5 (by decide) (by show 4<10;decide)).trans (hd ⟨5,.data⟩ (by simp) rfl)
   obtain ⟨w2,hrun,hv,hS',hR⟩:=put_step (i:=6) hS hv0.2 (by decide) 14 0 60 rfl 60 rfl
   have h1:=hK w2 undef hv hS' hR
   clear hK hS hl hd hin hout hsz hv hS' hR hv0
   go_simp
   exact h1
  ·intro a x ls w1 hS hsz hl hin hout hd K hK
   have h1:=hK w1 (plc 14 1) rfl (hS.set _ (by decide)) (SgR.refl _ _)
   clear hK hS hl hd hin hout hsz
   go_simp
   exact h1
  ·intro a x ls w1 hS hsz hl hin hout hd K hK
   have hv0:=hd ⟨0,.data⟩ (by simp) rfl
   have e1:a.tmps.getD 1 undef = .map (some w.heap.size):=(hin 1 0 (by decide) (by show 1<10;decide)).trans hv0.1
   have e2:a.tmps.getD 5 undef=plc 14 1:=(hin 5 7 (by decide) (by show 5<10;decide)).trans (hd ⟨7,.data⟩ (by simp) rfl)
   obtain ⟨w2,hrun,hv,hS',hR⟩:=put_step (i:=8) hS hv0.2 (by decide) 14 1 62 rfl 62 rfl
   have h1:=hK w2 undef hv hS' hR
   clear hK hS hl hd hin hout hsz hv hS' hR hv0
   go_simp
   exact h1
  ·intro a x ls w1 hS hsz hl hin hout hd K hK
   have h1:=hK w1 (plc 13 0) rfl (hS.set _ (by decide)) (SgR.refl _ _)
   clear hK hS hl hd hin hout hsz
   go_simp
   exact h1
  ·intro a x ls w1 hS hsz hl hin hout hd K hK
   have hv0:=hd ⟨0,.data⟩ (by simp) rfl
   have e1:a.tmps.getD 1 undef = .map (some w.heap.size):=(hin 1 0 (by decide) (by show 1<10;decide)).trans hv0.1
   have e2:a.tmps.getD 6 undef=plc 13 0:=(hin 6 9 (by decide) (by show 6<10;decide)).trans (hd ⟨9,.data⟩ (by simp) rfl)
   obtain ⟨w2,hrun,hv,hS',hR⟩:=put_step (i:=10) hS hv0.2 (by decide) 13 0 60 rfl 60 rfl
   have h1:=hK w2 undef hv hS' hR
   clear hK hS hl hd hin hout hsz hv hS' hR hv0
   go_simp
   exact h1
  ·intro a x ls w1 hS hsz hl hin hout hd K hK
   have h1:=hK w1 (plc 13 1) rfl (hS.set _ (by decide)) (SgR.refl _ _)
   clear hK hS hl hd hin hout hsz
   go_simp
   exact h1
  ·intro a x ls w1 hS hsz hl hin hout hd K hK
   have hv0:=hd ⟨0,.data⟩ (by simp) rfl
   have e1:a.tmps.getD 1 undef = .map (some w.heap.size):=(hin 1 0 (by decide) (by show 1<10;decide)).trans hv0.1
   have e2:a.tmps.getD 7 undef=plc 13 1:=(hin 7 11 (by decide) (by show 7<10;decide)).trans (hd ⟨11,.data⟩ (by simp) rfl)
   obtain ⟨w2,hrun,hv,hS',hR⟩:=put_step (i:=12) hS hv0.2 (by decide) 13 1 44 rfl 44 rfl
   have h1:=hK w2 undef hv hS' hR
   clear hK hS hl hd hin hout hsz hv hS' hR hv0
   go_simp
   exact h1
  ·intro a x ls w1 hS hsz hl hin hout hd K hK
   have h1:=hK w1 (plc 13 2) rfl (hS.set _ (by decide)) (SgR.refl _ _)
   clear hK hS hl hd hin hout hsz
   go_simp
   exact h1
  ·intro a x ls w1 hS hsz hl hin hout hd K hK
   have hv0:=hd ⟨0,.data⟩ (by simp) rfl
   have e1:a.tmps.getD 1 undef = .map (some w.heap.size):=(hin 1 0 (by decide) (by show 1<10;decide)).trans hv0.1
   have e2:a.tmps.getD 8 undef=plc 13 2:=(hin 8 13 (by decide) (by show 8<10;decide)).trans (hd ⟨13,.data⟩ (by simp) rfl)
   obtain ⟨w2,hrun,hv,hS',hR⟩:=put_step (i:=14) hS hv0.2 (by decide) 13 2 62 rfl 62 rfl
   have h1:=hK w2 undef hv hS' hR
   clear hK hS hl hd hin hout hsz hv hS' hR hv0
   go_simp
   exact h1
  ·intro a x ls w1 hS hsz hl hin hout hd K hK
   have hv0:=hd ⟨0,.data⟩ (by simp) rfl
   have e1:a.tmps.getD 1 undef = .map (some w.heap.size):=(hin 1 0 (by decide) (by show 1<10;decide)).trans hv0.1
   have h1:=hK w1 (.map (some w.heap.size)) rfl (hS.set _ (by decide)) (SgR.refl _ _)
   clear hK hS hl hd hin hout hsz hv0
   go_simp
   exact h1
  ·intro a x ls w1 hS hsz hl hin hout hd K hK
   have e1:a.tmps.getD 9 undef = .map (some w.heap.size):=(hin 9 15 (by decide) (by show 9<10;decide)).trans (hd ⟨15,.data⟩ (by simp) rfl)
   have h1:=hK w1 (.map (some w.heap.size)) rfl (hS.set _ (by decide)) (SgR.refl _ _)
   clear hK hS hl hd hin hout hsz
   go_simp
   exact h1
 ·intro A x ls w1 hS hall hin hout hV HA
  have e0:A.tmps.getD 0 undef = .map (some w.heap.size):=(hin 0 16 (by decide) (by show 0<10;decide)).trans (hV 16 (by decide))
  have hN:=hS.1
  have hSg:Sg w1 w.heap.size:=by
   obtain ⟨-,h | ⟨-,es,c,hg,hE⟩⟩:=hS
   ·have:=hall 0 (by decide)
    rw [this] at h;cases h.1
   ·refine ⟨es,c,hg,hE,?_⟩
    have key:∀ {k n:Nat},SgV w k n w1→∃ e ∈ es.toList,e.key=plc k n:=by
     intro k n ⟨es',c',hg',h⟩
     rw [hg] at hg'
     cases hg'
     exact h
    intro k n v hv
    unfold signV at hv
    have k0:=key (hV 2 (by decide))
    have k1:=key (hV 4 (by decide))
    have k2:=key (hV 6 (by decide))
    have k3:=key (hV 8 (by decide))
    have k4:=key (hV 10 (by decide))
    have k5:=key (hV 12 (by decide))
    have k6:=key (hV 14 (by decide))
    split at hv
    ·rename_i h
     obtain ⟨h | h | h,rfl⟩:=h <;> subst h <;> assumption
    ·split at hv
     ·rename_i h
      obtain ⟨rfl,rfl⟩:=h
      assumption
     ·split at hv
      ·rename_i h
       obtain ⟨h | h,rfl⟩ | ⟨rfl,rfl⟩:=h
       ·subst h;assumption
       ·subst h;assumption
       ·assumption
      ·cases hv
  have hdf:A.defers=[]:=by rw [HA.out]
  clear hV hall hin hout HA hS
  go_wp2_with fail
  exact bodyPost_ret (v:=.map (some w.heap.size)) (by simp [results,Tryz.results119,go_sem,← e0]) hdf ⟨rfl,hSg,hN⟩
end Go.Proofs.YtbblfkdmkpkmcaaGreatDoor
namespace Go.Proofs.YtbblfkdmkpkmcaaGreatDoor
open Go.RowKit
structure Fr (b:Nat) (v:Value) (w:World) (v':Value) (w':World):Prop where
 os:w'.os=w.os
 tape:w'.tape=w.tape
 output:w'.output=w.output
 size:w.heap.size≤w'.heap.size
 block:∀ k,k<w.heap.size→k≠b→v.ownBlock≠some k→w'.heap[k]? = w.heap[k]?
 own:∀ k,v'.ownBlock=some k→v.ownBlock=some k∨w.heap.size≤k
theorem Fr.refl (b:Nat) (v:Value) (w:World):Fr b v w v w:=⟨rfl,rfl,rfl,Nat.le_refl _,fun _ _ _ _=>rfl,fun _ h=>.inl h⟩
theorem Fr.trans {b:Nat} {v v1 v2:Value} {x y z:World} (h:Fr b v x v1 y) (k:Fr b v1 y v2 z):Fr b v x v2 z :=
  ⟨k.os.trans h.os,k.tape.trans h.tape,k.output.trans h.output,Nat.le_trans h.size k.size,
   fun i hi hb hv=>(k.block i (Nat.lt_of_lt_of_le hi h.size) hb (fun e=>(h.own i e).elim hv (by omega))).trans (h.block i hi hb hv),
   fun i e=>(k.own i e).elim (h.own i) (fun h'=>.inr (Nat.le_trans h.size h'))⟩
theorem Fr.oth {b:Nat} {w w':World} (h:Oth b w w') (v:Value):Fr b v w v w':=⟨h.os,h.tape,h.output,h.size,fun k hk hb _=>h.block k hk hb,fun _ h=>.inl h⟩
theorem Fr.nx {w w':World} (h:Nx w w') (b:Nat) (v:Value):Fr b v w v w':=⟨h.os,h.tape,h.output,h.size,fun k hk _ _=>h.block k hk,fun _ h=>.inl h⟩
theorem Fr.set (w:World) (b i:Nat) (u v:Value):Fr b v w v (w.setCell ⟨b,i,none⟩ u):=Fr.oth (Oth.set w b i u) v
theorem Fr.blk {b B g:Nat} {v v':Value} {w w':World} {cs:Array Value} {T:TypeId} (h:Fr b v w v' w') (k:Blk w B g cs T) (hb:g≠b) (hv:v.ownBlock≠some g):Blk w' B g cs T :=
 ⟨k.1,by rw [h.block g k.lt hb hv];exact k.2⟩
theorem Fr.sg {b g:Nat} {v v':Value} {w w':World} (h:Fr b v w v' w') (k:Sg w g) (hb:g≠b) (hv:v.ownBlock≠some g):Sg w' g:=by
 obtain ⟨es,c,hg,h1,h2⟩:=k
 refine ⟨es,c,?_,h1,h2⟩
 rw [h.block g ?_ hb hv]
 ·exact hg
 ·exact (Array.getElem?_eq_some_iff.1 hg).1
theorem Fr.tab {b:Nat} {v v':Value} {w w':World} (h:Fr b v w v' w') (k:TabK w) (hb:1≠b) (hv:v.ownBlock≠some 1):TabK w':=by
 obtain ⟨t,fr,hg⟩:=k
 refine ⟨t,fr,?_⟩
 rw [h.block _ ?_ hb hv]
 ·exact hg
 ·exact (Array.getElem?_eq_some_iff.1 hg).1
theorem Fr.maxC {b:Nat} {v v':Value} {w w':World} (h:Fr b v w v' w') (k:MaxC w) (hb:0≠b) (hv:v.ownBlock≠some 0):MaxC w':=by
 obtain ⟨m,hm⟩:=k
 refine ⟨m,?_⟩
 have:=h.block _ (World.block_lt_of_cell? w _ hm) hb hv
 rw [← hm]
 unfold World.cell?
 simp only
 rw [this]
theorem Fr.to {b:Nat} {v v':Value} {w w1 w':World} (h:Fr b v w1 v' w') (hn:Nx w w1) (hb:w.heap.size≤b) (hv:∀ k,v.ownBlock=some k→w.heap.size≤k):Nx w w' :=
 ⟨h.os.trans hn.os,h.tape.trans hn.tape,h.output.trans hn.output,Nat.le_trans hn.size h.size,fun k hk =>
  (h.block k (Nat.lt_of_lt_of_le hk hn.size) (by omega) (fun e=>by have:=hv k e;omega)).trans (hn.block k hk)⟩
theorem Fr.mono {b:Nat} {v v':Value} {w w1 w':World} (h:Fr b v w1 v' w') (hn:Nx w w1):Fr b v w v' w':=(Fr.nx hn b v).trans h
theorem Fr.put {b g:Nat} {v v':Value} {w w':World} (h:Fr b v w v' w') (hg:w.heap.size≤g) (i:Nat) (u:Value):Fr b v w v' (w'.setCell ⟨g,i,none⟩ u) :=
 ⟨h.os,h.tape,h.output,by simp [World.setCell];exact h.size,fun k hk hb hv=>by simp only [World.setCell];rw [Array.getElem?_modify,if_neg (by omega)];exact h.block k hk hb hv,h.own⟩
def strC (s:ByteArray):Array Value:=#[.string s]
theorem strC_size (s:ByteArray):(strC s).size=1:=rfl
def OwnN (w:World) (B:Nat) (v:Value) (xs:List ByteArray):Prop:=OwnS strC 1 9 w B v xs
theorem OwnN.own {w:World} {B:Nat} {v:Value} {xs:List ByteArray} (h:OwnN w B v xs) (k:Nat) (e:v.ownBlock=some k):B≤k∧k<w.heap.size:=by
 have:=World.ownsRow.lt h k e
 exact ⟨this.1,this.2⟩
theorem OwnN.ne {w:World} {B B' g:Nat} {v:Value} {xs:List ByteArray} {cs:Array Value} {T:TypeId} (h:OwnN w B v xs) (k:Blk w B' g cs T) (hT:T≠9):v.ownBlock≠some g:=fun e=>by
 obtain ⟨h1,h2⟩:=h
 rcases h2 with ⟨rfl,_⟩ | ⟨g',cap,cur,rfl,hg,hh,r⟩
 ·cases e
 ·obtain rfl:g'=g:=by simpa [Value.ownBlock] using e
  have:=k.2
  rw [hh] at this
  simp only [Option.some.injEq,Obj.cells.injEq] at this
  exact hT this.2.1.symm
theorem OwnN.keep {w w':World} {B:Nat} {v:Value} {xs:List ByteArray} (h:OwnN w B v xs) (hk:∀ k,v.ownBlock=some k→w'.heap[k]? = w.heap[k]?):OwnN w' B v xs:=by
 obtain ⟨h1,h2⟩:=h
 refine ⟨h1,?_⟩
 rcases h2 with h2 | ⟨g,cap,cur,hv,hg,hh,r⟩
 ·exact .inl h2
 ·refine .inr ⟨g,cap,cur,hv,hg,?_,r⟩
  rw [hk g (by rw [hv];rfl)];exact hh
def CurK (w:World) (b:Nat) (s:ByteArray) (at_ d dp:Int) (v:Value) (sb:Nat):Prop :=
 Blk w 0 b #[.string s,.int .i64 at_,.int .i64 d,.int .i64 dp,v,.map (some sb)] 131
end Go.Proofs.YtbblfkdmkpkmcaaGreatDoor
namespace Go.Proofs.YtbblfkdmkpkmcaaGreatDoor
open Go.RowKit
structure Ends (ws:List TokV):Prop where
 next:∀ i,i<ws.length→(ws.getD i tok0).k≠6→i+1<ws.length
 few:ws.length≤2001
 txt:∀ x ∈ ws,x.t.length≤2000
theorem Ends.word {ws:List TokV} (h:Ends ws) (s:PSt):((wordP ws s).t.length:Int)≤2000:=by
 unfold wordP
 split
 ·exact (by decide)
 ·rw [List.getD_eq_getElem?_getD]
  cases hi:ws[s.i]? with
  | none=>exact (by decide)
  | some x=>have:=h.txt x (List.mem_of_getElem? hi);simp;omega
structure PC (w:World) (b:Nat) (A:Option Addr) (c:Nat) (ws:List TokV) (s:PSt):Prop where
 cur:Blk w 0 b #[.slice A ws.length c,.int .i64 (s.i:Int),.int .i64 (s.e:Int)] 70
 rd:RdT w A ws
 ab:∀ g,A=some ⟨g,0,none⟩→g<b
 le:ws.length≤c
 tab:TabK w
 mx:MaxC w
 b1:1 < b
 b2:0 < b
 fin:Ends ws
 lt:s.i<ws.length
 el:s.e≤18
section
variable {w w':World} {b c:Nat} {A:Option Addr} {ws:List TokV} {s s':PSt}
theorem RdT.oth (h:RdT w A ws) (ho:Oth b w w') (hb:∀ g,A=some ⟨g,0,none⟩→g<b):RdT w' A ws:=fun h0=>by
 obtain ⟨g,e,hg,hc⟩:=h h0
 refine ⟨g,e,Nat.lt_of_lt_of_le hg ho.size,fun i hi j hj=>?_⟩
 rw [← hc i hi j hj]
 unfold World.cell?
 simp only
 rw [ho.block g hg (by have:=hb g e;omega)]
theorem TabK.oth (h:TabK w) (ho:Oth b w w') (hb:b≠1):TabK w':=by
 obtain ⟨t,fr,hg⟩:=h
 refine ⟨t,fr,?_⟩
 rw [ho.block _ (Array.getElem?_eq_some_iff.1 hg).1 (fun e=>hb e.symm)]
 exact hg
theorem PC.oth (h:PC w b A c ws s) (ho:Oth b w w') (hc:Blk w' 0 b #[.slice A ws.length c,.int .i64 (s'.i:Int),.int .i64 (s'.e:Int)] 70) (hl:s'.i<ws.length) (he:s'.e≤18):PC w' b A c ws s' :=
 ⟨hc,h.rd.oth ho h.ab,h.ab,h.le,h.tab.oth ho (Nat.ne_of_gt h.b1),ho.maxC h.mx (Nat.ne_of_gt h.b2),h.b1,h.b2,h.fin,hl,he⟩
theorem PC.nx (h:PC w b A c ws s) (hn:Nx w w'):PC w' b A c ws s:=h.oth (Oth.nx hn) (h.cur.below hn) h.lt h.el
theorem PC.bw (h:PC w b A c ws s):b<w.heap.size:=h.cur.lt
theorem PC.c0 (h:PC w b A c ws s):w.cell? ⟨b,0,none⟩=some (.slice A ws.length c):=h.cur.cell 0
theorem PC.c1 (h:PC w b A c ws s):w.cell? ⟨b,1,none⟩=some (.int .i64 (s.i:Int)):=h.cur.cell 1
theorem PC.c2 (h:PC w b A c ws s):w.cell? ⟨b,2,none⟩=some (.int .i64 (s.e:Int)):=h.cur.cell 2
theorem PC.f (h:PC w b A c ws s) (i:Nat):w.frozen? ⟨b,i,none⟩=false:=h.cur.free i
theorem PC.tok (h:PC w b A c ws s):∃ g,A=some ⟨g,0,none⟩∧g<w.heap.size∧g<b∧∀ j,j<5→w.cell? ⟨g,s.i * 5+j,none⟩=(tokC (ws.getD s.i tok0))[j]?:=by
 obtain ⟨g,e,hg,hc⟩:=h.rd (by have:=h.lt;omega)
 refine ⟨g,e,hg,h.ab g e,fun j hj=>?_⟩
 rw [hc s.i h.lt j hj]
 simp [List.getD,h.lt]
def leftP (b:Nat) (w:World):Nat:=match w.cell? ⟨b,1,none⟩,w.cell? ⟨b,2,none⟩ with
 | some (.int _ i),some (.int _ e)=>if e=0 then 3000 - i.toNat else 0
 | _,_=>0
def leftN (s:PSt):Nat:=if s.e=0 then 3000 - s.i else 0
theorem PC.left (h:PC w b A c ws s):leftP b w=leftN s:=by
 unfold leftP leftN
 rw [h.c1,h.c2]
 simp
end
theorem Fr.mv {b B:Nat} {v v':Value} {w w':World} (h:Fr b v w v' w') (hb:b<B):Mv (But (Fm B) v) (But (Fm B) v') w w' :=
 ⟨fun g hg hl=>h.block g hl (by have:B≤g:=hg.1;omega) hg.2,fun g hg hl=>⟨hg.1,fun e=>(h.own g e).elim hg.2 (by omega)⟩⟩
section
variable {α β:Type} {f:α→Array Value} {k:Nat} {T:TypeId} {R:World→(Nat→Prop)→α→β→Prop}
theorem RepL.oth (hR:Lasts R) {b B:Nat} {w w':World} {v:Value} {l:List β} (h:RepL f k T R w (Fm B) v l) (ho:Oth b w w') (hb:b<B):RepL f k T R w' (Fm B) v l :=
 h.mv hR (Mv.oth ho (Nat.le_refl _) hb)
theorem RepL.nx (hR:Lasts R) {B:Nat} {w w':World} {v:Value} {l:List β} (h:RepL f k T R w (Fm B) v l) (ho:Nx w w'):RepL f k T R w' (Fm B) v l :=
 h.mv hR (Mv.nx ho (Nat.le_refl _))
theorem RepL.less (hR:Lasts R) {B C:Nat} {w:World} {v:Value} {l:List β} (h:RepL f k T R w (Fm B) v l) (hC:C≤B):RepL f k T R w (Fm C) v l:=h.mv hR (Mv.less hC)
theorem RepL.sl (hf:∀ x,(f x).size=k) {P:Nat→Prop} {w:World} {v:Value} {l:List β} (h:RepL f k T R w P v l):∃ A c xs,v = .slice A l.length c∧xs.length=l.length∧l.length≤c∧c≤maxLen∧RdS f k w A xs∧All2 (R w (But P v)) xs l:=by
 obtain ⟨xs,h1,h2⟩:=h
 obtain ⟨A,c,rfl,h3,h4,h5⟩:=h1.1.sl hf
 have hl:=h2.len
 exact ⟨A,c,xs,by rw [hl],hl,by omega,h4,h5,h2⟩
theorem RepL.own_lt {P:Nat→Prop} {w:World} {v:Value} {l:List β} (h:RepL f k T R w P v l) (g:Nat) (e:v.ownBlock=some g):P g∧g<w.heap.size:=by
 obtain ⟨xs,h1,h2⟩:=h
 exact ⟨h1.2 g e,h1.1.lt_ g e⟩
variable (w:World) {ops:Array Oper} {rest:List Oper} {o:Oper} {a:Act} {Q:Exit→Act→World→Prop} {sz:Nat} {T2:TypeId} {z:Value}
theorem wpList_appL (hR:Lasts R) (hinfo:(Tryz.prog.info? T).map (fun i=>(i.zero,i.size,i.bytes))=some (some z,k,sz)) (hund:Tryz.prog.underlying T2=some (.slice T)) (hzs:z.cells.size=k) (hk:0<k) (hsz:sz≤1000)
  (hf:∀ x,(f x).size=k)
  (hgd:o.guard=none) (s x:Operand) (ho:o.op = .call { callee:=.builtin .append,args:=#[s,x],argTypes:=#[T2,T2] })
  (B b:Nat) (v:Value) (l:List β) (ex:α) (ey:β) (hs:a.eval s=v) (hrep:RepL f k T R w (Fm B) v l) (hone:∀ u ∈ (f ex).toList,u.oneCell'=true) (g:Nat) (hx:a.eval x = .slice (some ⟨g,0,none⟩) 1 1)
  (hy:∀ j,j<k→w.cell? ⟨g,j,none⟩=(f ex)[j]?) (hey:R w (But (Fm B) v) ex ey) (h63:(l.length:Int)≤100000) (hB:B≤w.heap.size) (hb:b<B)
  (h:∀ v' w',RepL f k T R w' (Fm B) v' (l++[ey])→Fr b v w v' w'→(∀ k,k<w.heap.size→v.ownBlock≠some k→w'.heap[k]? = w.heap[k]?)→wpList Tryz.prog ops Q rest (a.put o.dst v') w'):wpList Tryz.prog ops Q (o :: rest) a w:=by
 refine wpList_plain hgd fun K hK=>?_
 obtain ⟨i,hi,hz,h1,h2⟩:=info_parts hinfo
 obtain ⟨xs,hsl,hall⟩:=hrep
 have hlen:=hall.len
 have hcells:∀ j u,((f ex).toList)[j]? = some u→w.cell? ((⟨g,0,none⟩:Addr).add j)=some u:=by
  intro j u hu
  have hj:j<k:=by
   rcases Nat.lt_or_ge j k with h | h
   ·exact h
   ·rw [List.getElem?_eq_none (by rw [Array.length_toList,hf];exact h)] at hu;cases hu
  rw [Addr.add_lit,Nat.zero_add,hy j hj]
  rw [← hu];simp
 obtain ⟨v',w',hrun,ho',hg,_,hob⟩:=run_append_own_at (P:=Tryz.prog) w 0 T2 o.type T i _ k sz hund hi hz h1 h2 hzs hk v xs.length (rowL f xs) hsl.1 ⟨g,0,none⟩ 1 1 (f ex).toList (by rw [Array.length_toList,hf,Nat.one_mul]) hcells hone (by simp [maxLen];omega)
  (by
    have:(xs.length+1) * sz≤100001 * 1000:=Nat.mul_le_mul (by omega) hsz
    omega) (Nat.zero_le _)
 have hfr:Fr b v w v' w':=⟨hg.os,hg.tape,hg.output,hg.size,fun k hk _ hv=>hg.block k hk (fun e=>hv e.symm),fun k e=>by
  rcases hob with h | h
  ·exact .inl (h ▸ e)
  ·rw [h] at e;cases e;exact .inr (Nat.le_refl _)⟩
 have hmv:=hfr.mv hb
 have hrep':RepL f k T R w' (Fm B) v' (l++[ey]):=by
  refine ⟨xs++[ex],⟨?_,fun g' e=>?_⟩,All2.snoc (hall.mono fun _ _ h=>hR hmv h) (hR hmv hey)⟩
  ·unfold OwnS
   rw [List.length_append,rowL_snoc]
   exact ho'
  ·rcases hob with h | h
   ·exact hsl.2 g' (h ▸ e)
   ·rw [h] at e;cases e;exact hB
 have:=hK _ _ (h v' w' hrep' hfr (fun k hk hv=>hg.block k hk (fun e=>hv e.symm)))
 unfold Oper.wp execOp
 simp only [ho,resolve,invoke,builtin,Sem.run_bind,Sem.run_pure,Result.andThen_ok,List.map_toArray,List.map_cons,List.map_nil,hs,hx,hrun]
 exact this
end
end Go.Proofs.YtbblfkdmkpkmcaaGreatDoor
