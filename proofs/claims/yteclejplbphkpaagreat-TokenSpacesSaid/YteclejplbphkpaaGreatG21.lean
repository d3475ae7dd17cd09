/- A region that draws its order: an invariant that knows what has been carried out, and what not. Plain lemmas over any program. The document's play: arguments of a method. Lists that lie: within bounds, but for a block, made at once. Plain lemmas. -/
import Derived.Test.YteclejplbphkpaaGreatG19
import Derived.Test.YteclejplbphkpaaGreatG20
set_option linter.unusedVariables false
set_option linter.unusedSimpArgs false
set_option linter.unnecessarySimpa false
namespace Go.Proofs.YteclejplbphkpaaGreat
namespace RI
def reachB (L:List Oper):Nat→Nat→Nat→Bool
 | 0,j,i=>j == i
 | f+1,j,i=>j == i || match L[j]? with
  | some o=>o.after.any fun e=>Region.binds .any e && reachB L f e.on i
  | none=>false
def Closed (L:List Oper) (ls:Array Bool):Prop:=∀ j o,L[j]? = some o→ls.getD j false=true→∀ e ∈ o.after.toList,Region.binds .any e=true→ls.getD e.on false=true
theorem Closed.reach {L:List Oper} {ls:Array Bool} (h:Closed L ls):∀ (f j i:Nat),reachB L f j i=true→ls.getD j false=true→ls.getD i false=true
 | 0,j,i,hr,hj=>by
  have:j=i:=by simpa [reachB] using hr
  rw [← this];exact hj
 | f+1,j,i,hr,hj=>by
  unfold reachB at hr
  rw [Bool.or_eq_true] at hr
  rcases hr with hr | hr
  ·have:j=i:=by simpa using hr
   rw [← this];exact hj
  ·cases ho:L[j]? with
   | none=>rw [ho] at hr;cases hr
   | some o =>
    rw [ho] at hr
    dsimp only at hr
    obtain ⟨e,he,hb⟩:=Array.any_eq_true'.1 hr
    rw [Bool.and_eq_true] at hb
    exact Closed.reach h f e.on i hb.2 (h j o ho hj e (by simpa using he) hb.1)
theorem Closed.not {L:List Oper} {ls:Array Bool} (h:Closed L ls) (f j i:Nat) (hr:reachB L f j i=true) (hi:ls.getD i true=false):ls.getD j false=false:=by
 rw [Bool.eq_false_iff]
 intro hj
 have h1:=h.reach f j i hr hj
 have h2:i<ls.size:=by
  rcases Nat.lt_or_ge i ls.size with h | h
  ·exact h
  ·rw [Array.getD_eq_getD_getElem?,Array.getElem?_eq_none h] at h1;cases h1
 simp [h2] at h1 hi
 rw [hi] at h1;cases h1
section
variable {P:Program} (L:List Oper) (a0:Act) (V:Nat→Value→World→Prop) (S:Array Bool→World→Prop) (R:Array Bool→World→World→Prop)
def StepM (P:Program) (i:Nat) (o:Oper):Prop :=
 ∀ (a:Act) (x:Nat→Value) (ls:Array Bool) (w:World),S ls w→ls.size=L.length→ls.getD i true=false→Closed L ls→(∀ j,j<L.length→ls.getD j false=false→x j=old a0 L j)→(∀ d i,slotB L d i=true→d<a0.tmps.size→a.eval (.tmp d)=x i)→(∀ d,(dsts L).contains d=false→a.eval (.tmp d)=a0.eval (.tmp d)) →
  (∀ e ∈ o.after.toList,Region.binds .any e=true→V e.on (x e.on) w) →
  ∀ K:Act→World→Prop,(∀ w' v,V i v w'→S (ls.setIfInBounds i true) w'→R ls w w'→K (a.put o.dst v) w')→o.wp P a w K (fun _ _ _=>False)
def StepsM (P:Program):List Oper→Nat→Prop
 | [],_=>True
 | o :: os,i=>StepM L a0 V S R P i o∧StepsM P os (i+1)
variable {L a0 V S R}
theorem StepsM.at_:∀ {os:List Oper} {k:Nat},StepsM L a0 V S R P os k→∀ i o,os[i]? = some o→StepM L a0 V S R P (k+i) o
 | [],_,_,i,o,h=>by simp at h
 | o' :: os,k,hs,i,o,h=>by
  cases i with
  | zero=>simp at h;subst h;exact hs.1
  | succ i=>rw [show k+(i+1)=k+1+i by omega];exact StepsM.at_ hs.2 i o (by simpa using h)
theorem inv_anyM {Q:Exit→Act→World→Prop} (hok:okB L=true) (hg:L.all (fun o=>o.guard == none)=true) (hV:∀ ls j v w w',ls.getD j false=true→V j v w→R ls w w'→V j v w') (hs:StepsM L a0 V S R P L 0)
  (hend:∀ (x:Nat→Value) ls w,S ls w→(∀ j,j<L.length→ls.getD j false=true)→(∀ j,j<L.length→V j (x j) w)→Q .normal (PA L 0 x a0) w) :
  ∀ (f:Nat) (listed:Array Bool) (x:Nat→Value) (w:World),listed.size=L.length→unl L.length listed≤f→S listed w→Closed L listed→(∀ j,j<L.length→listed.getD j false=false→x j=old a0 L j)→(∀ j,listed.getD j false=true→V j (x j) w) →
   wpAny P .any L.toArray Q f listed (PA L 0 x a0) w:=by
 simp only [okB,Bool.and_eq_true,decide_eq_true_eq] at hok
 obtain ⟨hb,hn⟩:=hok
 have fin:∀ (listed:Array Bool) (x:Nat→Value) (w:World),listed.size=L.length→S listed w→(∀ j,listed.getD j false=true→V j (x j) w)→(∀ i,i<L.length→listed.getD i true=true)→Q .normal (PA L 0 x a0) w:=by
  intro listed x w hz hS hx hall
  have hall':∀ j,j<L.length→listed.getD j false=true:=fun j hj=>by
   have h4:j<listed.size:=by omega
   simpa [h4] using hall j hj
  exact hend x listed w hS hall' fun j hj=>hx j (hall' j hj)
 intro f
 induction f with
 | zero =>
  intro listed x w hz hf hS hcl hun hx
  have hall:∀ i,i<L.length→listed.getD i true=true:=by
   intro i hi
   cases h:listed.getD i true with
   | true=>rfl
   | false =>
    exfalso
    have:i ∈ (List.range L.length).filter fun i=>!listed.getD i true:=List.mem_filter.2 ⟨List.mem_range.2 hi,by rw [h];rfl⟩
    have:=List.length_pos_of_mem this
    unfold unl at hf
    omega
  refine ⟨?_,fin listed x w hz hS hx hall⟩
  rw [List.eq_nil_iff_forall_not_mem]
  intro i hi
  obtain ⟨h1,o,ho,-⟩:=mem_ready.1 hi
  have hi2:i<L.length:=by
   have:=(Array.getElem?_eq_some_iff.1 ho).1
   simpa using this
  rw [hall i hi2] at h1
  cases h1
 | succ f ih =>
  intro listed x w hz hf hS hcl hun hx
  refine ⟨fun hr=>fin listed x w hz hS hx (all_listed hb hz hr),fun i hi=>?_⟩
  obtain ⟨h1,o,ho,hdep⟩:=mem_ready.1 hi
  have hi2:i<L.length:=by
   have:=(Array.getElem?_eq_some_iff.1 ho).1
   simpa using this
  have hol:L[i]? = some o:=by simpa using ho
  have hgd:o.guard=none:=by
   have:=List.all_eq_true.1 hg o (List.mem_of_getElem? hol)
   simpa using this
  have hst:=hs.at_ i o hol
  rw [Nat.zero_add] at hst
  have h4:i<listed.size:=by omega
  have h:=hst (PA L 0 x a0) x listed w hS hz h1 hcl hun (fun d i g1 g2=>PA_slot g1 g2) (fun d g1=>PA_old_slot g1) (fun e he hbd=>hx e.on (hdep e (by simpa using he) hbd)) (wpAny P .any L.toArray Q f (listed.setIfInBounds i true)) (by
   intro w' v hv hS' hR
   rw [PA_upd L 0 x a0 i o v hn hol,Nat.zero_add]
   refine ih (listed.setIfInBounds i true) (upd x i v) w' (by simpa using hz) ?_ hS' ?_ ?_ ?_
   ·have:unl L.length (listed.setIfInBounds i true)<unl L.length listed:=by
     refine filter_lt _ _ _ ?_ i (List.mem_range.2 hi2) ?_ ?_
     ·intro y hy hp
      by_cases hyi:i=y
      ·subst hyi
       simp [h4] at hp
      ·rw [getD_set_ne true hyi] at hp;exact hp
     ·simp [h4]
     ·rw [h1];rfl
    omega
   ·intro j o' ho' hj e he hbd
    by_cases hji:j=i
    ·subst hji
     rw [hol] at ho'
     obtain rfl:=Option.some.inj ho'
     have:=hdep e (by simpa using he) hbd
     by_cases hei:j=e.on
     ·rw [← hei];simp [h4]
     ·rw [getD_set_ne false hei];exact this
    ·rw [getD_set_ne false (Ne.symm hji)] at hj
     have:=hcl j o' ho' hj e he hbd
     by_cases hei:i=e.on
     ·rw [← hei];simp [h4]
     ·rw [getD_set_ne false hei];exact this
   ·intro j hj hl
    by_cases hji:j=i
    ·subst hji;simp [h4] at hl
    ·rw [upd_ne _ _ _ _ hji]
     rw [getD_set_ne false (Ne.symm hji)] at hl
     exact hun j hj hl
   ·intro j hj
    by_cases hji:j=i
    ·subst hji;rw [upd_same];exact hv
    ·rw [upd_ne _ _ _ _ hji]
     rw [getD_set_ne false (Ne.symm hji)] at hj
     exact hV _ _ _ _ _ hj (hx j hj) hR)
  unfold wpOp
  rw [ho]
  dsimp only
  rw [if_pos (by unfold Region.wanted;rw [hgd])]
  exact .inl (wp_mono_both (fun _ _ h=>h) h trivial)
theorem wp_region_M {id:Nat} {Q:Exit→Act→World→Prop} {w:World} {ops:Array Oper} (V:Nat→Value→World→Prop) (S:Array Bool→World→Prop) (R:Array Bool→World→World→Prop) (hm:P.follows .mixedOrders=true) (hok:okB ops.toList=true) (hg:ops.toList.all (fun o=>o.guard == none)=true)
  (hV:∀ ls j v w w',ls.getD j false=true→V j v w→R ls w w'→V j v w') (hS:S (Array.replicate ops.size false) { w with drawn:=w.drawn+1 }) (hs:StepsM ops.toList a0 V S R P ops.toList 0)
  (hend:∀ (A:Act) (x:Nat→Value) ls w,S ls w→(∀ j,j<ops.toList.length→ls.getD j false=true)→(∀ d i,slotB ops.toList d i=true→d<a0.tmps.size→A.eval (.tmp d)=x i)→(∀ d,(dsts ops.toList).contains d=false→A.eval (.tmp d)=a0.eval (.tmp d))→(∀ j,j<ops.toList.length→V j (x j) w) →
   RowKit.Hid (A=⟨(setAll ops.toList 0 x a0.tmps.toList).toArray,a0.defers⟩)→Q .normal A w):(Code.region id ops true).wp P Q a0 w:=by
 refine wp_region_any hm ?_
 have hold:PA ops.toList 0 (old a0 ops.toList) a0=a0:=PA_old ops.toList 0 _ a0 (fun i o d h1 h2=>by unfold old;rw [Nat.zero_add,h1];simp [h2])
 have hrep:∀ j,(Array.replicate ops.size false).getD j false=false:=by
  intro j
  rw [Array.getD_eq_getD_getElem?]
  cases h:(Array.replicate ops.size false)[j]? with
  | none=>rfl
  | some b =>
   obtain ⟨h1,h2⟩:=Array.getElem?_eq_some_iff.1 h
   simp at h2
   simp [← h2]
 have:=inv_anyM (P:=P) (Q:=Q) hok hg hV hs (fun x ls w h1 h2 h3=>hend (PA ops.toList 0 x a0) x ls w h1 h2 (fun d i g1 g2=>PA_slot g1 g2) (fun d g1=>PA_old_slot g1) h3 (PA_list ops.toList 0 x a0)) ops.size (Array.replicate ops.size false) (old a0 ops.toList) { w with drawn:=w.drawn+1 } (by simp) ?_ hS ?_ ?_ ?_
 ·rw [hold] at this
  simpa using this
 ·unfold unl
  have:=List.length_filter_le (fun i=>!(Array.replicate ops.size false).getD i true) (List.range ops.toList.length)
  simp only [List.length_range] at this
  simpa using this
 ·intro j o ho hj
  rw [hrep] at hj;cases hj
 ·intro j _ _;rfl
 ·intro j hj
  rw [hrep] at hj;cases hj
end
end RI
end Go.Proofs.YteclejplbphkpaaGreat
namespace Go.Proofs.YteclejplbphkpaaGreat
open Go.RowKit
section
variable (w:World) {o:Oper} {a:Act} {sz:Nat} {T2:TypeId} {z:Value} {α β:Type} {f:α→Array Value} {k:Nat} {T:TypeId} {R:World→(Nat→Prop)→α→β→Prop}
theorem op_appLx (hR:Lasts R) (hinfo:(Tryz.prog.info? T).map (fun i=>(i.zero,i.size,i.bytes))=some (some z,k,sz)) (hund:Tryz.prog.underlying T2=some (.slice T)) (hzs:z.cells.size=k) (hk:0<k) (hsz:sz≤1000)
  (hf:∀ x,(f x).size=k)
  {K:Act→World→Prop} (s x:Operand) (ho:o.op = .call { callee:=.builtin .append,args:=#[s,x],argTypes:=#[T2,T2] })
  (B b:Nat) (v:Value) (l:List β) (ex:α) (ey:β) (hs:a.eval s=v) (hrep:RepL f k T R w (Fm B) v l) (hone:∀ u ∈ (f ex).toList,u.oneCell'=true) (g:Nat) (hx:a.eval x = .slice (some ⟨g,0,none⟩) 1 1)
  (hy:∀ j,j<k→w.cell? ⟨g,j,none⟩=(f ex)[j]?) (hey:R w (But (Fm B) v) ex ey) (h63:(l.length:Int)≤100000) (hB:B≤w.heap.size) (hb:b<B)
  (h:∀ v' w',RepL f k T R w' (Fm B) v' (l++[ey])→Fr b v w v' w'→(∀ k,k<w.heap.size→v.ownBlock≠some k→w'.heap[k]? = w.heap[k]?)→K (a.put o.dst v') w'):o.wp Tryz.prog a w K (fun _ _ _=>False):=by
 obtain ⟨i,hi,hz,h1,h2⟩:=info_parts hinfo
 obtain ⟨xs,hsl,hall⟩:=hrep
 have hlen:=hall.len
 have hcells:∀ j u,((f ex).toList)[j]? = some u→w.cell? ((⟨g,0,none⟩:Addr).add j)=some u:=by
  intro j u hu
  have hj:j<k:=by
   rcases Nat.lt_or_ge j k with h | h
   ·exact h
   ·rw [List.getElem?_eq_none (by rw [Array.length_toList,hf];exact h)] at hu;cases hu
  rw [Addr.add_lit,Nat.zero_add,hy j hj]
  rw [← hu];simp
 obtain ⟨v',w',hrun,ho',hg,_,hob⟩:=run_append_own_at (P:=Tryz.prog) w 0 T2 o.type T i _ k sz hund hi hz h1 h2 hzs hk v xs.length (rowL f xs) hsl.1 ⟨g,0,none⟩ 1 1 (f ex).toList (by rw [Array.length_toList,hf,Nat.one_mul]) hcells hone (by simp [maxLen];omega)
  (by
    have:(xs.length+1) * sz≤100001 * 1000:=Nat.mul_le_mul (by omega) hsz
    omega) (Nat.zero_le _)
 have hfr:Fr b v w v' w':=⟨hg.os,hg.tape,hg.output,hg.size,fun k hk _ hv=>hg.block k hk (fun e=>hv e.symm),fun k e=>by
  rcases hob with h | h
  ·exact .inl (h ▸ e)
  ·rw [h] at e;cases e;exact .inr (Nat.le_refl _)⟩
 have hmv:=hfr.mv hb
 have hrep':RepL f k T R w' (Fm B) v' (l++[ey]):=by
  refine ⟨xs++[ex],⟨?_,fun g' e=>?_⟩,All2.snoc (hall.mono fun _ _ h=>hR hmv h) (hR hmv hey)⟩
  ·unfold OwnS
   rw [List.length_append,rowL_snoc]
   exact ho'
  ·rcases hob with h | h
   ·exact hsl.2 g' (h ▸ e)
   ·rw [h] at e;cases e;exact hB
 have:=h v' w' hrep' hfr (fun k hk hv=>hg.block k hk (fun e=>hv e.symm))
 unfold Oper.wp execOp
 simp only [ho,resolve,invoke,builtin,Sem.run_bind,Sem.run_pure,Result.andThen_ok,List.map_toArray,List.map_cons,List.map_nil,hs,hx,hrun]
 exact this
end
def PArg (pre:List UInt8) (i:Nat) (f:Fld):Prop:=∃ T,TypOf pre T∧f=⟨true,1+(i:Int),0,T,[97,(48+i).toUInt8],false,con0⟩
structure RW (b:Nat) (v:Value) (w w':World):Prop where
 os:w'.os=w.os
 tape:w'.tape=w.tape
 output:w'.output=w.output
 size:w.heap.size≤w'.heap.size
 block:∀ k,k<w.heap.size→k≠b→v.ownBlock≠some k→w'.heap[k]? = w.heap[k]?
theorem RW.refl (b:Nat) (v:Value) (w:World):RW b v w w:=⟨rfl,rfl,rfl,Nat.le_refl _,fun _ _ _ _=>rfl⟩
theorem RW.trans {b:Nat} {v:Value} {x y z:World} (h:RW b v x y) (k:RW b v y z):RW b v x z :=
 ⟨k.os.trans h.os,k.tape.trans h.tape,k.output.trans h.output,Nat.le_trans h.size k.size,fun i hi hb hv=>(k.block i (Nat.lt_of_lt_of_le hi h.size) hb hv).trans (h.block i hi hb hv)⟩
theorem RW.oth {b:Nat} {w w':World} (h:Oth b w w') (v:Value):RW b v w w':=⟨h.os,h.tape,h.output,h.size,fun k hk hb _=>h.block k hk hb⟩
theorem RW.fr {b:Nat} {v v':Value} {w w':World} (h:Fr b v w v' w'):RW b v w w':=⟨h.os,h.tape,h.output,h.size,h.block⟩
theorem RW.toOth {b B:Nat} {v:Value} {w w1 w':World} (h:RW b v w1 w') (ho:Oth b w w1) (hv:∀ k,v.ownBlock=some k→B≤k) (hB:w.heap.size≤B):Oth b w w' :=
 ⟨h.os.trans ho.os,h.tape.trans ho.tape,h.output.trans ho.output,Nat.le_trans ho.size h.size,fun k hk hb =>
  (h.block k (Nat.lt_of_lt_of_le hk ho.size) hb (fun e=>by have:=hv k e;omega)).trans (ho.block k hk hb)⟩
def ArgS (b:Nat) (lv:Value) (wr:World) (ls:Array Bool) (w:World):Prop:=PkS w b∧RW b lv wr w∧(ls.getD 14 false=false→Oth b wr w)
theorem getD_set14 (ls:Array Bool) (i:Nat) (h:i≠14):(ls.setIfInBounds i true).getD 14 false=ls.getD 14 false:=by
 rw [Array.getD_eq_getD_getElem?,Array.getD_eq_getD_getElem?,Array.getElem?_setIfInBounds_ne h]
theorem ArgS.set {b:Nat} {lv:Value} {wr w:World} {ls:Array Bool} (h:ArgS b lv wr ls w) (i:Nat) (hi:i≠14):ArgS b lv wr (ls.setIfInBounds i true) w :=
 ⟨h.1,h.2.1,fun e=>h.2.2 (by rw [getD_set14 ls i hi] at e;exact e)⟩
theorem ArgS.step {b:Nat} {lv:Value} {wr w w':World} {ls:Array Bool} (h:ArgS b lv wr ls w) (ho:Oth b w w') (hp:PkS w' b) (i:Nat) (hi:i≠14):ArgS b lv wr (ls.setIfInBounds i true) w' :=
 ⟨hp,h.2.1.trans (RW.oth ho lv),fun e=>(h.2.2 (by rw [getD_set14 ls i hi] at e;exact e)).trans ho⟩
def ArgR (b:Nat) (lv:Value) (ls:Array Bool) (w w':World):Prop:=if (ls.getD 14 false || ls.getD 15 false)=true then w'=w else RW b lv w w'
theorem ArgR.refl {b:Nat} {lv:Value} {ls:Array Bool} {w:World}:ArgR b lv ls w w:=by
 unfold ArgR
 split
 ·rfl
 ·exact RW.refl _ _ _
theorem ArgR.rw {b:Nat} {lv:Value} {ls:Array Bool} {w w':World} (h14:ls.getD 14 false=false) (h15:ls.getD 15 false=false) (h:RW b lv w w'):ArgR b lv ls w w':=by
 unfold ArgR
 rw [h14,h15,if_neg (by simp)];exact h
def argV (h0 b i B0:Nat) (cx:UInt8) (u:ByteArray) (pre:List UInt8) (lv:Value) (fs:List Fld):List (Value→World→Prop) :=
  [fun v _=>v=lv,
   fun v _=>v = .int .i64 (i:Int),
   fun v _=>v = .int .i64 (1+(i:Int)),
   fun v _=>v = .pointer (some ⟨b,0,none⟩),
   fun v _=>v = .string u,
   fun v _=>∃ t T,v = .string t∧Tx t T∧TypOf pre T,
   fun v _=>v = .int .i64 (i:Int),
   fun v _=>v = .int .i64 (48+(i:Int)),
   fun v _=>v = .int .u8 (48+(i:Int)),
   fun v w=>∃ g,v = .slice (some ⟨g,0,none⟩) 1 1∧h0≤g∧g<w.heap.size∧w.cell? ⟨g,0,none⟩=some (.int .u8 (48+(i:Int))),
   fun v _=>v = .string ⟨#[cx]⟩,
   fun v _=>v = .string (⟨#[97]⟩++⟨#[cx]⟩),
   fun v _=>∃ (t:ByteArray) (T:List UInt8),v = .agg #[.bool true,.int .i64 (1+(i:Int)),.int .i64 0,.string t,.string (⟨#[97]⟩++⟨#[cx]⟩),.bool false,.int .i64 0,.int .i64 0,.int .u64 0,.string ⟨#[]⟩,.slice none 0 0]∧Tx t T∧TypOf pre T,
   fun v w=>∃ g T,v = .slice (some ⟨g,0,none⟩) 1 1∧h0≤g∧TypOf pre T∧Blk w g g (fldA ⟨true,1+(i:Int),0,T,[97,cx],false,conZ⟩) 75,
   fun v w=>∃ T,TypOf pre T∧LF w (Fm B0) v (fs++[⟨true,1+(i:Int),0,T,[97,cx],false,con0⟩]),
   fun v w=>∃ T,TypOf pre T∧LF w (Fm B0) v (fs++[⟨true,1+(i:Int),0,T,[97,cx],false,con0⟩])]
theorem argV_keep {h0 b i B0:Nat} {cx:UInt8} {u:ByteArray} {pre:List UInt8} {lv:Value} {fs:List Fld} (hb:b<h0) (hown:∀ k,lv.ownBlock=some k→k<h0) :
  ∀ ls j v w w',ls.getD j false=true→RI.Vof (argV h0 b i B0 cx u pre lv fs) j v w→ArgR b lv ls w w'→RI.Vof (argV h0 b i B0 cx u pre lv fs) j v w':=by
 intro ls j v w w' hj hv hr
 unfold ArgR at hr
 split at hr
 ·rw [hr];exact hv
 ·rename_i hno
  have hne:j≠14∧j≠15:=by
   constructor <;> (rintro rfl;rw [hj] at hno;simp at hno)
  have hblk:∀ {g cs T},h0≤g→Blk w g g cs T→Blk w' g g cs T:=fun {g cs T} hg hk =>
   ⟨hk.1,(hr.block g hk.lt (by omega) (fun e=>by have:=hown g e;omega)).trans hk.2⟩
  rcases (show j=0∨j=1∨j=2∨j=3∨j=4∨j=5∨j=6∨j=7∨j=8∨j=9∨j=10∨j=11∨j=12∨j=13∨16≤j by omega) with rfl | rfl | rfl | rfl | rfl | rfl | rfl | rfl | rfl | rfl | rfl | rfl | rfl | rfl | h16
  all_goals first | exact hv | skip
  ·obtain ⟨g,e1,e2,e3,e4⟩:=hv
   refine ⟨g,e1,e2,Nat.lt_of_lt_of_le e3 hr.size,?_⟩
   rw [← e4]
   unfold World.cell?
   simp only
   rw [hr.block g e3 (by omega) (fun e=>by have:=hown g e;omega)]
  ·obtain ⟨g,T,e1,e2,e3,e4⟩:=hv
   exact ⟨g,T,e1,e2,e3,hblk e2 e4⟩
  ·unfold RI.Vof
   rw [List.getD_eq_getElem?_getD,List.getElem?_eq_none (by simp [argV];omega)]
   trivial
theorem bv_digit (i:Nat) (hi:i≤100):bv (48+i).toUInt8 = .int .u8 (48+(i:Int)):=by
 have h:(48+i).toUInt8.toNat=48+i:=by
  rw [Nat.toUInt8,UInt8.toNat_ofNat']
  omega
 unfold bv
 rw [h]
 exact congrArg (Value.int .u8) (by omega)
def PArgsR (pre:List UInt8) (b:Nat) (w:World) (B:Nat) (v:Value) (w':World):Prop :=
 ∃ (fs:List Fld) (r':List UInt8),LF w' (Fm B) v fs∧AllI (PArg pre) fs∧fs.length≤3∧Pk w' b r'∧Oth b w w'
set_option maxRecDepth 100000 in
set_option maxHeartbeats 12800000 in
theorem plArgs_any (b:Nat) (u:ByteArray) (pre:List UInt8) (r:List UInt8) (w:World) (hu:Tx u pre) (hpre:(pre.length:Int)≤1000) (hP:Pk w b r) :
  Calls Tryz.prog 25 #[.pointer (some ⟨b,0,none⟩),.string u] w fun e w'=>∃ v,e = .returned v∧PArgsR pre b w w.heap.size v w':=by
 have HU:=Lib.hid hu
 obtain ⟨B0,hB0e⟩:∃ B0,w.heap.size=B0:=⟨_,rfl⟩
 rw [hB0e]
 clear hu
 go_enter Tryz.func25,Tryz.ntmps25
 go_wp2_with fail
 have hb0:b<w.heap.size:=hP.lt
 refine (num_any b 3 r w hP (by decide) (by decide)).mono ?_;rintro e w1 ⟨rfl,hP1,hO1⟩
 have hkn:=numP_lt 3 (by decide) r
 obtain ⟨n,r1,hN⟩:∃ n r1,numP 3 r=(n,r1):=⟨_,_,rfl⟩
 rw [hN] at hP1 hkn ⊢
 dsimp only at hP1 hkn ⊢
 have HP1:=Lib.hid hP1
 have HO1:=Lib.hid hO1
 have hb:b<w1.heap.size:=hP1.lt
 rw [hB0e] at hb0
 have HWB:Hid (w.heap.size=B0):=hB0e
 clear hN hP1 hO1 hP hB0e
 go_wp2_with fail
 go_loopw [5,6] (fun lv iv wr=>∃ (i:Nat) (fs:List Fld) (r':List UInt8),iv = .int .i64 (i:Int)∧i≤n∧Pk wr b r'∧LF wr (Fm B0) lv fs∧fs.length=i∧AllI (PArg pre) fs∧Oth b w wr) (fun _ iv _=>(100 - intOf iv).toNat)
 case atStart=>exact ⟨0,[],r1,rfl,Nat.zero_le _,HP1.out,RepL.nil_,rfl,AllI.nil,HO1.out⟩
 case round =>
  obtain ⟨i,fs,r2,rfl,hi,hP2,hlf,hfl,hall,hO2⟩:=hrel
  obtain ⟨lA,lc,-,rfl,-,-,-,-,-⟩:=hlf.sl fldA_size
  have hi20:(i:Int)≤20:=by omega
  have HFL:=Lib.hid hfl
  have HP2:=Lib.hid hP2
  have HLF:=Lib.hid hlf
  have HO2:=Lib.hid hO2
  have HALL:=Lib.hid hall
  clear hP2 hlf hO2 hall hfl
  by_cases hlt:i<n
  ·have q1:decide ((i:Int)<(n:Int))=true:=decide_eq_true (by omega)
   have q2:(i:Int)<(n:Int):=by omega
   obtain ⟨cx,hcx⟩:∃ cx,Hid ((48+i).toUInt8=cx):=⟨_,rfl⟩
   have hbc:Hid (bv cx = .int .u8 (48+(i:Int))):=by unfold Hid;rw [← hcx.out];exact bv_digit i (by omega)
   have hbr:b<wr.heap.size:=HP2.out.lt
   have HG:=Lib.hid fun g e=>(HLF.out.own_lt g e)
   go_upto_region 5 with fail
   obtain ⟨LV,hLV⟩:∃ LV,LV=Value.slice lA fs.length lc:=⟨_,rfl⟩
   refine RI.wp_region_M (RI.Vof (argV wr.heap.size b i B0 cx u pre LV fs)) (ArgS b LV wr) (ArgR b LV) rfl (by kernel_rfl) (by kernel_rfl) (argV_keep hbr (by rw [hLV];exact fun k e=>(HG.out k e).2)) ?_ ?_ ?_
   ·exact ⟨⟨_,HP2.out.nx (Nx.drawn _)⟩,RW.oth (Oth.nx (Nx.drawn _)) _,fun _=>Oth.nx (Nx.drawn _)⟩
   ·refine ⟨?_,?_,?_,?_,?_,?_,?_,?_,?_,?_,?_,?_,?_,?_,?_,?_,?_⟩
    ·intro a x ls w' hS hsz hni hcl hun hin hout hd K hK
     have n15:=hcl.not 20 15 0 (by kernel_rfl) hni
     have e15:=hun 15 (by decide) n15
     have o:a.eval (.tmp 5)=LV:=(hin 5 15 (by kernel_rfl) (show 5<31 by decide)).trans (e15.trans (by rw [hLV];rfl))
     clear hin hout hun
     exact hK w' _ o (hS.set 0 (by decide)) ArgR.refl
    ·intro a x ls w' hS hsz hni hcl hun hin hout hd K hK
     have o:a.eval (.tmp 6) = .int .i64 (i:Int):=hout 6 (by kernel_rfl)
     clear hin hout
     exact hK w' _ o (hS.set 1 (by decide)) ArgR.refl
    ·intro a x ls w' hS hsz hni hcl hun hin hout hd K hK
     have i16:a.tmps.getD 16 undef = .int .i64 (i:Int):=(hin 16 1 (by kernel_rfl) (show 16<31 by decide)).trans (hd ⟨1,.data⟩ (by simp) rfl)
     have hwm:IntKind.i64.wrap ((i:Int)+1)=1+(i:Int):=by rw [IntKind.wrap_i64];omega
     clear hin hout hd hcl hun
     have HS:=Lib.hid (hS.set 2 (by decide))
     clear hS
     go_simp
     exact hK w' _ rfl HS.out ArgR.refl
    ·intro a x ls w' hS hsz hni hcl hun hin hout hd K hK
     have o:a.eval (.tmp 0) = .pointer (some ⟨b,0,none⟩):=hout 0 (by kernel_rfl)
     clear hin hout
     exact hK w' _ o (hS.set 3 (by decide)) ArgR.refl
    ·intro a x ls w' hS hsz hni hcl hun hin hout hd K hK
     have o:a.eval (.tmp 1) = .string u:=hout 1 (by kernel_rfl)
     clear hin hout
     exact hK w' _ o (hS.set 4 (by decide)) ArgR.refl
    ·intro a x ls w' hS hsz hni hcl hun hin hout hd K hK
     have i18:a.tmps.getD 18 undef = .pointer (some ⟨b,0,none⟩):=(hin 18 3 (by kernel_rfl) (show 18<31 by decide)).trans (hd ⟨3,.data⟩ (by simp) rfl)
     have i19:a.tmps.getD 19 undef = .string u:=(hin 19 4 (by kernel_rfl) (show 19<31 by decide)).trans (hd ⟨4,.data⟩ (by simp) rfl)
     have n14:=hcl.not 20 14 5 (by kernel_rfl) hni
     have n15:=hcl.not 20 15 5 (by kernel_rfl) hni
     clear hin hout hd hcl hun
     obtain ⟨r3,hp3⟩:=hS.1
     have HP3:=Lib.hid hp3
     have HS:=Lib.hid hS
     clear hp3 hS
     go_simp
     refine (typ_any b u pre HU.out hpre 3 0 r3 w' rfl HP3.out).mono ?_;rintro e w2 ⟨t,rfl,ht,hq1,hq2⟩
     exact hK w2 _ ⟨t,_,rfl,ht,_,rfl⟩ (HS.out.step hq2 ⟨_,hq1⟩ 5 (by decide)) (ArgR.rw n14 n15 (RW.oth hq2 _))
    ·intro a x ls w' hS hsz hni hcl hun hin hout hd K hK
     have o:a.eval (.tmp 6) = .int .i64 (i:Int):=hout 6 (by kernel_rfl)
     clear hin hout
     exact hK w' _ o (hS.set 6 (by decide)) ArgR.refl
    ·intro a x ls w' hS hsz hni hcl hun hin hout hd K hK
     have i21:a.tmps.getD 21 undef = .int .i64 (i:Int):=(hin 21 6 (by kernel_rfl) (show 21<31 by decide)).trans (hd ⟨6,.data⟩ (by simp) rfl)
     have hwm:IntKind.i64.wrap (48+(i:Int))=48+(i:Int):=by rw [IntKind.wrap_i64];omega
     clear hin hout hd hcl hun
     have HS:=Lib.hid (hS.set 7 (by decide))
     clear hS
     go_simp
     exact hK w' _ rfl HS.out ArgR.refl
    ·intro a x ls w' hS hsz hni hcl hun hin hout hd K hK
     have i22:a.tmps.getD 22 undef = .int .i64 (48+(i:Int)):=(hin 22 7 (by kernel_rfl) (show 22<31 by decide)).trans (hd ⟨7,.data⟩ (by simp) rfl)
     have hwm:IntKind.u8.wrap (48+(i:Int))=48+(i:Int):=by rw [IntKind.wrap_u8];omega
     clear hin hout hd hcl hun
     have HS:=Lib.hid (hS.set 8 (by decide))
     clear hS
     go_simp
     exact hK w' _ rfl HS.out ArgR.refl
    ·intro a x ls w' hS hsz hni hcl hun hin hout hd K hK
     have i23:a.tmps.getD 23 undef = .int .u8 (48+(i:Int)):=(hin 23 8 (by kernel_rfl) (show 23<31 by decide)).trans (hd ⟨8,.data⟩ (by simp) rfl)
     have j23:=i23
     rw [Array.getD_eq_getD_getElem?] at j23
     have n14:=hcl.not 20 14 9 (by kernel_rfl) hni
     have n15:=hcl.not 20 15 9 (by kernel_rfl) hni
     have hw0:=(hS.2.2 n14).size
     clear hin hout hd hcl hun
     obtain ⟨r3,hp3⟩:=hS.1
     have HP3:=Lib.hid hp3
     have HS:=Lib.hid hS
     clear hp3 hS
     go_simp
     exact hK (w'.alloc (.cells #[.int .u8 (48+(i:Int))] 5)) (.slice (some ⟨w'.heap.size,0,none⟩) 1 1) ⟨_,rfl,hw0,by simp,(Blk.new w' #[.int .u8 (48+(i:Int))] 5).cell 0⟩ (HS.out.step (Oth.nx (nx0 _ _)) ⟨_,HP3.out.nx (nx0 _ _)⟩ 9 (by decide)) (ArgR.rw n14 n15 (RW.oth (Oth.nx (nx0 _ _)) _))
    ·intro a x ls w' hS hsz hni hcl hun hin hout hd K hK
     obtain ⟨g1,q1,q2,q3,q4⟩:=hd ⟨9,.data⟩ (by simp) rfl
     have i24:a.eval (.tmp 24) = .slice (some ⟨g1,0,none⟩) 1 1:=(hin 24 9 (by kernel_rfl) (show 24<31 by decide)).trans q1
     clear hin hout hd q1 hcl hun
     have hr:Rd bv w' (some ⟨g1,0,none⟩) [cx]:=by
      intro _
      refine ⟨g1,0,rfl,q3,fun j hj=>?_⟩
      obtain rfl:j=0:=by simp at hj;omega
      rw [show (0+0:Nat)=0 from rfl,q4]
      exact congrArg some hbc.out.symm
     have hrun:=conv_str (P:=Tryz.prog) w' 22 9 5 Tryz.underlying22 Tryz.underlying5 Tryz.underlying9 hr 1
     unfold Oper.wp execOp
     simp only [i24,Sem.run_bind,Sem.run_pure,Result.andThen_ok]
     rw [show ([cx]:List UInt8).length=1 from rfl] at hrun
     rw [hrun]
     exact hK w' _ rfl (hS.set 10 (by decide)) ArgR.refl
    ·intro a x ls w' hS hsz hni hcl hun hin hout hd K hK
     have i25:a.tmps.getD 25 undef = .string ⟨#[cx]⟩:=(hin 25 10 (by kernel_rfl) (show 25<31 by decide)).trans (hd ⟨10,.data⟩ (by simp) rfl)
     clear hin hout hd hcl hun
     have HS:=Lib.hid (hS.set 11 (by decide))
     clear hS
     go_simp
     exact hK w' _ rfl HS.out ArgR.refl
    ·intro a x ls w' hS hsz hni hcl hun hin hout hd K hK
     have i17:a.tmps.getD 17 undef = .int .i64 (1+(i:Int)):=(hin 17 2 (by kernel_rfl) (show 17<31 by decide)).trans (hd ⟨2,.data⟩ (by simp) rfl)
     obtain ⟨t,T,s1,s2,s3⟩:=hd ⟨5,.data⟩ (by simp) rfl
     have i20:a.tmps.getD 20 undef = .string t:=(hin 20 5 (by kernel_rfl) (show 20<31 by decide)).trans s1
     have i26:a.tmps.getD 26 undef = .string (⟨#[97]⟩++⟨#[cx]⟩):=(hin 26 11 (by kernel_rfl) (show 26<31 by decide)).trans (hd ⟨11,.data⟩ (by simp) rfl)
     have j17:=i17
     rw [Array.getD_eq_getD_getElem?] at j17
     have j20:=i20
     rw [Array.getD_eq_getD_getElem?] at j20
     have j26:=i26
     rw [Array.getD_eq_getD_getElem?] at j26
     have HA:=Lib.hid s2
     have HB2:=Lib.hid s3
     clear s1 s2 s3
     clear hin hout hd hcl hun
     have HS:=Lib.hid (hS.set 12 (by decide))
     clear hS
     go_simp
     exact hK w' _ ⟨t,T,rfl,HA.out,HB2.out⟩ HS.out ArgR.refl
    ·intro a x ls w' hS hsz hni hcl hun hin hout hd K hK
     obtain ⟨t,T,s1,s2,s3⟩:=hd ⟨12,.data⟩ (by simp) rfl
     have i27:a.tmps.getD 27 undef = .agg #[.bool true,.int .i64 (1+(i:Int)),.int .i64 0,.string t,.string (⟨#[97]⟩++⟨#[cx]⟩),.bool false,.int .i64 0,.int .i64 0,.int .u64 0,.string ⟨#[]⟩,.slice none 0 0]:=(hin 27 12 (by kernel_rfl) (show 27<31 by decide)).trans s1
     have e1:t=⟨T.toArray⟩:=s2.eq
     have e2:(⟨#[97]⟩:ByteArray)++⟨#[cx]⟩=⟨[97,cx].toArray⟩:=((Tx.of [97]).cat (Tx.of [cx])).eq
     rw [e1,e2] at i27
     have j27:=i27
     rw [Array.getD_eq_getD_getElem?] at j27
     have HT3:=Lib.hid s3
     have n14:=hcl.not 20 14 13 (by kernel_rfl) hni
     have n15:=hcl.not 20 15 13 (by kernel_rfl) hni
     have hw0:=(hS.2.2 n14).size
     clear s1 s2 s3 e1 e2
     clear hin hout hd hcl hun
     obtain ⟨r3,hp3⟩:=hS.1
     have HP3:=Lib.hid hp3
     have HS:=Lib.hid hS
     clear hp3 hS
     go_simp
     exact hK (w'.alloc (.cells (fldA ⟨true,1+(i:Int),0,T,[97,cx],false,conZ⟩) 75)) (.slice (some ⟨w'.heap.size,0,none⟩) 1 1) ⟨_,T,rfl,hw0,HT3.out,Blk.new w' _ _⟩ (HS.out.step (Oth.nx (nx0 _ _)) ⟨_,HP3.out.nx (nx0 _ _)⟩ 13 (by decide)) (ArgR.rw n14 n15 (RW.oth (Oth.nx (nx0 _ _)) _))
    ·intro a x ls w' hS hsz hni hcl hun hin hout hd K hK
     have i15:a.eval (.tmp 15)=LV:=(hin 15 0 (by kernel_rfl) (show 15<31 by decide)).trans (hd ⟨0,.data⟩ (by simp) rfl)
     obtain ⟨g,T,s1,s2,s3,s4⟩:=hd ⟨13,.data⟩ (by simp) rfl
     have i28:a.eval (.tmp 28) = .slice (some ⟨g,0,none⟩) 1 1:=(hin 28 13 (by kernel_rfl) (show 28<31 by decide)).trans s1
     have n14:ls.getD 14 false=false:=hcl.not 20 14 14 (by kernel_rfl) hni
     have n15:=hcl.not 20 15 14 (by kernel_rfl) hni
     have ho:=hS.2.2 n14
     obtain ⟨r3,hp3⟩:=hS.1
     have hlf2:LF w' (Fm B0) LV fs:=by rw [hLV];exact RepL.oth RF.lasts HLF.out ho hb0
     have hown:∀ k,LV.ownBlock=some k→B0≤k:=by rw [hLV];exact fun k e=>(HG.out k e).1
     refine op_appLx w' RF.lasts infoF Tryz.underlying53 rfl (by decide) (by decide) fldA_size (.tmp 15) (.tmp 28) rfl B0 b LV fs ⟨true,1+(i:Int),0,T,[97,cx],false,conZ⟩ ⟨true,1+(i:Int),0,T,[97,cx],false,con0⟩ i15 hlf2 ?_ g i28 (fun j _=>s4.cell j) ⟨rfl,rfl,rfl,rfl,rfl,rfl,rc_con0⟩ (by have:=HFL.out;omega) (Nat.le_trans (by have:=HO2.out.size;have:=HWB.out;omega) ho.size) hb0 ?_
     ·intro v hv
      simp [fldA,bt,conZ] at hv
      rcases hv with rfl | rfl | rfl | rfl | rfl | rfl | rfl | rfl | rfl | rfl | rfl <;> rfl
     ·intro v2 w2 hl2 hf2 hk2
      refine hK w2 v2 ⟨T,s3,hl2⟩ ⟨⟨_,hp3.keep fun k hk=>hk2 k (Nat.lt_of_le_of_lt hk hp3.lt) (fun e=>by have:=hown k e;omega)⟩,hS.2.1.trans (RW.fr hf2),fun e=>?_⟩ (ArgR.rw n14 n15 (RW.fr hf2))
      exfalso
      have h14:14<ls.size:=by rw [hsz];decide
      simp [h14] at e
    ·intro a x ls w' hS hsz hni hcl hun hin hout hd K hK
     have i29:a.eval (.tmp 29)=x 14:=hin 29 14 (by kernel_rfl) (show 29<31 by decide)
     have hv:=hd ⟨14,.data⟩ (by simp) rfl
     clear hin hout hun
     obtain ⟨X,hX⟩:∃ X,x 14=X:=⟨_,rfl⟩
     rw [hX] at i29 hv
     have j29:a.tmps.getD 29 undef=X:=i29
     have HS:=Lib.hid (hS.set 15 (by decide))
     have HV:=Lib.hid hv
     clear hS hv hd hcl
     go_simp
     exact hK w' _ HV.out HS.out ArgR.refl
    ·trivial
   ·intro A x ls w' hS hall hin hout hV hA
    have h15:=hV 15 (by decide)
    have hA2:=hA.out
    clear hA hin hout hV hall
    simp only [RI.setAll,List.toList_toArray,List.set_cons_succ,List.set_cons_zero,Nat.reduceAdd] at hA2
    obtain ⟨T,hT,hl3⟩:=h15
    obtain ⟨mA,mc,-,hx15,-,-,-,-,-⟩:=hl3.sl fldA_size
    rw [hx15] at hl3 hA2
    subst hA2
    have HL3:=Lib.hid hl3
    obtain ⟨r3,hp3⟩:=hS.1
    have HP3:=Lib.hid hp3
    have HO3:Hid (Oth b w w'):=hS.2.1.toOth HO2.out (by rw [hLV];exact fun k e=>(HG.out k e).1) (Nat.le_of_eq HWB.out)
    have HPA:Hid (PArg pre fs.length ⟨true,1+(i:Int),0,T,[97,cx],false,con0⟩):=by
     rw [HFL.out]
     exact ⟨T,hT,by rw [hcx.out]⟩
    clear hl3 hp3 hS hT hx15
    go_wp2_with fail
    go_roundw
    case rel=>exact ⟨i+1,fs++[(⟨true,1+(i:Int),0,T,[97,cx],false,con0⟩:Fld)],r3,by go_num,hlt,HP3.out,HL3.out,by rw [List.length_append,HFL.out];rfl,HALL.out.snoc HPA.out,HO3.out⟩
    case measure=>simp [intOf];omega
  ·have q1:decide ((i:Int)<(n:Int))=false:=decide_eq_false (by omega)
   have q2:¬ (i:Int)<(n:Int):=by omega
   have HRES:Hid (PArgsR pre b w B0 (.slice lA fs.length lc) wr):=⟨fs,r2,HLF.out,HALL.out,by have:=HFL.out;omega,HP2.out,HO2.out⟩
   clear hlt
   go_wp2_with fail
   go_ret
   exact ⟨_,rfl,HRES.out⟩
end Go.Proofs.YteclejplbphkpaaGreat
namespace Go.Proofs.YteclejplbphkpaaGreat
open Go.RowKit
def InB (B C:Nat) (g:Nat):Prop:=B≤g∧g<C
def NbB (B c:Nat) (g:Nat):Prop:=B≤g∧g≠c
section
variable {α β:Type} {f:α→Array Value} {k:Nat} {T:TypeId} {R:World→(Nat→Prop)→α→β→Prop}
theorem RepL.tight (hR:Lasts R) {B:Nat} {w:World} {v:Value} {l:List β} (h:RepL f k T R w (Fm B) v l):RepL f k T R w (InB B w.heap.size) v l :=
 h.mv hR ⟨fun _ _ _=>rfl,fun g hg hl=>⟨hg,hl⟩⟩
theorem RepL.keepIn (hR:Lasts R) {B C:Nat} {w w':World} {v:Value} {l:List β} (h:RepL f k T R w (InB B C) v l) (hk:∀ g,B≤g→g<C→w'.heap[g]? = w.heap[g]?):RepL f k T R w' (InB B C) v l :=
 h.mv hR ⟨fun g hg _=>hk g hg.1 hg.2,fun g hg _=>hg⟩
theorem RepL.keepNb (hR:Lasts R) {B c:Nat} {w w':World} {v:Value} {l:List β} (h:RepL f k T R w (NbB B c) v l) (hk:∀ g,B≤g→g≠c→g<w.heap.size→w'.heap[g]? = w.heap[g]?):RepL f k T R w' (NbB B c) v l :=
 h.mv hR ⟨fun g hg hl=>hk g hg.1 hg.2 hl,fun g hg _=>hg⟩
theorem RepL.wide (hR:Lasts R) {P Q:Nat→Prop} {w:World} {v:Value} {l:List β} (h:RepL f k T R w P v l) (hq:∀ g,P g→g<w.heap.size→Q g):RepL f k T R w Q v l :=
 h.mv hR ⟨fun _ _ _=>rfl,hq⟩
theorem RepL.built (hf:∀ x,(f x).size=k) {w:World} {P:Nat→Prop} {g:Nat} {cs:Array Value} {xs:List α} {l:List β} (hcs:cs.toList=rowL f xs) (hg:w.heap[g]? = some (.cells cs T (0,0))) (hP:P g) (hmax:xs.length≤maxLen)
  (hall:All2 (R w (But P (.slice (some ⟨g,0,none⟩) xs.length xs.length))) xs l):RepL f k T R w P (.slice (some ⟨g,0,none⟩) xs.length xs.length) l:=by
 refine ⟨xs,⟨⟨rowL_length hf xs,.inr ⟨g,xs.length,cs,rfl,Nat.zero_le _,hg,Nat.le_refl _,hmax,?_,?_⟩⟩,fun g' e=>?_⟩,hall⟩
 ·rw [← Array.length_toList,hcs,rowL_length hf]
 ·rw [hcs,← rowL_length hf xs,List.take_length]
 ·cases e;exact hP
end
theorem ply_ne {w:World} {α:Type} {f:α→Array Value} {k:Nat} {T:TypeId} {B:Nat} {v:Value} {xs:List α} (h:OwnS f k T w B v xs) {g:Nat} {cs:Array Value} {T':TypeId} {fr:Nat×Nat} (hg:w.heap[g]? = some (.cells cs T' fr)) (hT:T'≠T):v.ownBlock≠some g:=by
 intro e
 obtain ⟨-,h2⟩:=h
 rcases h2 with ⟨rfl,-⟩ | ⟨g',cap,cur,rfl,-,hh,-⟩
 ·cases e
 ·cases e
  rw [hg] at hh
  simp at hh
  exact hT hh.2.1
theorem RC.ne {w:World} {g:Nat} {cs:Array Value} {T':TypeId} {fr:Nat×Nat} (hg:w.heap[g]? = some (.cells cs T' fr)) (hT:T'≠44):∀ (n:Nat) {P:Nat→Prop} {x:ConS} {c:Con},RC n w P x c→RC n w (fun g'=>P g'∧g'≠g) x c
 | 0,_,_,_,h=>h
 | n+1,P,x,c,h=>by
  obtain ⟨l,e,ys,h1,h2⟩:=RC.of h
  subst e
  refine RC.mk ⟨ys,⟨h1.1,fun g' e=>⟨h1.2 g' e,fun h0=>ply_ne h1.1 hg hT (by rw [e,h0])⟩⟩,h2.mono fun y d hy=>?_⟩
  exact RC.lasts n (P:=fun g'=>But P x.l g'∧g'≠g) ⟨fun _ _ _=>rfl,fun g' hg' _=>⟨⟨hg'.1.1,hg'.2⟩,hg'.1.2⟩⟩ (RC.ne hg hT n hy)
theorem LF.ne {w:World} {g:Nat} {cs:Array Value} {T':TypeId} {fr:Nat×Nat} (hg:w.heap[g]? = some (.cells cs T' fr)) (hT:T'≠44) (hT2:T'≠75) {P:Nat→Prop} {v:Value} {l:List Fld} (h:LF w P v l):LF w (fun g'=>P g'∧g'≠g) v l:=by
 obtain ⟨ys,h1,h2⟩:=h
 refine ⟨ys,⟨h1.1,fun g' e=>⟨h1.2 g' e,fun h0=>ply_ne h1.1 hg hT2 (by rw [e,h0])⟩⟩,h2.mono fun y d hy=>?_⟩
 obtain ⟨a1,a2,a3,a4,a5,a6,a7⟩:=hy
 exact ⟨a1,a2,a3,a4,a5,a6,RC.lasts 13 (P:=fun g'=>But P v g'∧g'≠g) ⟨fun _ _ _=>rfl,fun g' hg' _=>⟨⟨hg'.1.1,hg'.2⟩,hg'.1.2⟩⟩ (RC.ne hg hT 13 a7)⟩
end Go.Proofs.YteclejplbphkpaaGreat
