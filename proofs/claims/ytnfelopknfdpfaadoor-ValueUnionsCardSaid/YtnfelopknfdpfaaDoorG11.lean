/- A region that draws its order, holds calls that make memory, and writes what was there (an append, a store): calm operations that read memory come ahead of all that write; those that read none may come at any time. Plain. value's hasRequired, areOf, hasFields. value's areOf: each field of a value is one of the struct's, with a value of its type. -/
import Derived.Test.YtnfelopknfdpfaaDoorG00
import Derived.Test.YtnfelopknfdpfaaDoorG10
import Derived.Test.YtnfelopknfdpfaaDoorShelf
set_option linter.unusedVariables false
set_option linter.unusedSimpArgs false
set_option linter.unnecessarySimpa false
namespace Go.Proofs.YtnfelopknfdpfaaDoor
open Go.RowKit
namespace EH
section
variable {ex:List Nat} {P:Program} {ops:Array Oper} {md:Region.Mode}
def calmA (P:Program) (o:Oper) (a:Act) (next:Act→Prop):Prop :=
 ∃ v,(∀ x:World,o.quietAt P a (fun w''=>w''=x) x v)∧next (a.put o.dst v)
def YA (P:Program) (ops:Array Oper) (o:Oper) (v:Value) (a:Act):Prop:=∀ w,YG P ops w o v a
theorem YA.of_same {o:Oper} {v:Value} {a a':Act} (hy:YA P ops o v a) (he:execOp a'.eval o=execOp a.eval o)
  (hw:Region.wanted o (yielded ops a'.tmps)=Region.wanted o (yielded ops a.tmps)):YA P ops o v a':=fun w=>(hy w).of_same he hw
theorem gOp_putA {j:Nat} {w:World} {oi oj:Oper} {v:Value} (hj:ops[j]? = some oj) (hap:oi.apart ops oj=true)
  (hsi:∀ cs b,oi.op≠.select cs b) (hsj:∀ cs b,oj.op≠.select cs b) {K:Act→World→Prop} {a:Act}
  (hy:YA P ops oi v a) (h:gOp P ops j K (a.put oi.dst v) w) :
  gOp P ops j (fun a' w'=>YA P ops oi v a'∧K (a'.put oi.dst v) w') a w:=by
 obtain ⟨h1,h2,h3⟩:=Oper.apart_spec hap
 have keep:∀ u,YA P ops oi v (a.put oj.dst u):=fun u =>
  hy.of_same (execOp_put oi hsi a oj.dst u h3) (wanted_put oi a oj.dst u h3)
 have pc:∀ u,(a.put oi.dst v).put oj.dst u=(a.put oj.dst u).put oi.dst v:=fun u=>Act.put_comm a v u h2
 unfold Go.Proofs.YtnfelopknfdpfaaDoor.gOp at *
 simp only [hj] at *
 rw [wanted_put oj a oi.dst v h1] at h
 split
 ·rename_i hw
  simp only [hw,if_true] at h
  unfold Oper.wp at *
  rw [execOp_put oj hsj a oi.dst v h1] at h
  generalize (execOp a.eval oj).run P w=r at *
  cases r with
  | ok n w' =>
   cases n <;> simp only [Oper.upon] at h ⊢
   case value u=>exact ⟨keep u,by rw [← pc];exact h⟩
   case skip=>exact ⟨keep _,by rw [← pc];exact h⟩
   case defer d =>
    have hd:(a.put oi.dst v).defers=a.defers:=by cases oi.dst <;> rfl
    rw [hd,defers_put,pc] at h
    rw [defers_put]
    refine ⟨(keep undef).of_same rfl rfl,?_⟩
    rw [defers_put]
    exact h
   case enter f args =>
    refine h.mono fun e w'' he=>?_
    cases e with
    | returned u=>exact ⟨keep u,by rw [← pc];exact he⟩
    | panicked c=>exact he.elim
    | outgrown=>exact absurd he (by simp [LetsOut])
   case row r args=>exact h.mono fun u w'' he=>⟨keep u,by rw [← pc];exact he⟩
  | halt x w'=>cases x <;> simp only [Oper.upon] at h
 ·rename_i hw
  simp only [hw] at h
  exact ⟨keep _,by rw [← pc];exact h⟩
def GA (ex:List Nat) (P:Program) (md:Region.Mode) (ops:Array Oper) (Q:Act→World→Prop):Nat→Array Bool→Act→World→Prop
 | 0,listed,a,w=>Region.ready md ops listed=[]∧∀ w1,Nx w w1→Q a w1
 | f+1,listed,a,w=>∀ w1,Nx w w1→(Region.ready md ops listed=[]→Q a w1) ∧
   ∀ i ∈ Region.ready md ops listed,gOp P ops i (fun a' w'=>(i ∈ ex∨Nx w1 w')∧GA ex P md ops Q f (listed.setIfInBounds i true) a' w') a w1
theorem GA.grow {Q:Act→World→Prop} {f:Nat} {listed:Array Bool} {a:Act} {w w1:World} (h:GA ex P md ops Q f listed a w) (hn:Nx w w1):GA ex P md ops Q f listed a w1:=by
 cases f with
 | zero=>exact ⟨h.1,fun w2 h2=>h.2 w2 (hn.trans h2)⟩
 | succ f=>exact fun w2 h2=>h w2 (hn.trans h2)
theorem wpAny_of_GA {Q:Act→World→Prop} {Q':Exit→Act→World→Prop} (hQ:∀ a w,Q a w→Q' .normal a w):∀ (f:Nat) (listed:Array Bool) (a:Act) (w:World),
  GA ex P md ops Q f listed a w→wpAny P md ops Q' f listed a w
 | 0,_,_,w,h=>⟨h.1,hQ _ _ (h.2 w (Nx.refl w))⟩
 | f+1,listed,a,w,h=>by
  refine ⟨fun h0=>hQ _ _ ((h w (Nx.refl w)).1 h0),fun i hi=>?_⟩
  have:=(h w (Nx.refl w)).2 i hi
  unfold gOp at this
  unfold wpOp
  split
  ·rename_i ho;simp only [ho] at this;exact wpAny_of_GA hQ f _ _ _ this.2
  ·rename_i o ho
   simp only [ho] at this
   split
   ·rename_i hw;simp only [hw,if_true] at this;exact .inl (wp_mono_both (fun a' w' h'=>wpAny_of_GA hQ f _ _ _ h'.2) this trivial)
   ·rename_i hw;simp only [hw] at this;exact wpAny_of_GA hQ f _ _ _ this.2
theorem GA_first {Q:Act→World→Prop} {i:Nat} {oi:Oper} {v:Value} (hi:ops[i]? = some oi) (hsel:∀ (j:Nat) (o:Oper) cs b,ops[j]? = some o→o.op≠.select cs b)
  (D:Nat→Bool) (hD1:∀ e ∈ ex,D e=true) (hD2:∀ j o,ops[j]? = some o→D j=true→∃ e ∈ o.after,Region.binds md e=true∧(e.on=i∨D e.on=true)) :
  ∀ (f:Nat) (listed:Array Bool) (a:Act) (w:World),
   (∀ j oj,ops[j]? = some oj→j≠i→listed.getD j true=false→(∀ e ∈ oj.after,Region.binds md e=true→e.on≠i)→oi.apart ops oj=true) →
   (∀ j,D j=true→listed.getD j true=false) →
   i ∈ Region.ready md ops listed→YG P ops w oi v a →
   GA ex P md ops Q f (listed.setIfInBounds i true) (a.put oi.dst v) w→GA ex P md ops Q (f+1) listed a w:=by
 intro f
 induction f with
 | zero =>
  intro listed a w _ _ hr hy H w1 hn
  refine ⟨fun h=>(by rw [h] at hr;cases hr),fun j hj=>?_⟩
  by_cases hji:j=i
  ·subst hji;exact (hy.grow hn).gOp hi ⟨.inr (Nx.refl _),H.grow hn⟩
  ·have:=ready_mono hj hji
   rw [H.1] at this
   cases this
 | succ f ih =>
  intro listed a w hfree hl hr hy H w1 hn
  refine ⟨fun h=>(by rw [h] at hr;cases hr),fun j hj=>?_⟩
  by_cases hji:j=i
  ·subst hji;exact (hy.grow hn).gOp hi ⟨.inr (Nx.refl _),H.grow hn⟩
  ·have h1:=(H w1 hn).2 j (ready_mono hj hji)
   obtain ⟨hjun,oj,hoj,hall⟩:=mem_ready.1 hj
   have hnot:∀ e ∈ oj.after,Region.binds md e=true→e.on≠i:=fun e he hb heq=>by
    have h1:=hall e he hb
    have h0:=(mem_ready.1 hr).1
    rw [heq] at h1
    rcases Nat.lt_or_ge i listed.size with h' | h'
    ·simp [h'] at h0 h1;rw [h0] at h1;cases h1
    ·simp [Array.getElem?_eq_none h'] at h1
   have h2:=gOp_put hoj (hfree j oj hoj hji hjun hnot) (fun cs b=>hsel i oi cs b hi) (fun cs b=>hsel j oj cs b hoj) (hy.grow hn) h1
   have hfree':∀ k ok,ops[k]? = some ok→k≠i→(listed.setIfInBounds j true).getD k true=false →
     (∀ e ∈ ok.after,Region.binds md e=true→e.on≠i)→oi.apart ops ok=true:=fun k ok hk hki hun hno=>by
    refine hfree k ok hk hki ?_ hno
    by_cases hjk:j=k
    ·subst hjk;exact hjun
    ·rw [getD_set_ne true hjk] at hun;exact hun
   have hjD:D j=false:=by
    rw [Bool.eq_false_iff]
    intro hd
    obtain ⟨e,he,hb,heq⟩:=hD2 j oj hoj hd
    rcases heq with heq | heq
    ·exact hnot e he hb heq
    ·have h1:=hall e he hb
     have h0:=hl _ heq
     rcases Nat.lt_or_ge e.on listed.size with h' | h'
     ·simp [h'] at h0 h1;rw [h0] at h1;cases h1
     ·simp [Array.getElem?_eq_none h'] at h1
   have hjst:¬ j ∈ ex:=fun hm=>by rw [hD1 j hm] at hjD;cases hjD
   have hl':∀ k,D k=true→(listed.setIfInBounds j true).getD k true=false:=fun k hk=>by
    have hne:j≠k:=by rintro rfl;rw [hk] at hjD;cases hjD
    rw [getD_set_ne true hne];exact hl k hk
   refine gOp_mono (fun a' w' h3=>have hN:=h3.2.1.resolve_left hjst;⟨.inr hN,ih (listed.setIfInBounds j true) a' w' hfree' hl' (ready_mono hr (Ne.symm hji)) (h3.1.grow hN) ?_⟩) h2
   rw [Array.setIfInBounds_comm _ _ hji]
   exact h3.2.2
theorem GA_firstA {Q:Act→World→Prop} {i:Nat} {oi:Oper} {v:Value} (hi:ops[i]? = some oi) (hsel:∀ (j:Nat) (o:Oper) cs b,ops[j]? = some o→o.op≠.select cs b) :
  ∀ (f:Nat) (listed:Array Bool) (a:Act) (w:World),
   (∀ j oj,ops[j]? = some oj→j≠i→listed.getD j true=false→(∀ e ∈ oj.after,Region.binds md e=true→e.on≠i)→oi.apart ops oj=true) →
   i ∈ Region.ready md ops listed→YA P ops oi v a →
   GA ex P md ops Q f (listed.setIfInBounds i true) (a.put oi.dst v) w→GA ex P md ops Q (f+1) listed a w:=by
 intro f
 induction f with
 | zero =>
  intro listed a w _ hr hy H w1 hn
  refine ⟨fun h=>(by rw [h] at hr;cases hr),fun j hj=>?_⟩
  by_cases hji:j=i
  ·subst hji;exact (hy w1).gOp hi ⟨.inr (Nx.refl _),H.grow hn⟩
  ·have:=ready_mono hj hji
   rw [H.1] at this
   cases this
 | succ f ih =>
  intro listed a w hfree hr hy H w1 hn
  refine ⟨fun h=>(by rw [h] at hr;cases hr),fun j hj=>?_⟩
  by_cases hji:j=i
  ·subst hji;exact (hy w1).gOp hi ⟨.inr (Nx.refl _),H.grow hn⟩
  ·have h1:=(H w1 hn).2 j (ready_mono hj hji)
   obtain ⟨hjun,oj,hoj,hall⟩:=mem_ready.1 hj
   have hnot:∀ e ∈ oj.after,Region.binds md e=true→e.on≠i:=fun e he hb heq=>by
    have h1:=hall e he hb
    have h0:=(mem_ready.1 hr).1
    rw [heq] at h1
    rcases Nat.lt_or_ge i listed.size with h' | h'
    ·simp [h'] at h0 h1;rw [h0] at h1;cases h1
    ·simp [Array.getElem?_eq_none h'] at h1
   have h2:=gOp_putA hoj (hfree j oj hoj hji hjun hnot) (fun cs b=>hsel i oi cs b hi) (fun cs b=>hsel j oj cs b hoj) hy h1
   have hfree':∀ k ok,ops[k]? = some ok→k≠i→(listed.setIfInBounds j true).getD k true=false →
     (∀ e ∈ ok.after,Region.binds md e=true→e.on≠i)→oi.apart ops ok=true:=fun k ok hk hki hun hno=>by
    refine hfree k ok hk hki ?_ hno
    by_cases hjk:j=k
    ·subst hjk;exact hjun
    ·rw [getD_set_ne true hjk] at hun;exact hun
   refine gOp_mono (fun a' w' h3=>⟨h3.2.1,ih (listed.setIfInBounds j true) a' w' hfree' (ready_mono hr (Ne.symm hji)) h3.1 ?_⟩) h2
   rw [Array.setIfInBounds_comm _ _ hji]
   exact h3.2.2
def wpHyb (ex:List Nat) (P:Program) (ops:Array Oper) (Q:Act→World→Prop):List (Nat×Nat)→Act→World→Prop
 | [],a,w=>∀ w1,Nx w w1→Q a w1
 | (k,0) :: rest,a,w=>∀ w1,Nx w w1→match ops[k]? with
  | none=>False
  | some o=>if Region.wanted o (yielded ops a.tmps) then o.wp P a w1 (fun a' w'=>(k ∈ ex∨Nx w1 w')∧wpHyb ex P ops Q rest a' w') (fun _ _ _=>False) else wpHyb ex P ops Q rest (a.put o.dst undef) w1
 | (k,1) :: rest,a,w=>match ops[k]? with
  | none=>False
  | some o=>if Region.wanted o (yielded ops a.tmps) then calm P o a w (fun a'=>wpHyb ex P ops Q rest a' w) else wpHyb ex P ops Q rest (a.put o.dst undef) w
 | (k,_+2) :: rest,a,w=>match ops[k]? with
  | none=>False
  | some o=>if Region.wanted o (yielded ops a.tmps) then calmA P o a (fun a'=>wpHyb ex P ops Q rest a' w) else wpHyb ex P ops Q rest (a.put o.dst undef) w
def dep (md:Region.Mode) (ops:Array Oper) (k:Nat):Nat→Nat→Bool
 | 0,_=>false
 | f+1,j=>match ops[j]? with
  | some o=>o.after.any (fun e=>Region.binds md e && (e.on == k || dep md ops k f e.on))
  | none=>false
def edge (ex:List Nat) (md:Region.Mode) (ops:Array Oper) (k:Nat) (listed:Array Bool):Bool :=
 ex.all (fun st=>dep md ops k ops.size st) && (List.range ops.size).all (fun j=>!dep md ops k ops.size j || ((match ops[j]? with | some o=>o.after.any (fun e=>Region.binds md e && (e.on == k || dep md ops k ops.size e.on)) | none=>false) && !listed.getD j true))
theorem edge_spec {k:Nat} {listed:Array Bool} (h:edge ex md ops k listed=true):(∀ st ∈ ex,dep md ops k ops.size st=true)∧(∀ j o,ops[j]? = some o→dep md ops k ops.size j=true→∃ e ∈ o.after,Region.binds md e=true∧(e.on=k∨dep md ops k ops.size e.on=true))∧∀ j,dep md ops k ops.size j=true→listed.getD j true=false:=by
 unfold edge at h
 simp only [Bool.and_eq_true,List.all_eq_true,List.mem_range] at h
 obtain ⟨h1,h2⟩:=h
 have hlt:∀ j,dep md ops k ops.size j=true→j<ops.size:=by
  intro j hj
  rcases Nat.lt_or_ge j ops.size with h | h
  ·exact h
  ·exfalso
   generalize ops.size=f at hj
   cases f with
   | zero=>cases hj
   | succ f=>unfold dep at hj;rw [Array.getElem?_eq_none h] at hj;cases hj
 refine ⟨h1,fun j o ho hj=>?_,fun j hj=>?_⟩
 ·have:=h2 j (hlt j hj)
  rw [hj,ho] at this
  simp only [Bool.not_true,Bool.false_or,Bool.and_eq_true] at this
  obtain ⟨e,he,hb⟩:=Array.any_eq_true'.1 this.1
  simp only [Bool.and_eq_true,Bool.or_eq_true,beq_iff_eq] at hb
  exact ⟨e,he,hb.1,hb.2⟩
 ·have:=h2 j (hlt j hj)
  rw [hj] at this
  simp only [Bool.not_true,Bool.false_or,Bool.and_eq_true,Bool.not_eq_true'] at this
  exact this.2
def hybFrom (ex:List Nat) (md:Region.Mode) (ops:Array Oper):List (Nat×Nat)→Array Bool→Bool
 | [],listed=>(Region.ready md ops listed).isEmpty
 | (k,0) :: rest,listed=>Region.ready md ops listed == [k] && hybFrom ex md ops rest (listed.setIfInBounds k true)
 | (k,1) :: rest,listed=>(Region.ready md ops listed).contains k && Region.free md ops listed k && edge ex md ops k listed && hybFrom ex md ops rest (listed.setIfInBounds k true)
 | (k,_+2) :: rest,listed=>(Region.ready md ops listed).contains k && Region.free md ops listed k && hybFrom ex md ops rest (listed.setIfInBounds k true)
def hybB (ex:List Nat) (md:Region.Mode) (ops:Array Oper) (s:List (Nat×Nat)):Bool:=Region.noSelect ops && s.length == ops.size && hybFrom ex md ops s (Array.replicate ops.size false)
theorem GA_hyb {Q:Act→World→Prop} (hs:Region.noSelect ops=true):∀ (s:List (Nat×Nat)) (listed:Array Bool) (a:Act) (w:World),
  hybFrom ex md ops s listed=true→wpHyb ex P ops Q s a w→GA ex P md ops Q s.length listed a w
 | [],listed,a,w,hB,h=>⟨by simpa [hybFrom] using hB,h⟩
 | (k,1) :: rest,listed,a,w,hB,h=>by
  simp only [hybFrom,Bool.and_eq_true] at hB
  obtain ⟨⟨⟨hr,hf⟩,hed⟩,hB'⟩:=hB
  have hr':k ∈ Region.ready md ops listed:=by simpa using hr
  obtain ⟨_,o,ho,_⟩:=mem_ready.1 hr'
  simp only [wpHyb,ho] at h
  by_cases hw:Region.wanted o (yielded ops a.tmps)=true
  ·simp only [hw,if_true] at h
   obtain ⟨v,h1,h2⟩:=h
   exact GA_first ho (Region.noSelect_spec hs) _ (edge_spec hed).1 (edge_spec hed).2.1 rest.length listed a w (Region.free_spec ho hf) (edge_spec hed).2.2 hr' (.inl ⟨hw,h1⟩) (GA_hyb hs rest _ _ _ hB' h2)
  ·simp only [hw] at h
   exact GA_first ho (Region.noSelect_spec hs) _ (edge_spec hed).1 (edge_spec hed).2.1 rest.length listed a w (Region.free_spec ho hf) (edge_spec hed).2.2 hr' (.inr ⟨by simpa using hw,rfl⟩) (GA_hyb hs rest _ _ _ hB' h)
 | (k,n+2) :: rest,listed,a,w,hB,h=>by
  simp only [hybFrom,Bool.and_eq_true] at hB
  obtain ⟨⟨hr,hf⟩,hB'⟩:=hB
  have hr':k ∈ Region.ready md ops listed:=by simpa using hr
  obtain ⟨_,o,ho,_⟩:=mem_ready.1 hr'
  simp only [wpHyb,ho] at h
  by_cases hw:Region.wanted o (yielded ops a.tmps)=true
  ·simp only [hw,if_true] at h
   obtain ⟨v,h1,h2⟩:=h
   exact GA_firstA ho (Region.noSelect_spec hs) rest.length listed a w (Region.free_spec ho hf) hr' (fun w=>.inl ⟨hw,fun x=>h1 x.1⟩) (GA_hyb hs rest _ _ _ hB' h2)
  ·simp only [hw] at h
   exact GA_firstA ho (Region.noSelect_spec hs) rest.length listed a w (Region.free_spec ho hf) hr' (fun w=>.inr ⟨by simpa using hw,rfl⟩) (GA_hyb hs rest _ _ _ hB' h)
 | (k,0) :: rest,listed,a,w,hB,h=>by
  simp only [hybFrom,Bool.and_eq_true,beq_iff_eq] at hB
  obtain ⟨hr,hB'⟩:=hB
  intro w1 hn
  refine ⟨fun h0=>(by rw [hr] at h0;cases h0),fun i hi=>?_⟩
  rw [hr] at hi
  obtain rfl:i=k:=by simpa using hi
  have h:=h w1 hn
  unfold gOp
  cases ho:ops[i]? with
  | none=>rw [ho] at h;exact h.elim
  | some o =>
   rw [ho] at h
   simp only at h ⊢
   by_cases hw:Region.wanted o (yielded ops a.tmps)=true
   ·simp only [hw,if_true] at h ⊢
    exact wp_mono_both (fun a' w' h'=>⟨h'.1,GA_hyb hs rest _ _ _ hB' h'.2⟩) h trivial
   ·simp only [hw] at h ⊢
    exact ⟨.inr (Nx.refl _),GA_hyb hs rest _ _ _ hB' h⟩
structure Hyb (ex:List Nat) (P:Program) (ops:Array Oper) (Q:Act→World→Prop) (s:List (Nat×Nat)) (a:Act) (w:World):Prop where
 out:wpHyb ex P ops Q s a w
theorem wp_region_hyb {id:Nat} {Q:Exit→Act→World→Prop} {a:Act} {w:World} {l:List Oper} (ex:List Nat) (s:List (Nat×Nat)) (hm:P.follows .mixedOrders=true) (hB:hybB ex .any l.toArray s=true)
  (h:Hyb ex P l.toArray (fun a w=>Q .normal a w) s a w):(Code.region id l.toArray true).wp P Q a w:=by
 simp only [hybB,Bool.and_eq_true,beq_iff_eq] at hB
 obtain ⟨⟨h1,h2⟩,h3⟩:=hB
 refine wp_region_any hm (wpAny_of_GA (ex:=ex) (Q:=fun a w=>Q .normal a w) (fun _ _ h=>h) _ _ _ _ ?_)
 have:=GA_hyb (ex:=ex) (md:=.any) h1 s _ _ _ h3 h.out
 rw [h2] at this
 exact this.grow (Nx.drawn w)
theorem hyb_calm {Q:Act→World→Prop} {k:Nat} {o:Oper} {rest:List (Nat×Nat)} {a:Act} {w:World} (ho:ops[k]? = some o)
  (h:∀ K:Act→Prop,(∀ a,Hyb ex P ops Q rest a w→K a)→if Region.wanted o (yielded ops a.tmps) then calm P o a w K else K (a.put o.dst undef)):Hyb ex P ops Q ((k,1) :: rest) a w:=by
 refine ⟨?_⟩
 simp only [wpHyb,ho]
 exact h _ (fun _ h=>h.out)
theorem hyb_pure {Q:Act→World→Prop} {k:Nat} {o:Oper} {rest:List (Nat×Nat)} {a:Act} {w:World} (ho:ops[k]? = some o)
  (h:∀ K:Act→Prop,(∀ a,Hyb ex P ops Q rest a w→K a)→if Region.wanted o (yielded ops a.tmps) then calmA P o a K else K (a.put o.dst undef)):Hyb ex P ops Q ((k,2) :: rest) a w:=by
 refine ⟨?_⟩
 simp only [wpHyb,ho]
 exact h _ (fun _ h=>h.out)
theorem hyb_alone {Q:Act→World→Prop} {k:Nat} {o:Oper} {rest:List (Nat×Nat)} {a:Act} {w:World} (ho:ops[k]? = some o)
  (h:∀ w1,Nx w w1→∀ K:Act→World→Prop,(∀ a' w',(k ∈ ex∨Nx w1 w')→Hyb ex P ops Q rest a' w'→K a' w')→if Region.wanted o (yielded ops a.tmps) then o.wp P a w1 K (fun _ _ _=>False) else K (a.put o.dst undef) w1):Hyb ex P ops Q ((k,0) :: rest) a w:=by
 refine ⟨?_⟩
 intro w1 hn
 simp only [ho]
 have:=h w1 hn (fun a' w'=>(k ∈ ex∨Nx w1 w')∧wpHyb ex P ops Q rest a' w') (fun a' w' h1 h2=>⟨h1,h2.out⟩)
 split
 ·rename_i hw;simpa [hw] using this
 ·rename_i hw;simp [hw] at this;exact this.2
theorem hyb_nil {Q:Act→World→Prop} {a:Act} {w:World} (h:∀ w1,Nx w w1→Q a w1):Hyb ex P ops Q [] a w:=⟨h⟩
end
attribute [go_sem] calmA
end EH
end Go.Proofs.YtnfelopknfdpfaaDoor
namespace Go.Proofs.YtnfelopknfdpfaaDoor
open Go.RowKit
theorem bs_any (w:World) (A:Option Addr) (n c:Nat) (l:List Int) (hn:l.length=n) (hn9:n≤1000) (hr:Rd (Value.int .i64) w A l) (ha:ascB l=true) (x:Int) :
  Calls Tryd.prog 40 #[.slice A n c,.int .i64 x] w fun e w'=>∃ P:Nat,e = .returned (.tuple #[.int .i64 (P:Int),.bool (decide (x ∈ l))])∧Nx w w':=by
 by_cases h0:n=0
 ·subst h0
  obtain rfl:l=[]:=List.eq_nil_of_length_eq_zero hn
  refine (Tryd.slices_BinarySearch_int_empty A c x w).mono ?_
  rintro e w' ⟨rfl,rfl⟩
  exact ⟨0,rfl,Nx.refl _⟩
 ·obtain ⟨b,off,rfl,hb,hc⟩:=hr (by omega)
  have hp:l.Pairwise (· < ·):=of_decide_eq_true ha
  have ht:l.take n=l:=List.take_of_length_le (by omega)
  refine (Tryd.slices_BinarySearch_int b off n c l x w (by omega) (by omega) (fun j hj=>by rw [hc j hj,List.getD_eq_getElem?_getD,List.getElem?_eq_getElem hj];rfl) (by rw [ht];exact hp.imp fun h=>Int.le_of_lt h)).mono ?_
  rintro e w' ⟨rfl,q,rfl⟩
  rw [ht]
  refine ⟨l.countP (· < x),?_,(Nx.refl w).dr q⟩
  rw [show l.contains x=decide (x ∈ l) from by rw [Bool.eq_iff_iff];simp]
def reqB (fs:List FldP) (ids:List Int):Bool:=fs.all (fun f=>!decide (f.req=1) || decide (f.id ∈ ids))
set_option maxRecDepth 100000 in
set_option maxHeartbeats 6400000 in
theorem hasReq_any (w:World) (K:Int) (nm:List UInt8) (fl:Value) (fs:List FldS) (hf:RdFs w fl fs) (A:Option Addr) (n c:Nat) (l:List Int) (hl:l.length=n) (hl9:n≤1000) (hr:Rd (Value.int .i64) w A l) (ha:ascB l=true) :
  Calls Tryd.prog 28 #[.agg #[.int .i64 K,.string ⟨nm.toArray⟩,fl],.slice A n c] w fun e w'=>e = .returned (.bool (reqB (fs.map pF) l))∧Nx w w':=by
 obtain ⟨⟨fA,fc,rfl,hf1,hf2,hf3⟩,hf4,hf5,hf6⟩:=hf
 obtain ⟨M,hM⟩:∃ n,fs.length=n:=⟨_,rfl⟩
 rw [hM] at hf1 hf4 ⊢
 have HN:=Lib.hid hM
 have HF:=Lib.hid hf3
 have HS:=Lib.hid hf6
 have HBS:Hid (∀ wx,Nx w wx→∀ x,Calls Tryd.prog 40 #[.slice A n c,.int .i64 x] wx fun e w'=>∃ P:Nat,e = .returned (.tuple #[.int .i64 (P:Int),.bool (decide (x ∈ l))])∧Nx wx w'):=fun wx hx x=>bs_any wx A n c l hl hl9 (hr.below hx) ha x
 obtain ⟨R,hR⟩:∃ R,reqB (fs.map pF) l=R:=⟨_,rfl⟩
 have HR:=Lib.hid hR
 rw [hR]
 obtain ⟨g1,hg1⟩:∃ g,w.heap.size=g:=⟨_,rfl⟩
 obtain ⟨w1,hw1⟩:∃ x,w.alloc (.cells #[.int .i64 K,.string ⟨nm.toArray⟩,.slice fA M fc] 48)=x:=⟨_,rfl⟩
 have hn1:Nx w w1:=by rw [← hw1];exact nx0 _ _
 have hb1:Blk w1 g1 g1 #[.int .i64 K,.string ⟨nm.toArray⟩,.slice fA M fc] 48:=by rw [← hw1,← hg1];exact Blk.new w _ _
 have a2:w1.cell? ⟨g1,2,none⟩=some (.slice fA M fc):=hb1.cell 2
 have HN1:=Lib.hid hn1
 clear hf3 hf5 hf6 hM hr ha hl hR hn1 hb1
 go_enter Tryd.func28,Tryd.ntmps28
 go_upto_region 1 with (fail)
 try rw [hw1]
 clear hw1 hg1
 go_wp2_with fail
 clear a2
 go_loopw [12] (fun v wr=>∃ i:Nat,v = .int .i64 (i:Int)∧i≤M∧Hid (Nx w wr)∧Hid (reqB ((fs.map pF).take i) l=true)) (fun v _=>(M - intOf v).toNat)
 case atStart=>exact ⟨0,rfl,Nat.zero_le _,HN1.out,rfl⟩
 case round =>
  clear HN1
  obtain ⟨i,rfl,hi,HNX,HQ⟩:=hrel
  have hi9:(i:Int)≤20:=by omega
  by_cases hlt:i<M
  ·have q1:decide ((i:Int)<(M:Int))=true:=decide_eq_true (by omega)
   have q2:(i:Int)<(M:Int):=by omega
   have q3:(0:Int)≤(i:Int):=by omega
   have hif:i<fs.length:=by rw [HN.out];exact hlt
   obtain ⟨g,off,rfl,hg,hc⟩:=HF.out (by omega)
   obtain ⟨f,hfe⟩:∃ f,fs[i]=f:=⟨_,rfl⟩
   obtain ⟨-,⟨lA,lu,lc,hll⟩,⟨dA,du,dc,hd⟩⟩:=HS.out f (hfe ▸ List.getElem_mem hif)
   have hcc:∀ q,q<10→wr.cell? ⟨g,off+i * 10+q,none⟩=(fldA f)[q]?:=fun q hq=>by
    rw [← hfe,← hc i hif q hq]
    exact HNX.out.cell (p:=⟨g,off+i * 10+q,none⟩) hg
   have hst:reqB ((fs.map pF).take (i+1)) l=(reqB ((fs.map pF).take i) l && (!decide (f.req=1) || decide (f.id ∈ l))):=by
    rw [List.take_succ_eq_append_getElem (by rw [List.length_map];exact hif),List.getElem_map,hfe]
    unfold reqB;rw [List.all_append];simp [pF]
   rw [HQ.out,Bool.true_and] at hst
   have hall:(!decide (f.req=1) || decide (f.id ∈ l))=false→R=false:=fun h=>by
    rw [← HR.out];unfold reqB
    rw [List.all_eq_false]
    exact ⟨pF f,List.mem_map.2 ⟨f,hfe ▸ List.getElem_mem hif,rfl⟩,by show ¬ ((!decide (f.req=1) || decide (f.id ∈ l))=true);rw [h];exact Bool.false_ne_true⟩
   obtain ⟨fid,fr,fty,fnm,fhi,⟨fk,fn,fss,fll,fii⟩⟩:=f
   dsimp only at hll hd hst hall
   subst hll hd
   have c0:wr.cell? ⟨g,off+i * 10,none⟩=some (.int .i64 fid):=hcc 0 (by decide)
   have c1:wr.cell? ⟨g,off+i * 10+1,none⟩=some (.int .i64 fr):=hcc 1 (by decide)
   have c2:wr.cell? ⟨g,off+i * 10+2,none⟩=some (.string ⟨fty.toArray⟩):=hcc 2 (by decide)
   have c3:wr.cell? ⟨g,off+i * 10+3,none⟩=some (.string ⟨fnm.toArray⟩):=hcc 3 (by decide)
   have c4:wr.cell? ⟨g,off+i * 10+4,none⟩=some (.bool fhi):=hcc 4 (by decide)
   have c5:wr.cell? ⟨g,off+i * 10+5,none⟩=some (.int .i64 (fk:Int)):=hcc 5 (by decide)
   have c6:wr.cell? ⟨g,off+i * 10+6,none⟩=some (.int .i64 fn):=hcc 6 (by decide)
   have c7:wr.cell? ⟨g,off+i * 10+7,none⟩=some (.string ⟨fss.toArray⟩):=hcc 7 (by decide)
   have c8:wr.cell? ⟨g,off+i * 10+8,none⟩=some (.slice lA lu lc):=hcc 8 (by decide)
   have c9:wr.cell? ⟨g,off+i * 10+9,none⟩=some (.slice dA du dc):=hcc 9 (by decide)
   obtain ⟨gf,hgf⟩:∃ g,wr.heap.size=g:=⟨_,rfl⟩
   obtain ⟨w4,hw4⟩:∃ x,wr.alloc (.cells #[.int .i64 fid,.int .i64 fr,.string ⟨fty.toArray⟩,.string ⟨fnm.toArray⟩,.bool fhi,.int .i64 (fk:Int),.int .i64 fn,.string ⟨fss.toArray⟩,.slice lA lu lc,.slice dA du dc] 50)=x:=⟨_,rfl⟩
   have hb4:Blk w4 gf gf #[.int .i64 fid,.int .i64 fr,.string ⟨fty.toArray⟩,.string ⟨fnm.toArray⟩,.bool fhi,.int .i64 (fk:Int),.int .i64 fn,.string ⟨fss.toArray⟩,.slice lA lu lc,.slice dA du dc] 50:=by rw [← hw4,← hgf];exact Blk.new wr _ _
   have hn4:Nx wr w4:=by rw [← hw4];exact nx0 wr _
   have HN4:=Lib.hid (HNX.out.trans hn4)
   have d0:w4.cell? ⟨gf,0,none⟩=some (.int .i64 fid):=hb4.cell 0
   have d1:w4.cell? ⟨gf,1,none⟩=some (.int .i64 fr):=hb4.cell 1
   have HLT:=Lib.hid hlt
   have HST:=Lib.hid hst
   have HALL:=Lib.hid hall
   clear hc hcc hg hif hfe hb4 hn4 hlt hst hall
   by_cases hq:fr=1
   ·subst hq
    have HB2:=Lib.hid (HBS.out w4 HN4.out fid)
    have hB:decide (fid ∈ l)=decide (fid ∈ l):=rfl
    by_cases hin:fid ∈ l
    ·rw [decide_eq_true hin] at HB2
     have HOK:Hid (reqB ((fs.map pF).take (i+1)) l=true):=by unfold Hid;rw [HST.out,decide_eq_true hin,Bool.or_true]
     clear hin hB
     go_upto_region 4 with (fail)
     try rw [hw4]
     clear hw4 hgf c0 c1 c2 c3 c4 c5 c6 c7 c8 c9
     go_wp2_with fail
     refine HB2.out.mono ?_;rintro e w5 ⟨P,rfl,hn5⟩
     have HN5:=Lib.hid (HN4.out.trans hn5)
     clear hn5
     go_wp2_with fail
     go_roundw
     case rel=>first | exact ⟨i+1,by go_num,HLT.out,HN5.out,HOK.out⟩ | ((repeat apply Exists.intro);exact ⟨⟨i+1,by go_num,HLT.out,HN5.out,HOK.out⟩,rfl⟩)
     case measure=>have:=HLT.out;simp [intOf];omega
    ·rw [decide_eq_false hin] at HB2
     have HF2:Hid (R=false):=HALL.out (by rw [decide_eq_false hin];rfl)
     clear hin hB
     go_upto_region 4 with (fail)
     try rw [hw4]
     clear hw4 hgf c0 c1 c2 c3 c4 c5 c6 c7 c8 c9
     go_wp2_with fail
     refine HB2.out.mono ?_;rintro e w5 ⟨P,rfl,hn5⟩
     have HN5:=Lib.hid (HN4.out.trans hn5)
     clear hn5
     go_wp2_with fail
     go_ret
     exact ⟨by rw [HF2.out];rfl,HN5.out⟩
   ·have q4:(fr != 1)=true:=by simp;exact hq
    have HOK:Hid (reqB ((fs.map pF).take (i+1)) l=true):=by unfold Hid;rw [HST.out,decide_eq_false hq];rfl
    go_upto_region 4 with (fail)
    try rw [hw4]
    clear hw4 hgf c0 c1 c2 c3 c4 c5 c6 c7 c8 c9
    go_wp2_with fail
    go_roundw
    case rel=>first | exact ⟨i+1,by go_num,HLT.out,HN4.out,HOK.out⟩ | ((repeat apply Exists.intro);exact ⟨⟨i+1,by go_num,HLT.out,HN4.out,HOK.out⟩,rfl⟩)
    case measure=>have:=HLT.out;simp [intOf];omega
  ·have q1:decide ((i:Int)<(M:Int))=false:=decide_eq_false (by omega)
   have q2:¬ (i:Int)<(M:Int):=by omega
   have HF2:Hid (R=true):=by
    have h:=HQ.out
    rw [List.take_of_length_le (by rw [List.length_map,HN.out];omega)] at h
    unfold Hid;rw [← HR.out];exact h
   clear hlt
   go_wp2_with fail
   go_ret
   exact ⟨by rw [HF2.out];rfl,HNX.out⟩
end Go.Proofs.YtnfelopknfdpfaaDoor
namespace Go.Proofs.YtnfelopknfdpfaaDoor
open Go.RowKit
theorem pl_cases (z:Int):∀ (i:Nat) (fs:List FldS),(getG (plF i (fs.map (·.id))) z=none∧(fs.map pF).find? (fun f=>decide (f.id=z))=none)∨∃ j,∃ h:j<fs.length,getG (plF i (fs.map (·.id))) z=some ((i+j:Nat):Int)∧(fs.map pF).find? (fun f=>decide (f.id=z))=some (pF fs[j])
 | i,[]=>.inl ⟨rfl,rfl⟩
 | i,f :: r=>by
  by_cases h:f.id=z
  ·refine .inr ⟨0,by simp,?_,?_⟩
   ·show (if f.id=z then some (i:Int) else _)=_
    rw [if_pos h];rfl
   ·rw [List.map_cons,List.find?_cons]
    rw [show decide ((pF f).id=z)=true from decide_eq_true h];rfl
  ·have e1:getG (plF i ((f :: r).map (·.id))) z=getG (plF (i+1) (r.map (·.id))) z:=by
    show (if f.id=z then some (i:Int) else _)=_
    rw [if_neg h]
   have e2:((f :: r).map pF).find? (fun f=>decide (f.id=z))=(r.map pF).find? (fun f=>decide (f.id=z)):=by
    rw [List.map_cons,List.find?_cons]
    rw [show decide ((pF f).id=z)=false from decide_eq_false h]
   rcases pl_cases z (i+1) r with ⟨h1,h2⟩ | ⟨j,hj,h1,h2⟩
   ·exact .inl ⟨by rw [e1];exact h1,by rw [e2];exact h2⟩
   ·exact .inr ⟨j+1,by simp;omega,by rw [e1,h1,show i+1+j=i+(j+1) by omega],by rw [e2,h2];rfl⟩
def oneB (fs:List FldP) (z:Int) (v:Val):Bool:=match fs.find? (fun f=>decide (f.id=z)) with | some f=>tyB f.ty v | none=>false
theorem each_split (fs:List FldP) (x:Int) (y:Val) (a':List Int) (b':List Val):∀ (a:List Int) (b:List Val),a.length=b.length→eachB fs (a++x :: a') (b++y :: b')=(eachB fs a b && (oneB fs x y && eachB fs a' b'))
 | [],[],_=>rfl
 | i :: a,v :: b,h=>by
  show (oneB fs i v && eachB fs (a++x :: a') (b++y :: b'))=((oneB fs i v && eachB fs a b) && _)
  rw [each_split fs x y a' b' a b (by simpa using h),Bool.and_assoc]
theorem each_nil (fs:List FldP):eachB fs [] []=true:=rfl
theorem each_take (fs:List FldP) {ids:List Int} {l:List Val} (hl:ids.length=l.length) {i:Nat} (hi:i<ids.length) (hi2:i<l.length):eachB fs (ids.take (i+1)) (l.take (i+1))=(eachB fs (ids.take i) (l.take i) && oneB fs ids[i] l[i]):=by
 have h:=each_split fs ids[i] l[i] [] [] (ids.take i) (l.take i) (by rw [List.length_take,List.length_take];omega)
 rw [List.take_succ_eq_append_getElem hi,List.take_succ_eq_append_getElem hi2,h,each_nil,Bool.and_true]
theorem each_false (fs:List FldP) {ids:List Int} {l:List Val} (hl:ids.length=l.length) {i:Nat} (hi:i<ids.length) (hi2:i<l.length) (h:oneB fs ids[i] l[i]=false):eachB fs ids l=false:=by
 have e1:ids=ids.take i++ids[i] :: ids.drop (i+1):=by rw [← List.drop_eq_getElem_cons hi,List.take_append_drop]
 have e2:l=l.take i++l[i] :: l.drop (i+1):=by rw [← List.drop_eq_getElem_cons hi2,List.take_append_drop]
 have h2:=each_split fs ids[i] l[i] (ids.drop (i+1)) (l.drop (i+1)) (ids.take i) (l.take i) (by rw [List.length_take,List.length_take];omega)
 rw [← e1,← e2,h,Bool.false_and,Bool.and_false] at h2
 exact h2
theorem oth_cell {b:Nat} {w w':World} (h:Oth b w w') {p:Addr} (hp:p.block<w.heap.size) (hne:p.block≠b):w'.cell? p=w.cell? p:=by
 unfold World.cell?;rw [h.block _ hp hne]
def leafB (v:Val):Prop:=match v with | .mk k' a' s' l' i'=>k'<32∧i64B a'∧s'=[]∧l'=[]∧i'=[]
set_option maxRecDepth 100000 in
set_option maxHeartbeats 12800000 in
theorem areOf_any {w0 w:World} {W B gc gm:Nat} {s0 s1 s2:Value} {n:Nat} {m:List (List UInt8×Option Nat)} (hn0:Nx w0 w) (hW:w0.heap.size≤W) (hc:Chk W B gc gm s0 s1 s2 (n:Int) m w) (h0:IsSlv s0) (h1:IsSlv s1) (h2:IsSlv s2) (hn9:n≤900)
  (gr:Nat) (K:Int) (nm:List UInt8) (fl:Value) (fs:List FldS) (hrec:RecS w B gr K nm fl fs) (hfs:RdFs w0 fl fs) (xk:Nat) (xn:Int) (xs:List UInt8) (xl xd:Value) (l:List Val) (ids:List Int) (hL:RdL (RdV 1 w0) w0 xl l) (hI:RdI w0 xd ids) (hlen:ids.length=l.length) (hl9:l.length≤20)
  (hleaf:∀ v ∈ l,leafB v) (hids:∀ z ∈ ids,okZ z) (ht:TabK w0) (hm:MaxC w0) :
  Calls Tryd.prog 29 #[.pointer (some ⟨gc,0,none⟩),.pointer (some ⟨gr,0,none⟩),.agg #[.int .i64 (xk:Int),.int .i64 xn,.string ⟨xs.toArray⟩,xl,xd]] w fun e w'=>e = .returned (.bool (eachB (fs.map pF) ids l))∧(∃ m',Chk W B gc gm s0 s1 s2 (n:Int) m' w')∧FrW W B w w':=by
 obtain ⟨LA,Lc,ys,rfl,hL1,hL2,hL3,hL4,hL5⟩:=hL
 obtain ⟨IA,Ic,rfl,hI1,hI2,hI3⟩:=hI
 obtain ⟨⟨fA,fc,rfl,hf1,hf2,hf3⟩,hf4,hf5,hf6⟩:=hfs
 obtain ⟨gp,hr1,hr2,hr3,hr4⟩:=hrec
 obtain ⟨N,hN⟩:∃ N,l.length=N:=⟨_,rfl⟩
 obtain ⟨M,hM⟩:∃ M,fs.length=M:=⟨_,rfl⟩
 rw [hlen,hN] at hI1
 rw [hN] at hL1 hL4
 rw [hlen,hN]
 rw [hM] at hf1 hf4 hr3
 obtain ⟨R,hR⟩:∃ R,eachB (fs.map pF) ids l=R:=⟨_,rfl⟩
 rw [hR]
 have HL:Hid (l.length=N∧ids.length=N∧ys.length=N∧fs.length=M∧N≤20∧M≤20):=⟨hN,by omega,hL4,hM,by omega,hf4⟩
 obtain ⟨g5,hg5⟩:∃ g,w.heap.size=g:=⟨_,rfl⟩
 obtain ⟨w1,hw1⟩:∃ x,w.alloc (.cells #[.int .i64 (xk:Int),.int .i64 xn,.string ⟨xs.toArray⟩,.slice LA N Lc,.slice IA N Ic] 41)=x:=⟨_,rfl⟩
 have hn1:Nx w w1:=by rw [← hw1];exact nx0 _ _
 have hb1:Blk w1 g5 g5 #[.int .i64 (xk:Int),.int .i64 xn,.string ⟨xs.toArray⟩,.slice LA N Lc,.slice IA N Ic] 41:=by rw [← hw1,← hg5];exact Blk.new w _ _
 have a4:w1.cell? ⟨g5,4,none⟩=some (.slice IA N Ic):=hb1.cell 4
 have HB1:Hid (Blk w1 B g5 #[.int .i64 (xk:Int),.int .i64 xn,.string ⟨xs.toArray⟩,.slice LA N Lc,.slice IA N Ic] 41):=hb1.less (by rw [← hg5];exact hc.sz)
 have HC1:Hid (∃ m',Chk W B gc gm s0 s1 s2 (n:Int) m' w1):=⟨m,hc.nx hn1⟩
 have HN01:=Lib.hid (hn0.trans hn1)
 have HF1:=Lib.hid (FrW.nx (W:=W) (B:=B) hn1)
 have HR3:Hid (Blk w1 B gr #[.int .i64 K,.string ⟨nm.toArray⟩,.slice fA M fc,.map (some gp)] 90):=hr3.below hn1
 have HR4:Hid (MpG izV izV okZ w1 gp (plF 0 (fs.map (·.id)))):=hr4.nx hn1
 have HR1:Hid (B≤gp∧w0.heap.size≤W∧gm<B∧W≤gm):=⟨hr1,hW,hc.m2,hc.m1⟩
 have HS:=Lib.hid h0
 have HS1:=Lib.hid h1
 have HS2:=Lib.hid h2
 have HL3:=Lib.hid hL3
 have HL5:=Lib.hid hL5
 have HI3:=Lib.hid hI3
 have HF3:=Lib.hid hf3
 have HF5:=Lib.hid hf5
 have HF6:=Lib.hid hf6
 have HLEAF:=Lib.hid hleaf
 have HIDS:=Lib.hid hids
 have HT:=Lib.hid ht
 have HM:=Lib.hid hm
 have HRR:=Lib.hid hR
 have HLEN:=Lib.hid hlen
 have hN9:N≤20:=by omega
 clear hL3 hL5 hI3 hf3 hf5 hf6 hleaf hids ht hm hR hlen hb1 hn1 hc hr1 hr2 hr3 hr4 hn0 hW h0 h1 h2 hN hM hL4 hl9
 go_enter Tryd.func29,Tryd.ntmps29
 go_upto_region 1 with (fail)
 try rw [hw1]
 clear hw1 hg5
 go_wp2_with fail
 clear a4
 go_loopw [14] (fun v wr=>∃ i:Nat,v = .int .i64 (i:Int)∧i≤N∧Hid (∃ m',Chk W B gc gm s0 s1 s2 (n:Int) m' wr)∧Hid (FrW W B w1 wr)∧Hid (eachB (fs.map pF) (ids.take i) (l.take i)=true)) (fun v _=>(N - intOf v).toNat)
 case atStart=>exact ⟨0,rfl,Nat.zero_le _,HC1.out,FrW.refl _ _ _,rfl⟩
 case round =>
  clear HC1
  obtain ⟨i,rfl,hi,HCR,HFR,HE⟩:=hrel
  have hi9:(i:Int)≤20:=by omega
  obtain ⟨l1,l2,l3,l4,l5,l6⟩:=HL.out
  by_cases hlt:i<N
  ·have q1:decide ((i:Int)<(N:Int))=true:=decide_eq_true (by omega)
   have q2:(i:Int)<(N:Int):=by omega
   have q3:(0:Int)≤(i:Int):=by omega
   have hnr:Nx w0 wr:=HFR.out.to HN01.out HR1.out.2.1
   have hsz:w0.heap.size≤wr.heap.size:=hnr.size
   obtain ⟨gI,oI,rfl,hgI,hcI⟩:=HI3.out (by omega)
   obtain ⟨gL,oL,rfl,hgL,hcL⟩:=HL3.out (by omega)
   obtain ⟨z,hz⟩:∃ z,ids[i]=z:=⟨_,rfl⟩
   have hzo:okZ z:=HIDS.out z (hz ▸ List.getElem_mem (by omega))
   have cI:wr.cell? ⟨gI,oI+i,none⟩=some (.int .i64 z):=by rw [← hz];exact (hnr.cell (p:=⟨gI,oI+i,none⟩) hgI).trans (hcI i (by omega))
   have hbr:Blk wr B gr #[.int .i64 K,.string ⟨nm.toArray⟩,.slice fA M fc,.map (some gp)] 90:=HFR.out.blk HR3.out HR3.out.1
   have hmr:MpG izV izV okZ wr gp (plF 0 (fs.map (·.id))):=HFR.out.mpb HR4.out HR1.out.1
   have r3:wr.cell? ⟨gr,3,none⟩=some (.map (some gp)):=hbr.cell 3
   have hlk:=(mapZ.look hmr z hzo).2
   obtain ⟨m1,hcr⟩:=HCR.out
   have hone:=each_take (fs.map pF) HLEN.out (i:=i) (by omega) (by omega)
   have hfal:=each_false (fs.map pF) HLEN.out (i:=i) (by omega) (by omega)
   rw [HE.out,Bool.true_and] at hone
   rw [hz] at hone hfal
   rcases pl_cases z 0 fs with ⟨p1,p2⟩ | ⟨j,hj,p1,p2⟩
   ·rw [p1] at hlk
    replace hlk:(Instr.lookup 88 (.map (some gp)) (.int .i64 z) true).run Tryd.prog wr = .ok (.tuple #[.int .i64 0,.bool false]) wr:=hlk
    have HF2:Hid (R=false):=by
     unfold Hid;rw [← HRR.out]
     exact hfal (by unfold oneB;rw [p2])
    clear hone hfal p1 p2 hmr hbr hcI hcL hzo hz hlt hsz hnr l1 l2 l3 l4 l5 l6
    go_upto_region 5 with (fail)
    refine EO.wp_region_hyb ⟨[20],gm⟩ [(0,1),(1,1),(2,1),(3,1),(4,1),(5,1),(6,1),(7,1),(8,1),(9,1),(10,1),(11,1),(12,1),(13,1),(15,1),(16,1),(17,1),(18,1),(19,1),(14,0),(20,0),(21,2),(22,2)] (by kernel_rfl) (by kernel_rfl) ?_
    iterate 19 (refine EO.hyb_calm rfl (fun K hK=>?_);go_simp;refine hK _ ?_;clear hK K)
    refine EO.hyb_alone rfl (fun w2 hn2 K hK=>?_)
    go_simp
    refine hK _ _ (.inr (Oth.refl _ _)) ?_
    clear hK K
    refine EO.hyb_alone rfl (fun w3 hn3 K hK=>?_)
    go_simp
    refine hK _ _ (.inr (Oth.refl _ _)) ?_
    clear hK K
    iterate 2 (refine EO.hyb_pure rfl (fun K hK=>?_);go_simp;refine hK _ ?_;clear hK K)
    refine EO.hyb_nil (fun w4 hn4=>?_)
    have HC4:Hid (∃ m',Chk W B gc gm s0 s1 s2 (n:Int) m' w4):=⟨m1,((hcr.nx hn2).nx hn3).nx hn4⟩
    have HF4:=Lib.hid (((HFR.out.trans (FrW.nx hn2)).trans (FrW.nx hn3)).trans (FrW.nx hn4))
    clear hn2 hn3 hn4 hcr
    go_wp2_with fail
    go_ret
    exact ⟨by rw [HF2.out];rfl,HC4.out,HF1.out.trans HF4.out⟩
   ·rw [p1,Nat.zero_add] at hlk
    replace hlk:(Instr.lookup 88 (.map (some gp)) (.int .i64 z) true).run Tryd.prog wr = .ok (.tuple #[.int .i64 (j:Int),.bool true]) wr:=hlk
    obtain ⟨f,hfe⟩:∃ f,fs[j]=f:=⟨_,rfl⟩
    obtain ⟨hfb,-,-⟩:=HF6.out f (hfe ▸ List.getElem_mem hj)
    obtain ⟨k,hk⟩:∃ k,baseT f.ty=some k:=by
     cases h:baseT f.ty with
     | none=>exact absurd h hfb
     | some k=>exact ⟨k,rfl⟩
    obtain ⟨v,hv⟩:∃ v,l[i]=v:=⟨_,rfl⟩
    obtain ⟨y,hy⟩:∃ y,ys[i]=y:=⟨_,rfl⟩
    have hvl:=HLEAF.out v (hv ▸ List.getElem_mem (by omega))
    have hrv:=HL5.out i (by omega) (by omega)
    rw [hv,hy] at hrv
    rw [hv] at hone hfal
    have honeB:oneB (fs.map pF) z v=chkB k v:=by
     unfold oneB;rw [p2]
     show tyB (pF fs[j]).ty v=_
     unfold tyB;rw [show (pF fs[j]).ty=f.ty from by rw [hfe];rfl,hk]
    rw [honeB] at hone hfal
    obtain ⟨gF,oF,rfl,hgF,hcF⟩:=HF3.out (by omega)
    have hsix:sixK k:=(head_base hk).2.2.2
    obtain ⟨vk,va,vs,vl,vi⟩:=v
    obtain ⟨yk,yn,yss,yl,yi⟩:=y
    obtain ⟨z1,z2,z3,⟨lA,lc,lys,z4,-⟩,⟨dA,dc,z5,-⟩⟩:=hrv
    dsimp only at z1 z2 z3 z4 z5
    subst z1 z2 z3 z4 z5
    obtain ⟨b1,b2,b3,b4,b5⟩:=hvl
    subst b3 b4 b5
    simp only [List.length_nil] at hcL hy ⊢
    have hjM:j<M:=by omega
    have HGM:Hid (∀ g,g<w0.heap.size→g≠gm):=fun g hg=>by have:=HR1.out;omega
    have hB5:Blk wr B g5 #[.int .i64 (xk:Int),.int .i64 xn,.string ⟨xs.toArray⟩,.slice (some ⟨gL,oL,none⟩) N Lc,.slice (some ⟨gI,oI,none⟩) N Ic] 41:=HFR.out.blk HB1.out HB1.out.1
    have HB5:=Lib.hid hB5
    have HBR:=Lib.hid hbr
    have hgmB:gr≠gm∧g5≠gm:=by have h1:=hbr.1;have h2:=hB5.1;have:=HR1.out;omega
    have hLx:∀ x:EO.GrO gm wr,∀ q,q<5→x.1.cell? ⟨gL,oL+i * 5+q,none⟩=(valA ⟨yk,yn,[],.slice lA 0 lc,.slice dA 0 dc⟩)[q]?:=fun x q hq=>by
     rw [oth_cell x.2 (p:=⟨gL,oL+i * 5+q,none⟩) (Nat.lt_of_lt_of_le hgL hsz) (HGM.out _ hgL),hnr.cell (p:=⟨gL,oL+i * 5+q,none⟩) hgL,hcL i (by omega) q hq,hy]
    have Lr:∀ x:EO.GrO gm wr,x.1.cell? ⟨gr,2,none⟩=some (.slice (some ⟨gF,oF,none⟩) M fc):=fun x=>(x.2.blk HBR.out hgmB.1).cell 2
    have Lt:∀ x:EO.GrO gm wr,x.1.cell? ⟨gF,oF+j * 10+2,none⟩=some (.string ⟨f.ty.toArray⟩):=fun x=>by
     rw [oth_cell x.2 (p:=⟨gF,oF+j * 10+2,none⟩) (Nat.lt_of_lt_of_le hgF hsz) (HGM.out _ hgF),hnr.cell (p:=⟨gF,oF+j * 10+2,none⟩) hgF,hcF j (by omega) 2 (by decide),hfe];rfl
    have L3:∀ x:EO.GrO gm wr,x.1.cell? ⟨g5,3,none⟩=some (.slice (some ⟨gL,oL,none⟩) N Lc):=fun x=>(x.2.blk HB5.out hgmB.2).cell 3
    have e0:∀ x:EO.GrO gm wr,x.1.cell? ⟨gL,oL+i * 5,none⟩=some (.int .i64 (yk:Int)):=fun x=>hLx x 0 (by decide)
    have e1:∀ x:EO.GrO gm wr,x.1.cell? ⟨gL,oL+i * 5+1,none⟩=some (.int .i64 yn):=fun x=>hLx x 1 (by decide)
    have e2:∀ x:EO.GrO gm wr,x.1.cell? ⟨gL,oL+i * 5+2,none⟩=some (.string ⟨#[]⟩):=fun x=>hLx x 2 (by decide)
    have e3:∀ x:EO.GrO gm wr,x.1.cell? ⟨gL,oL+i * 5+3,none⟩=some (.slice lA 0 lc):=fun x=>hLx x 3 (by decide)
    have e4:∀ x:EO.GrO gm wr,x.1.cell? ⟨gL,oL+i * 5+4,none⟩=some (.slice dA 0 dc):=fun x=>hLx x 4 (by decide)
    have HSH:Hid (∀ wx,Nx wr wx→Calls Tryd.prog 14 #[.pointer (some ⟨gc,0,none⟩),.string ⟨f.ty.toArray⟩] wx fun e w'=>∃ g m',e = .returned (.pointer (some ⟨g,0,none⟩))∧Blk w' B g (shB k) 77∧Chk W B gc gm s0 s1 s2 (n:Int) m' w'∧Oth gm wx w'):=fun wx hx =>
     shapeB_any HS.out HS1.out HS2.out (hcr.nx hx) (HT.out.nx (hnr.trans hx)) (HM.out.nx (hnr.trans hx)) f.ty k hk
    have HFT:Hid (∀ {wx:World} {m':List (List UInt8×Option Nat)} (g:Nat),Chk W B gc gm s0 s1 s2 (n:Int) m' wx→Blk wx B g (shB k) 77→Calls Tryd.prog 13 #[.pointer (some ⟨gc,0,none⟩),.pointer (some ⟨g,0,none⟩),.agg #[.int .i64 (yk:Int),.int .i64 yn,.string ⟨#[]⟩,.slice lA 0 lc,.slice dA 0 dc]] wx fun e w'=>e = .returned (.bool (decide (yk=k) && rngB k yn))∧(∃ m',Chk W B gc gm s0 s1 s2 (n:Int) m' w')∧FrW W B wx w'):=fun g hcx hbx =>
     fits_base hcx (by omega) g k hsix hbx ⟨yk,yn,[],.slice lA 0 lc,.slice dA 0 dc⟩ (by show yk≤100;omega) b2 ⟨_,_,_,rfl⟩ ⟨_,_,_,rfl⟩
    obtain ⟨T,hTy⟩:∃ T,ByteArray.mk f.ty.toArray=T:=⟨_,rfl⟩
    rw [hTy] at HSH Lt
    obtain ⟨C,hC⟩:∃ C,(decide (yk=k) && rngB k yn)=C:=⟨_,rfl⟩
    rw [hC] at HFT
    rw [show chkB k (.mk yk yn [] [] [])=(decide (yk=k) && rngB k yn) from rfl,hC] at hone hfal
    have HONE:=Lib.hid hone
    have HFAL:=Lib.hid hfal
    have HLT:=Lib.hid hlt
    have hj0:(0:Int)≤(j:Int):=by omega
    have hj1:(j:Int)<(M:Int):=by omega
    clear hone hfal p1 p2 hmr hbr hcI hcL hcF hzo hz hlt hsz hnr l1 l2 l3 l4 l5 l6 hLx hB5 hgmB hgL hgF hgI hy hv hfe hfb hk hsix b1 b2 hj hjM hTy hC honeB HE
    go_upto_region 5 with (fail)
    refine EO.wp_region_hyb ⟨[20],gm⟩ [(0,1),(1,1),(2,1),(3,1),(4,1),(5,1),(6,1),(7,1),(8,1),(9,1),(10,1),(11,1),(12,1),(13,1),(15,1),(16,1),(17,1),(18,1),(19,1),(14,0),(20,0),(21,2),(22,2)] (by kernel_rfl) (by kernel_rfl) ?_
    iterate 19 (refine EO.hyb_calm rfl (fun K hK=>?_);go_simp;refine hK _ ?_;clear hK K)
    clear Lr Lt L3 e0 e1 e2 e3 e4
    refine EO.hyb_alone rfl (fun w2 hn2 K hK=>?_)
    go_simp
    refine (HSH.out w2 hn2).mono ?_;rintro e w3 ⟨g,m',rfl,hb3,hc3,ho3⟩
    refine hK _ _ (.inr ho3) ?_
    clear hK K
    refine EO.hyb_alone rfl (fun w4 hn4 K hK=>?_)
    go_simp
    refine (HFT.out g (hc3.nx hn4) (hb3.below hn4)).mono ?_;rintro e w5 ⟨rfl,hc5,hf5⟩
    refine hK _ _ (.inl (List.mem_singleton.2 rfl)) ?_
    clear hK K
    have HC5:=Lib.hid hc5
    have HF5:=Lib.hid ((((HFR.out.trans (FrW.nx hn2)).trans (FrW.oth ho3 hc3.m1 hc3.m2)).trans (FrW.nx hn4)).trans hf5)
    clear hc5 hf5 hn4 hc3 hb3 ho3 hn2 hcr
    iterate 2 (refine EO.hyb_pure rfl (fun K hK=>?_);go_simp;refine hK _ ?_;clear hK K)
    refine EO.hyb_nil (fun w6 hn6=>?_)
    have HC6:Hid (∃ m',Chk W B gc gm s0 s1 s2 (n:Int) m' w6):=by obtain ⟨m2,h⟩:=HC5.out;exact ⟨m2,h.nx hn6⟩
    have HF6:=Lib.hid (HF5.out.trans (FrW.nx hn6))
    clear hn6
    cases C with
    | true =>
     go_wp2_with fail
     go_roundw
     case rel=>exact ⟨i+1,by go_num,HLT.out,HC6.out,HF6.out,HONE.out⟩
     case measure=>have:=HLT.out;simp [intOf];omega
    | false =>
     have HF2:Hid (R=false):=by unfold Hid;rw [← HRR.out];exact HFAL.out rfl
     go_wp2_with fail
     go_ret
     exact ⟨by rw [HF2.out];rfl,HC6.out,HF1.out.trans HF6.out⟩
  ·have q1:decide ((i:Int)<(N:Int))=false:=decide_eq_false (by omega)
   have q2:¬ (i:Int)<(N:Int):=by omega
   have HF2:Hid (R=true):=by
    unfold Hid;rw [← HRR.out]
    have h:=HE.out
    rw [List.take_of_length_le (by omega),List.take_of_length_le (by omega)] at h
    exact h
   clear hlt l1 l2 l3 l4 l5 l6
   go_wp2_with fail
   go_ret
   exact ⟨by rw [HF2.out];rfl,HCR.out,HF1.out.trans HFR.out⟩
end Go.Proofs.YtnfelopknfdpfaaDoor
