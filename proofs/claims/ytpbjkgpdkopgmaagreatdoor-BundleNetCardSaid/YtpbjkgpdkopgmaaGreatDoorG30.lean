/- A region that draws its order, holds calls that make memory, and writes what was there (an append, a store): calm operations that read memory come ahead of all that write; those that read none may come at any time. Plain. The contract of take: the files of a bundle noted by their names. What a file's includes are; how many files a visit may add. Plain lemmas. -/
import Derived.Test.YtpbjkgpdkopgmaaGreatDoorG01
import Derived.Test.YtpbjkgpdkopgmaaGreatDoorG29
import Derived.Test.YtpbjkgpdkopgmaaGreatDoorG19
import Derived.BigRegion
set_option linter.unusedVariables false
set_option linter.unusedSimpArgs false
set_option linter.unnecessarySimpa false
namespace Go.Proofs.YtpbjkgpdkopgmaaGreatDoor
open Go.RowKit
namespace EH
theorem ite_intro {c:Prop} [Decidable c] {A B:Prop} (h:c) (k:A):if c then A else B:=by rw [if_pos h];exact k
section
variable {ex:List Nat} {P:Program} {ops:Array Oper} {md:Region.Mode}
def calmA (P:Program) (o:Oper) (a:Act) (next:Act→Prop):Prop :=
 ∃ v,(∀ x:World,o.quietAt P a (fun w''=>w''=x) x v)∧next (a.put o.dst v)
def YA (P:Program) (ops:Array Oper) (o:Oper) (v:Value) (a:Act):Prop:=∀ w,YG P ops w o v a
theorem YA.of_same {o:Oper} {v:Value} {a a':Act} (hy:YA P ops o v a) (he:execOp a'.eval o=execOp a.eval o)
  (hw:Region.wanted o (yielded ops a'.tmps)=Region.wanted o (yielded ops a.tmps)):YA P ops o v a':=fun w=>(hy w).of_same he hw
theorem gOp_putA {j:Nat} {w:World} {oi oj:Oper} {v:Value} (hj:ops[j]? = some oj) (hap:oi.apart ops oj=true)
  (hsi:∀ cs b,oi.op≠.select cs b) (hsj:∀ cs b,oj.op≠.select cs b) {K:Act→World→Prop} {a:Act}
  (hy:YA P ops oi v a) (h:gOp P ops j K (a.put oi.dst v) w) :
  gOp P ops j (fun a' w'=>YA P ops oi v a'∧K (a'.put oi.dst v) w') a w:=by
 obtain ⟨h1,h2,h3⟩:=Oper.apart_spec hap
 have keep:∀ u,YA P ops oi v (a.put oj.dst u):=fun u =>
  hy.of_same (execOp_put oi hsi a oj.dst u h3) (wanted_put oi a oj.dst u h3)
 have pc:∀ u,(a.put oi.dst v).put oj.dst u=(a.put oj.dst u).put oi.dst v:=fun u=>Act.put_comm a v u h2
 unfold Go.Proofs.YtpbjkgpdkopgmaaGreatDoor.gOp at *
 simp only [hj] at *
 rw [wanted_put oj a oi.dst v h1] at h
 split
 ·rename_i hw
  simp only [hw,if_true] at h
  unfold Oper.wp at *
  rw [execOp_put oj hsj a oi.dst v h1] at h
  generalize (execOp a.eval oj).run P w=r at *
  cases r with
  | ok n w' =>
   cases n <;> simp only [Oper.upon] at h ⊢
   case value u=>exact ⟨keep u,by rw [← pc];exact h⟩
   case skip=>exact ⟨keep _,by rw [← pc];exact h⟩
   case defer d =>
    have hd:(a.put oi.dst v).defers=a.defers:=by cases oi.dst <;> rfl
    rw [hd,defers_put,pc] at h
    rw [defers_put]
    refine ⟨(keep undef).of_same rfl rfl,?_⟩
    rw [defers_put]
    exact h
   case enter f args =>
    refine h.mono fun e w'' he=>?_
    cases e with
    | returned u=>exact ⟨keep u,by rw [← pc];exact he⟩
    | panicked c=>exact he.elim
    | outgrown=>exact absurd he (by simp [LetsOut])
   case row r args=>exact h.mono fun u w'' he=>⟨keep u,by rw [← pc];exact he⟩
  | halt x w'=>cases x <;> simp only [Oper.upon] at h
 ·rename_i hw
  simp only [hw] at h
  exact ⟨keep _,by rw [← pc];exact h⟩
def GA (ex:List Nat) (P:Program) (md:Region.Mode) (ops:Array Oper) (Q:Act→World→Prop):Nat→Array Bool→Act→World→Prop
 | 0,listed,a,w=>Region.ready md ops listed=[]∧∀ w1,Nx w w1→Q a w1
 | f+1,listed,a,w=>∀ w1,Nx w w1→(Region.ready md ops listed=[]→Q a w1) ∧
   ∀ i ∈ Region.ready md ops listed,gOp P ops i (fun a' w'=>(i ∈ ex∨Nx w1 w')∧GA ex P md ops Q f (listed.setIfInBounds i true) a' w') a w1
theorem GA.grow {Q:Act→World→Prop} {f:Nat} {listed:Array Bool} {a:Act} {w w1:World} (h:GA ex P md ops Q f listed a w) (hn:Nx w w1):GA ex P md ops Q f listed a w1:=by
 cases f with
 | zero=>exact ⟨h.1,fun w2 h2=>h.2 w2 (hn.trans h2)⟩
 | succ f=>exact fun w2 h2=>h w2 (hn.trans h2)
theorem wpAny_of_GA {Q:Act→World→Prop} {Q':Exit→Act→World→Prop} (hQ:∀ a w,Q a w→Q' .normal a w):∀ (f:Nat) (listed:Array Bool) (a:Act) (w:World),
  GA ex P md ops Q f listed a w→wpAny P md ops Q' f listed a w
 | 0,_,_,w,h=>⟨h.1,hQ _ _ (h.2 w (Nx.refl w))⟩
 | f+1,listed,a,w,h=>by
  refine ⟨fun h0=>hQ _ _ ((h w (Nx.refl w)).1 h0),fun i hi=>?_⟩
  have:=(h w (Nx.refl w)).2 i hi
  unfold gOp at this
  unfold wpOp
  split
  ·rename_i ho;simp only [ho] at this;exact wpAny_of_GA hQ f _ _ _ this.2
  ·rename_i o ho
   simp only [ho] at this
   split
   ·rename_i hw;simp only [hw,if_true] at this;exact .inl (wp_mono_both (fun a' w' h'=>wpAny_of_GA hQ f _ _ _ h'.2) this trivial)
   ·rename_i hw;simp only [hw] at this;exact wpAny_of_GA hQ f _ _ _ this.2
theorem GA_first {Q:Act→World→Prop} {i:Nat} {oi:Oper} {v:Value} (hi:ops[i]? = some oi) (hsel:∀ (j:Nat) (o:Oper) cs b,ops[j]? = some o→o.op≠.select cs b)
  (D:Nat→Bool) (hD1:∀ e ∈ ex,D e=true) (hD2:∀ j o,ops[j]? = some o→D j=true→∃ e ∈ o.after,Region.binds md e=true∧(e.on=i∨D e.on=true)) :
  ∀ (f:Nat) (listed:Array Bool) (a:Act) (w:World),
   (∀ j oj,ops[j]? = some oj→j≠i→listed.getD j true=false→(∀ e ∈ oj.after,Region.binds md e=true→e.on≠i)→oi.apart ops oj=true) →
   (∀ j,D j=true→listed.getD j true=false) →
   i ∈ Region.ready md ops listed→YG P ops w oi v a →
   GA ex P md ops Q f (listed.setIfInBounds i true) (a.put oi.dst v) w→GA ex P md ops Q (f+1) listed a w:=by
 intro f
 induction f with
 | zero =>
  intro listed a w _ _ hr hy H w1 hn
  refine ⟨fun h=>(by rw [h] at hr;cases hr),fun j hj=>?_⟩
  by_cases hji:j=i
  ·subst hji;exact (hy.grow hn).gOp hi ⟨.inr (Nx.refl _),H.grow hn⟩
  ·have:=ready_mono hj hji
   rw [H.1] at this
   cases this
 | succ f ih =>
  intro listed a w hfree hl hr hy H w1 hn
  refine ⟨fun h=>(by rw [h] at hr;cases hr),fun j hj=>?_⟩
  by_cases hji:j=i
  ·subst hji;exact (hy.grow hn).gOp hi ⟨.inr (Nx.refl _),H.grow hn⟩
  ·have h1:=(H w1 hn).2 j (ready_mono hj hji)
   obtain ⟨hjun,oj,hoj,hall⟩:=mem_ready.1 hj
   have hnot:∀ e ∈ oj.after,Region.binds md e=true→e.on≠i:=fun e he hb heq=>by
    have h1:=hall e he hb
    have h0:=(mem_ready.1 hr).1
    rw [heq] at h1
    rcases Nat.lt_or_ge i listed.size with h' | h'
    ·simp [h'] at h0 h1;rw [h0] at h1;cases h1
    ·simp [Array.getElem?_eq_none h'] at h1
   have h2:=gOp_put hoj (hfree j oj hoj hji hjun hnot) (fun cs b=>hsel i oi cs b hi) (fun cs b=>hsel j oj cs b hoj) (hy.grow hn) h1
   have hfree':∀ k ok,ops[k]? = some ok→k≠i→(listed.setIfInBounds j true).getD k true=false →
     (∀ e ∈ ok.after,Region.binds md e=true→e.on≠i)→oi.apart ops ok=true:=fun k ok hk hki hun hno=>by
    refine hfree k ok hk hki ?_ hno
    by_cases hjk:j=k
    ·subst hjk;exact hjun
    ·rw [getD_set_ne true hjk] at hun;exact hun
   have hjD:D j=false:=by
    rw [Bool.eq_false_iff]
    intro hd
    obtain ⟨e,he,hb,heq⟩:=hD2 j oj hoj hd
    rcases heq with heq | heq
    ·exact hnot e he hb heq
    ·have h1:=hall e he hb
     have h0:=hl _ heq
     rcases Nat.lt_or_ge e.on listed.size with h' | h'
     ·simp [h'] at h0 h1;rw [h0] at h1;cases h1
     ·simp [Array.getElem?_eq_none h'] at h1
   have hjst:¬ j ∈ ex:=fun hm=>by rw [hD1 j hm] at hjD;cases hjD
   have hl':∀ k,D k=true→(listed.setIfInBounds j true).getD k true=false:=fun k hk=>by
    have hne:j≠k:=by rintro rfl;rw [hk] at hjD;cases hjD
    rw [getD_set_ne true hne];exact hl k hk
   refine gOp_mono (fun a' w' h3=>have hN:=h3.2.1.resolve_left hjst;⟨.inr hN,ih (listed.setIfInBounds j true) a' w' hfree' hl' (ready_mono hr (Ne.symm hji)) (h3.1.grow hN) ?_⟩) h2
   rw [Array.setIfInBounds_comm _ _ hji]
   exact h3.2.2
theorem GA_firstA {Q:Act→World→Prop} {i:Nat} {oi:Oper} {v:Value} (hi:ops[i]? = some oi) (hsel:∀ (j:Nat) (o:Oper) cs b,ops[j]? = some o→o.op≠.select cs b) :
  ∀ (f:Nat) (listed:Array Bool) (a:Act) (w:World),
   (∀ j oj,ops[j]? = some oj→j≠i→listed.getD j true=false→(∀ e ∈ oj.after,Region.binds md e=true→e.on≠i)→oi.apart ops oj=true) →
   i ∈ Region.ready md ops listed→YA P ops oi v a →
   GA ex P md ops Q f (listed.setIfInBounds i true) (a.put oi.dst v) w→GA ex P md ops Q (f+1) listed a w:=by
 intro f
 induction f with
 | zero =>
  intro listed a w _ hr hy H w1 hn
  refine ⟨fun h=>(by rw [h] at hr;cases hr),fun j hj=>?_⟩
  by_cases hji:j=i
  ·subst hji;exact (hy w1).gOp hi ⟨.inr (Nx.refl _),H.grow hn⟩
  ·have:=ready_mono hj hji
   rw [H.1] at this
   cases this
 | succ f ih =>
  intro listed a w hfree hr hy H w1 hn
  refine ⟨fun h=>(by rw [h] at hr;cases hr),fun j hj=>?_⟩
  by_cases hji:j=i
  ·subst hji;exact (hy w1).gOp hi ⟨.inr (Nx.refl _),H.grow hn⟩
  ·have h1:=(H w1 hn).2 j (ready_mono hj hji)
   obtain ⟨hjun,oj,hoj,hall⟩:=mem_ready.1 hj
   have hnot:∀ e ∈ oj.after,Region.binds md e=true→e.on≠i:=fun e he hb heq=>by
    have h1:=hall e he hb
    have h0:=(mem_ready.1 hr).1
    rw [heq] at h1
    rcases Nat.lt_or_ge i listed.size with h' | h'
    ·simp [h'] at h0 h1;rw [h0] at h1;cases h1
    ·simp [Array.getElem?_eq_none h'] at h1
   have h2:=gOp_putA hoj (hfree j oj hoj hji hjun hnot) (fun cs b=>hsel i oi cs b hi) (fun cs b=>hsel j oj cs b hoj) hy h1
   have hfree':∀ k ok,ops[k]? = some ok→k≠i→(listed.setIfInBounds j true).getD k true=false →
     (∀ e ∈ ok.after,Region.binds md e=true→e.on≠i)→oi.apart ops ok=true:=fun k ok hk hki hun hno=>by
    refine hfree k ok hk hki ?_ hno
    by_cases hjk:j=k
    ·subst hjk;exact hjun
    ·rw [getD_set_ne true hjk] at hun;exact hun
   refine gOp_mono (fun a' w' h3=>⟨h3.2.1,ih (listed.setIfInBounds j true) a' w' hfree' (ready_mono hr (Ne.symm hji)) h3.1 ?_⟩) h2
   rw [Array.setIfInBounds_comm _ _ hji]
   exact h3.2.2
def wpHyb (ex:List Nat) (P:Program) (ops:Array Oper) (Q:Act→World→Prop):List (Nat×Nat)→Act→World→Prop
 | [],a,w=>∀ w1,Nx w w1→Q a w1
 | (k,0) :: rest,a,w=>∀ w1,Nx w w1→match ops[k]? with
  | none=>False
  | some o=>if Region.wanted o (yielded ops a.tmps) then o.wp P a w1 (fun a' w'=>(k ∈ ex∨Nx w1 w')∧wpHyb ex P ops Q rest a' w') (fun _ _ _=>False) else wpHyb ex P ops Q rest (a.put o.dst undef) w1
 | (k,1) :: rest,a,w=>match ops[k]? with
  | none=>False
  | some o=>if Region.wanted o (yielded ops a.tmps) then calm P o a w (fun a'=>wpHyb ex P ops Q rest a' w) else wpHyb ex P ops Q rest (a.put o.dst undef) w
 | (k,_+2) :: rest,a,w=>match ops[k]? with
  | none=>False
  | some o=>if Region.wanted o (yielded ops a.tmps) then calmA P o a (fun a'=>wpHyb ex P ops Q rest a' w) else wpHyb ex P ops Q rest (a.put o.dst undef) w
def dep (md:Region.Mode) (ops:Array Oper) (k:Nat):Nat→Nat→Bool
 | 0,_=>false
 | f+1,j=>match ops[j]? with
  | some o=>o.after.any (fun e=>Region.binds md e && (e.on == k || dep md ops k f e.on))
  | none=>false
def edge (ex:List Nat) (md:Region.Mode) (ops:Array Oper) (k:Nat) (listed:Array Bool):Bool :=
 ex.all (fun st=>dep md ops k ops.size st) && (List.range ops.size).all (fun j=>!dep md ops k ops.size j || ((match ops[j]? with | some o=>o.after.any (fun e=>Region.binds md e && (e.on == k || dep md ops k ops.size e.on)) | none=>false) && !listed.getD j true))
theorem edge_spec {k:Nat} {listed:Array Bool} (h:edge ex md ops k listed=true):(∀ st ∈ ex,dep md ops k ops.size st=true)∧(∀ j o,ops[j]? = some o→dep md ops k ops.size j=true→∃ e ∈ o.after,Region.binds md e=true∧(e.on=k∨dep md ops k ops.size e.on=true))∧∀ j,dep md ops k ops.size j=true→listed.getD j true=false:=by
 unfold edge at h
 simp only [Bool.and_eq_true,List.all_eq_true,List.mem_range] at h
 obtain ⟨h1,h2⟩:=h
 have hlt:∀ j,dep md ops k ops.size j=true→j<ops.size:=by
  intro j hj
  rcases Nat.lt_or_ge j ops.size with h | h
  ·exact h
  ·exfalso
   generalize ops.size=f at hj
   cases f with
   | zero=>cases hj
   | succ f=>unfold dep at hj;rw [Array.getElem?_eq_none h] at hj;cases hj
 refine ⟨h1,fun j o ho hj=>?_,fun j hj=>?_⟩
 ·have:=h2 j (hlt j hj)
  rw [hj,ho] at this
  simp only [Bool.not_true,Bool.false_or,Bool.and_eq_true] at this
  obtain ⟨e,he,hb⟩:=Array.any_eq_true'.1 this.1
  simp only [Bool.and_eq_true,Bool.or_eq_true,beq_iff_eq] at hb
  exact ⟨e,he,hb.1,hb.2⟩
 ·have:=h2 j (hlt j hj)
  rw [hj] at this
  simp only [Bool.not_true,Bool.false_or,Bool.and_eq_true,Bool.not_eq_true'] at this
  exact this.2
def hybFrom (ex:List Nat) (md:Region.Mode) (ops:Array Oper):List (Nat×Nat)→Array Bool→Bool
 | [],listed=>(Region.ready md ops listed).isEmpty
 | (k,0) :: rest,listed=>Region.ready md ops listed == [k] && hybFrom ex md ops rest (listed.setIfInBounds k true)
 | (k,1) :: rest,listed=>(Region.ready md ops listed).contains k && Region.free md ops listed k && edge ex md ops k listed && hybFrom ex md ops rest (listed.setIfInBounds k true)
 | (k,_+2) :: rest,listed=>(Region.ready md ops listed).contains k && Region.free md ops listed k && hybFrom ex md ops rest (listed.setIfInBounds k true)
def hybB (ex:List Nat) (md:Region.Mode) (ops:Array Oper) (s:List (Nat×Nat)):Bool:=Region.noSelect ops && s.length == ops.size && hybFrom ex md ops s (Array.replicate ops.size false)
theorem GA_hyb {Q:Act→World→Prop} (hs:Region.noSelect ops=true):∀ (s:List (Nat×Nat)) (listed:Array Bool) (a:Act) (w:World),
  hybFrom ex md ops s listed=true→wpHyb ex P ops Q s a w→GA ex P md ops Q s.length listed a w
 | [],listed,a,w,hB,h=>⟨by simpa [hybFrom] using hB,h⟩
 | (k,1) :: rest,listed,a,w,hB,h=>by
  simp only [hybFrom,Bool.and_eq_true] at hB
  obtain ⟨⟨⟨hr,hf⟩,hed⟩,hB'⟩:=hB
  have hr':k ∈ Region.ready md ops listed:=by simpa using hr
  obtain ⟨_,o,ho,_⟩:=mem_ready.1 hr'
  simp only [wpHyb,ho] at h
  by_cases hw:Region.wanted o (yielded ops a.tmps)=true
  ·simp only [hw,if_true] at h
   obtain ⟨v,h1,h2⟩:=h
   exact GA_first ho (Region.noSelect_spec hs) _ (edge_spec hed).1 (edge_spec hed).2.1 rest.length listed a w (Region.free_spec ho hf) (edge_spec hed).2.2 hr' (.inl ⟨hw,h1⟩) (GA_hyb hs rest _ _ _ hB' h2)
  ·simp only [hw] at h
   exact GA_first ho (Region.noSelect_spec hs) _ (edge_spec hed).1 (edge_spec hed).2.1 rest.length listed a w (Region.free_spec ho hf) (edge_spec hed).2.2 hr' (.inr ⟨by simpa using hw,rfl⟩) (GA_hyb hs rest _ _ _ hB' h)
 | (k,n+2) :: rest,listed,a,w,hB,h=>by
  simp only [hybFrom,Bool.and_eq_true] at hB
  obtain ⟨⟨hr,hf⟩,hB'⟩:=hB
  have hr':k ∈ Region.ready md ops listed:=by simpa using hr
  obtain ⟨_,o,ho,_⟩:=mem_ready.1 hr'
  simp only [wpHyb,ho] at h
  by_cases hw:Region.wanted o (yielded ops a.tmps)=true
  ·simp only [hw,if_true] at h
   obtain ⟨v,h1,h2⟩:=h
   exact GA_firstA ho (Region.noSelect_spec hs) rest.length listed a w (Region.free_spec ho hf) hr' (fun w=>.inl ⟨hw,fun x=>h1 x.1⟩) (GA_hyb hs rest _ _ _ hB' h2)
  ·simp only [hw] at h
   exact GA_firstA ho (Region.noSelect_spec hs) rest.length listed a w (Region.free_spec ho hf) hr' (fun w=>.inr ⟨by simpa using hw,rfl⟩) (GA_hyb hs rest _ _ _ hB' h)
 | (k,0) :: rest,listed,a,w,hB,h=>by
  simp only [hybFrom,Bool.and_eq_true,beq_iff_eq] at hB
  obtain ⟨hr,hB'⟩:=hB
  intro w1 hn
  refine ⟨fun h0=>(by rw [hr] at h0;cases h0),fun i hi=>?_⟩
  rw [hr] at hi
  obtain rfl:i=k:=by simpa using hi
  have h:=h w1 hn
  unfold gOp
  cases ho:ops[i]? with
  | none=>rw [ho] at h;exact h.elim
  | some o =>
   rw [ho] at h
   simp only at h ⊢
   by_cases hw:Region.wanted o (yielded ops a.tmps)=true
   ·simp only [hw,if_true] at h ⊢
    exact wp_mono_both (fun a' w' h'=>⟨h'.1,GA_hyb hs rest _ _ _ hB' h'.2⟩) h trivial
   ·simp only [hw] at h ⊢
    exact ⟨.inr (Nx.refl _),GA_hyb hs rest _ _ _ hB' h⟩
structure Hyb (ex:List Nat) (P:Program) (ops:Array Oper) (Q:Act→World→Prop) (s:List (Nat×Nat)) (a:Act) (w:World):Prop where
 out:wpHyb ex P ops Q s a w
theorem wp_region_hyb {id:Nat} {Q:Exit→Act→World→Prop} {a:Act} {w:World} {l:List Oper} (ex:List Nat) (s:List (Nat×Nat)) (hm:P.follows .mixedOrders=true) (hB:hybB ex .any l.toArray s=true)
  (h:Hyb ex P l.toArray (fun a w=>Q .normal a w) s a w):(Code.region id l.toArray true).wp P Q a w:=by
 simp only [hybB,Bool.and_eq_true,beq_iff_eq] at hB
 obtain ⟨⟨h1,h2⟩,h3⟩:=hB
 refine wp_region_any hm (wpAny_of_GA (ex:=ex) (Q:=fun a w=>Q .normal a w) (fun _ _ h=>h) _ _ _ _ ?_)
 have:=GA_hyb (ex:=ex) (md:=.any) h1 s _ _ _ h3 h.out
 rw [h2] at this
 exact this.grow (Nx.drawn w)
theorem hyb_calm {Q:Act→World→Prop} {k:Nat} {o:Oper} {rest:List (Nat×Nat)} {a:Act} {w:World} (ho:ops[k]? = some o)
  (h:∀ K:Act→Prop,(∀ a,Hyb ex P ops Q rest a w→K a)→if Region.wanted o (yielded ops a.tmps) then calm P o a w K else K (a.put o.dst undef)):Hyb ex P ops Q ((k,1) :: rest) a w:=by
 refine ⟨?_⟩
 simp only [wpHyb,ho]
 exact h _ (fun _ h=>h.out)
theorem hyb_pure {Q:Act→World→Prop} {k:Nat} {o:Oper} {rest:List (Nat×Nat)} {a:Act} {w:World} (ho:ops[k]? = some o)
  (h:∀ K:Act→Prop,(∀ a,Hyb ex P ops Q rest a w→K a)→if Region.wanted o (yielded ops a.tmps) then calmA P o a K else K (a.put o.dst undef)):Hyb ex P ops Q ((k,2) :: rest) a w:=by
 refine ⟨?_⟩
 simp only [wpHyb,ho]
 exact h _ (fun _ h=>h.out)
theorem hyb_alone {Q:Act→World→Prop} {k:Nat} {o:Oper} {rest:List (Nat×Nat)} {a:Act} {w:World} (ho:ops[k]? = some o)
  (h:∀ w1,Nx w w1→∀ K:Act→World→Prop,(∀ a' w',(k ∈ ex∨Nx w1 w')→Hyb ex P ops Q rest a' w'→K a' w')→if Region.wanted o (yielded ops a.tmps) then o.wp P a w1 K (fun _ _ _=>False) else K (a.put o.dst undef) w1):Hyb ex P ops Q ((k,0) :: rest) a w:=by
 refine ⟨?_⟩
 intro w1 hn
 simp only [ho]
 have:=h w1 hn (fun a' w'=>(k ∈ ex∨Nx w1 w')∧wpHyb ex P ops Q rest a' w') (fun a' w' h1 h2=>⟨h1,h2.out⟩)
 split
 ·rename_i hw;simpa [hw] using this
 ·rename_i hw;simp [hw] at this;exact this.2
theorem hyb_nil {Q:Act→World→Prop} {a:Act} {w:World} (h:∀ w1,Nx w w1→Q a w1):Hyb ex P ops Q [] a w:=⟨h⟩
end
attribute [go_sem] calmA
end EH
end Go.Proofs.YtpbjkgpdkopgmaaGreatDoor
namespace Go.Proofs.YtpbjkgpdkopgmaaGreatDoor
open Go.RowKit
def RdQ (w0:World) (A:Option Addr) (xs:List (List UInt8×List UInt8)):Prop :=
 0<xs.length→∃ g o,A=some ⟨g,o,none⟩∧g<w0.heap.size∧∀ i (h:i<xs.length),w0.cell? ⟨g,o+i * 2,none⟩=some (bt xs[i].1)∧w0.cell? ⟨g,o+i * 2+1,none⟩=some (bt xs[i].2)
theorem foldl_take {α β:Type} (f:β→α→β) (l:List α) (i:Nat) (h:i<l.length) (b:β):(l.take (i+1)).foldl f b=f ((l.take i).foldl f b) l[i]:=by
 rw [List.take_succ_eq_append_getElem h,List.foldl_append];rfl
def SrcOk (xs:List (List UInt8×List UInt8)):Prop:=∀ x ∈ xs,x.1.length≤8000∧x.2.length≤140737488355328
section
variable {w0 w w':World} {g gm:Nat} {s s':LdV} {vn vf vn' vf':Value}
set_option maxRecDepth 100000 in
set_option maxHeartbeats 3200000 in
theorem ltake_any (h0:LdS w0 g gm s vn vf w) (A:Option Addr) (n c:Nat) (xs:List (List UInt8×List UInt8)) (hn:xs.length=n) (hrd:RdQ w0 A xs) (hok:SrcOk xs) (hnl:(n:Int)≤1000000) (ht:TabK w0) (hm:MaxC w0) :
  Calls Tryz.prog 31 #[.pointer (some ⟨g,0,none⟩),.slice A n c] w fun e w'=>e = .returned (.tuple #[])∧LdS w0 g gm (takeV xs s) vn vf w'∧LdF g gm vn vf w vn vf w':=by
 have H:=Lib.hid h0
 have HRD:=Lib.hid hrd
 have HOK:=Lib.hid hok
 have HN:=Lib.hid hn
 have HT:=Lib.hid ht
 have HM:=Lib.hid hm
 obtain ⟨L,hL⟩:∃ B,decide ((5:Int)<(n:Int))=B:=⟨_,rfl⟩
 obtain ⟨s1,hs1⟩:∃ s1,Hid ((if 5<xs.length then failV 4 [] 0 s else s)=s1):=⟨_,rfl⟩
 have HS1:Hid (s1=if L=true then failV 4 [] 0 s else s):=by
  unfold Hid;rw [← hs1.out,hn,← hL];simp only [decide_eq_true_eq]
  by_cases h:5<n
  ·rw [if_pos h,if_pos (by omega)]
  ·rw [if_neg h,if_neg (by omega)]
 have HX:Hid (takeV xs s=xs.foldl take2 (xs.foldl take1 s1)):=by unfold Hid takeV;rw [hs1.out]
 clear h0 hrd hok hn hs1 ht hm
 go_enter Tryz.func31,Tryz.ntmps31
 go_upto_if 12 with (fail)
 go_cut [] (fun wx=>LdS w0 g gm s1 vn vf wx∧LdF g gm vn vf w vn vf wx)
 case first =>
  cases L
  ·have hx:=HS1.out
   rw [if_neg (by decide)] at hx
   go_wp2_with fail
   go_meet
   case rel=>exact ⟨H.out.eq hx.symm,LdF.refl _ _ _ _ _⟩
  ·have hx:=HS1.out
   rw [if_pos rfl] at hx
   go_wp2_with fail
   refine (lfail_any H.out 4 ⟨#[]⟩ [] rfl 0).mono ?_;rintro e w1 ⟨rfl,h1,h2⟩
   go_wp2_with fail
   go_meet
   case rel=>exact ⟨h1.eq hx.symm,h2⟩
 case rest =>
 obtain ⟨hs1,hf1⟩:=hcut
 have HA1:=Lib.hid hs1
 have HF1:=Lib.hid hf1
 clear hs1 hf1
 go_wp2_with fail
 go_loopw [17] (fun v wr=>∃ i:Nat,v = .int .i64 i∧i≤n∧LdS w0 g gm ((xs.take i).foldl take1 s1) vn vf wr∧LdF g gm vn vf w vn vf wr) (fun v _=>(n - intOf v).toNat)
 case atStart=>exact ⟨0,rfl,Nat.zero_le _,HA1.out,HF1.out⟩
 case round =>
  obtain ⟨i,rfl,hi,hsr,hfr⟩:=hrel
  have HSR:=Lib.hid hsr
  have HFR:=Lib.hid hfr
  clear hsr hfr
  by_cases hlt:i<n
  ·have hxi:i<xs.length:=by rw [HN.out];exact hlt
   obtain ⟨gA,o,rfl,hgA,hcs⟩:=HRD.out (by omega)
   obtain ⟨e1,e2⟩:=hcs i hxi
   have hok:=HOK.out _ (List.getElem_mem hxi)
   obtain ⟨⟨sn,st⟩,hz⟩:∃ z,xs[i]=z:=⟨_,rfl⟩
   rw [hz] at e1 e2 hok
   have d1:wr.cell? ⟨gA,o+i * 2,none⟩=some (.string ⟨sn.toArray⟩):=(HSR.out.nx.cell (p:=⟨gA,o+i * 2,none⟩) hgA).trans e1
   have d2:wr.cell? ⟨gA,o+i * 2+1,none⟩=some (.string ⟨st.toArray⟩):=(HSR.out.nx.cell (p:=⟨gA,o+i * 2+1,none⟩) hgA).trans e2
   have HFO:Hid ((xs.take (i+1)).foldl take1 s1=take1 ((xs.take i).foldl take1 s1) (sn,st)):=by unfold Hid;rw [foldl_take _ _ _ hxi,hz]
   obtain ⟨sr,hsr⟩:∃ sr,(xs.take i).foldl take1 s1=sr:=⟨_,rfl⟩
   rw [hsr] at HFO HSR
   have HZ:=Lib.hid hok
   clear e1 e2 hcs hz hok hsr hgA
   go_upto_region 5 with (fail)
   obtain ⟨g5,hg5⟩:∃ g,wr.heap.size=g:=⟨_,rfl⟩
   have hB5:=Blk.new wr #[.string ⟨sn.toArray⟩,.string ⟨st.toArray⟩] 43
   rw [hg5] at hB5 ⊢
   have HFR5:=Lib.hid (HSR.out.fresh (k:=g5) (Nat.le_of_eq hg5))
   have hn5:Nx wr (wr.alloc (.cells #[.string ⟨sn.toArray⟩,.string ⟨st.toArray⟩] 43)):=nx0 _ _
   have HB5:=Lib.hid hB5
   have HN5:=Lib.hid hn5
   have HS5:=Lib.hid (HSR.out.next hn5)
   clear hB5 hn5 d1 d2
   generalize World.alloc wr _=w5 at *
   clear hg5
   obtain ⟨c0,-⟩:=HS5.out.cs
   have b0:w5.cell? ⟨g5,0,none⟩=some (.string ⟨sn.toArray⟩):=HB5.out.cell 0
   have hla:=(lookM_any (HS5.out.mp.keep (w':=w5.drew) rfl) sn HZ.out.1).2
   have hlb:=(lookM_any ((HS5.out.next (nx0 w5 (.cells #[.string ⟨#[]⟩,.int .i64 0] 141))).mp.keep (w':=(w5.alloc (.cells #[.string ⟨#[]⟩,.int .i64 0] 141)).drew) rfl) sn HZ.out.1).2
   obtain ⟨B,hB⟩:∃ B,(getM sr.m sn).isSome=B:=⟨_,rfl⟩
   obtain ⟨⟨T,k⟩,hV⟩:∃ V,(getM sr.m sn).getD ([],0)=V:=⟨_,rfl⟩
   rw [hB,hV] at hla hlb
   unfold bt srcA bt at hla hlb
   dsimp only at hla hlb
   have hi5:g5<w5.heap.size:=HB5.out.lt
   have hig:g<w5.heap.size:=HS5.out.gl
   have him:gm<w5.heap.size:=HS5.out.mp.lt
   have HBB:Hid (take1 sr (sn,st)=setV sn (st,0) (if B=true then failV 8 sn 0 sr else sr)):=by unfold Hid take1 hasV;dsimp only;rw [hB]
   clear hB hV
   go_region
   all_goals
    clear hla hlb c0 b0 hi5 hig him
    have HN6:Hid (Nx w5 (w5.alloc (.cells #[.string ⟨T.toArray⟩,.int .i64 (k:Int)] 141)).drew):=Nx.dr (nx0 w5 _) 1
    generalize World.drew _=w6 at *
    have HS6:=Lib.hid (HS5.out.next HN6.out)
    have HB6:=Lib.hid (HB5.out.below HN6.out)
    obtain ⟨s6,hs6⟩:∃ s6,Hid ((if B=true then failV 8 sn 0 sr else sr)=s6):=⟨_,rfl⟩
    have HX6:Hid (take1 sr (sn,st)=setV sn (st,0) s6):=by unfold Hid;rw [HBB.out,hs6.out]
    go_upto_if 31 with (fail)
    go_cut [] (fun wx=>LdS w0 g gm s6 vn vf wx∧LdF g gm vn vf w6 vn vf wx)
    case first =>
     cases B
     ·have hx:=hs6.out
      rw [if_neg (by decide)] at hx
      go_wp2_with fail
      go_meet
      case rel=>exact ⟨HS6.out.eq hx,LdF.refl _ _ _ _ _⟩
     ·have hx:=hs6.out
      rw [if_pos rfl] at hx
      have b0:w6.cell? ⟨g5,0,none⟩=some (.string ⟨sn.toArray⟩):=HB6.out.cell 0
      go_wp2_with fail
      refine (lfail_any HS6.out 8 ⟨sn.toArray⟩ sn (Tx.of _) 0).mono ?_;rintro e w1 ⟨rfl,h1,h2⟩
      go_wp2_with fail
      go_meet
      case rel=>exact ⟨h1.eq hx,h2⟩
    case rest =>
    obtain ⟨hs7,hf7⟩:=hcut
    have hb7:=hf7.blk HB6.out HFR5.out.1 HFR5.out.2.1 HFR5.out.2.2.1 HFR5.out.2.2.2
    have b0:wc.cell? ⟨g5,0,none⟩=some (.string ⟨sn.toArray⟩):=hb7.cell 0
    have b1:wc.cell? ⟨g5,1,none⟩=some (.string ⟨st.toArray⟩):=hb7.cell 1
    obtain ⟨c0,-⟩:=hs7.cs
    have hi5:g5<wc.heap.size:=hb7.lt
    have hig:g<wc.heap.size:=hs7.gl
    have him:gm<wc.heap.size:=hs7.mp.lt
    have hnd:Nx wc wc.drew:=Nx.drewN wc 1
    obtain ⟨w8,hrun,hs8,hf8⟩:=(hs7.next hnd).setM sn (st,0) HZ.out.1 HZ.out.2 (by omega)
    have HF8:Hid (LdF g gm vn vf w vn vf w8):=(((HFR.out.trans (LdF.nx HN5.out _ _)).trans (LdF.nx HN6.out _ _)).trans hf7).trans ((LdF.nx hnd _ _).trans hf8)
    have HS8:Hid (LdS w0 g gm ((xs.take (i+1)).foldl take1 s1) vn vf w8):=hs8.eq (by rw [HFO.out,HX6.out])
    change (Instr.mapUpdate 94 (.map (some gm)) (.string ⟨sn.toArray⟩) (.agg #[.string ⟨st.toArray⟩,.int .i64 0])).run Tryz.prog wc.drew = .ok () w8 at hrun
    clear hs7 hf7 hb7 hs8 hf8
    go_upto_region 8 with (fail)
    go_region
    all_goals
     go_wp2_with fail
     go_roundw
     case rel=>exact ⟨i+1,by go_num,hlt,HS8.out,HF8.out⟩
     case measure=>simp [intOf];omega
  ·obtain rfl:i=n:=by omega
   have hall:xs.take i=xs:=List.take_of_length_le (by rw [HN.out];exact Nat.le_refl _)
   rw [hall] at HSR
   obtain ⟨s2,hs2⟩:∃ s2,xs.foldl take1 s1=s2:=⟨_,rfl⟩
   rw [hs2] at HSR
   have HX2:Hid (takeV xs s=xs.foldl take2 s2):=by unfold Hid;rw [HX.out,hs2]
   clear hs2 hall hlt hi HA1 HF1 HS1 HX
   go_wp2_with fail
   go_loopw [48] (fun v wr=>∃ j:Nat,v = .int .i64 j∧j≤i∧LdS w0 g gm ((xs.take j).foldl take2 s2) vn vf wr∧LdF g gm vn vf w vn vf wr) (fun v _=>(i - intOf v).toNat)
   case atStart=>exact ⟨0,rfl,Nat.zero_le _,HSR.out,HFR.out⟩
   case round =>
    obtain ⟨j,rfl,hj,hsr,hfr⟩:=hrel
    have HSQ:=Lib.hid hsr
    have HFQ:=Lib.hid hfr
    clear hsr hfr
    by_cases hlt:j<i
    ·have hxi:j<xs.length:=by rw [HN.out];exact hlt
     obtain ⟨gA,o,rfl,hgA,hcs⟩:=HRD.out (by omega)
     obtain ⟨e1,e2⟩:=hcs j hxi
     have hok:=HOK.out _ (List.getElem_mem hxi)
     obtain ⟨⟨sn,st⟩,hz⟩:∃ z,xs[j]=z:=⟨_,rfl⟩
     rw [hz] at e1 e2 hok
     have d1:wr.cell? ⟨gA,o+j * 2,none⟩=some (.string ⟨sn.toArray⟩):=(HSQ.out.nx.cell (p:=⟨gA,o+j * 2,none⟩) hgA).trans e1
     have d2:wr.cell? ⟨gA,o+j * 2+1,none⟩=some (.string ⟨st.toArray⟩):=(HSQ.out.nx.cell (p:=⟨gA,o+j * 2+1,none⟩) hgA).trans e2
     have HFO:Hid ((xs.take (j+1)).foldl take2 s2=take2 ((xs.take j).foldl take2 s2) (sn,st)):=by unfold Hid;rw [foldl_take _ _ _ hxi,hz]
     obtain ⟨sr,hsr⟩:∃ sr,(xs.take j).foldl take2 s2=sr:=⟨_,rfl⟩
     rw [hsr] at HFO HSQ
     have HZ:=Lib.hid hok
     have hj9:(j:Int)≤1000000:=by omega
     clear e1 e2 hcs hz hok hsr hgA
     go_upto_region 13 with (fail)
     obtain ⟨g5,hg5⟩:∃ g,wr.heap.size=g:=⟨_,rfl⟩
     have hB5:=Blk.new wr #[.string ⟨sn.toArray⟩,.string ⟨st.toArray⟩] 43
     rw [hg5] at hB5 ⊢
     have HFR5:=Lib.hid (HSQ.out.fresh (k:=g5) (Nat.le_of_eq hg5))
     have hn5:Nx wr (wr.alloc (.cells #[.string ⟨sn.toArray⟩,.string ⟨st.toArray⟩] 43)):=nx0 _ _
     have HB5:=Lib.hid hB5
     have HN5:=Lib.hid hn5
     have HS5:=Lib.hid (HSQ.out.next hn5)
     clear hB5 hn5 d1 d2
     generalize World.alloc wr _=w5 at *
     clear hg5
     have b0:w5.cell? ⟨g5,0,none⟩=some (.string ⟨sn.toArray⟩):=HB5.out.cell 0
     obtain ⟨B,hB⟩:∃ B,Hid (plainP sn=B):=⟨_,rfl⟩
     have HBB:Hid (take2 sr (sn,st)=if B=true then sr else failV 2 sn 0 sr):=by unfold Hid take2;dsimp only;rw [hB.out]
     have hsl:sn.length≤8000:=HZ.out.1
     have hsl':(sn.length:Int)≤8000:=by omega
     clear hsl
     go_wp2_with fail
     refine (plain_any' w5 _ sn (Tx.of _) B hB.out hsl' (HT.out.nx HS5.out.nx) (HM.out.nx HS5.out.nx)).mono ?_;rintro e w6 ⟨rfl,hn6⟩
     have HN6:=Lib.hid hn6
     have HS6:=Lib.hid (HS5.out.next hn6)
     have HB6:=Lib.hid (HB5.out.below hn6)
     have HF6:=Lib.hid ((HFQ.out.trans (LdF.nx HN5.out _ _)).trans (LdF.nx hn6 _ _))
     clear hn6 b0
     cases B
     ·have b0:w6.cell? ⟨g5,0,none⟩=some (.string ⟨sn.toArray⟩):=HB6.out.cell 0
      go_wp2_with fail
      refine (lfail_any HS6.out 2 ⟨sn.toArray⟩ sn (Tx.of _) 0).mono ?_;rintro e w7 ⟨rfl,h1,h2⟩
      have HS7:Hid (LdS w0 g gm ((xs.take (j+1)).foldl take2 s2) vn vf w7):=h1.eq (by rw [HFO.out,HBB.out];rfl)
      have HF7:=Lib.hid (HF6.out.trans h2)
      clear h1 h2
      go_wp2_with fail
      go_roundw
      case rel=>exact ⟨j+1,by go_num,hlt,HS7.out,HF7.out⟩
      case measure=>simp [intOf];omega
     ·have HS7:Hid (LdS w0 g gm ((xs.take (j+1)).foldl take2 s2) vn vf w6):=HS6.out.eq (by rw [HFO.out,HBB.out];rfl)
      go_wp2_with fail
      go_roundw
      case rel=>exact ⟨j+1,by go_num,hlt,HS7.out,HF6.out⟩
      case measure=>simp [intOf];omega
    ·obtain rfl:j=i:=by omega
     have hall:xs.take j=xs:=List.take_of_length_le (by rw [HN.out];exact Nat.le_refl _)
     rw [hall] at HSQ
     have HE:Hid (LdS w0 g gm (takeV xs s) vn vf wr):=HSQ.out.eq HX2.out.symm
     go_wp2_with fail
     go_end0
     exact ⟨rfl,HE.out,HFQ.out⟩
end
end Go.Proofs.YtpbjkgpdkopgmaaGreatDoor
namespace Go.Proofs.YtpbjkgpdkopgmaaGreatDoor
theorem plainP_len {t:List UInt8} (h:plainP t=true):t.length≤40:=by
 unfold plainP at h
 simp only [Bool.and_eq_true,decide_eq_true_eq] at h
 exact h.1.1.1
theorem incP_len (ws:List TokV) (s:PSt):(incP ws s).1.length≤40:=by
 unfold incP
 dsimp only
 split
 ·rename_i h
  rw [Bool.and_eq_true] at h
  exact plainP_len h.2
 ·exact Nat.zero_le _
def IncOk (l:List (List UInt8)):Prop:=l.length≤5∧∀ x ∈ l,x.length≤40
theorem IncOk.add {ws:List TokV} {a:List (List UInt8)} (h:IncOk a) (s:PSt):IncOk (addP 5 (incP ws) a s).1:=by
 unfold addP
 split
 ·exact h
 ·rename_i hne
  refine ⟨by have:=h.1;simp;omega,fun x hx=>?_⟩
  rcases List.mem_append.1 hx with hx | hx
  ·exact h.2 x hx
  ·rw [List.mem_singleton] at hx
   subst hx
   exact incP_len ws s
theorem headsB_inc (ws:List TokV):∀ (f:Nat) (a:List (List UInt8)) (b:List Spc) (s:PSt),IncOk a→IncOk (headsP ws f a b s).1.1
 | 0,a,b,s,h=>h
 | f+1,a,b,s,h=>by
  unfold headsP
  split
  ·exact headsB_inc ws f _ b _ (h.add s)
  ·split
   ·exact headsB_inc ws f a _ _ h
   ·exact h
theorem parse_inc (l:List UInt8):IncOk (parseF l).1.incs:=by
 have h0:IncOk []:=⟨Nat.zero_le _,fun x h=>by cases h⟩
 unfold parseF
 split
 ·exact h0
 ·dsimp only
  split
  ·exact h0
  ·exact headsB_inc _ _ _ _ _ h0
def Sz (s:LdV) (n:Nat):Prop:=s.names.length≤n∧s.files.length≤n
theorem Sz.mono {s:LdV} {n m:Nat} (h:Sz s n) (k:n≤m):Sz s m:=⟨Nat.le_trans h.1 k,Nat.le_trans h.2 k⟩
theorem Sz.fail {s:LdV} {n:Nat} (h:Sz s n) (e:Nat) (f:List UInt8) (a:Nat):Sz (failV e f a s) n:=by
 unfold failV;split <;> exact h
theorem Sz.need {s:LdV} {n:Nat} (h:Sz s n) (a b:List UInt8):Sz (needV a b s) n:=by
 unfold needV;split
 ·exact h
 ·exact h.fail _ _ _
theorem Sz.set {s:LdV} {n:Nat} (h:Sz s n) (k:List UInt8) (v:List UInt8×Nat):Sz (setV k v s) n:=h
theorem Sz.pre {s:LdV} {n:Nat} (h:Sz s n) (k:List UInt8):Sz (preV k s) n:=by
 unfold preV;dsimp only;split
 ·exact (h.set _ _).fail _ _ _
 ·exact h.set _ _
theorem Sz.inc {vis:List UInt8→LdV→LdV} {d:Nat} (hv:∀ k s n,Sz s n→Sz (vis k s) (n+d)) {s:LdV} {n:Nat} (h:Sz s n) (a k:List UInt8):Sz (incV vis a s k) (n+d):=by
 unfold incV
 split
 ·exact hv _ _ _ (h.need _ _)
 ·split
  ·exact ((h.need _ _).fail _ _ _).mono (Nat.le_add_right _ _)
  ·exact (h.need _ _).mono (Nat.le_add_right _ _)
theorem Sz.incs {vis:List UInt8→LdV→LdV} {d:Nat} (hv:∀ k s n,Sz s n→Sz (vis k s) (n+d)) (a:List UInt8):∀ (l:List (List UInt8)) {s:LdV} {n:Nat},Sz s n→Sz (l.foldl (incV vis a) s) (n+l.length * d)
 | [],s,n,h=>by simpa using h
 | k :: r,s,n,h=>by
  have:=Sz.incs hv a r (Sz.inc hv h a k)
  rw [List.foldl_cons]
  refine this.mono ?_
  rw [List.length_cons,Nat.succ_mul];omega
theorem Sz.vis:∀ (m:Nat) (k:List UInt8) (s:LdV) (n:Nat),Sz s n→Sz (visV m k s) (n+6 ^ m)
 | 0,_,s,n,h=>h.mono (by simp)
 | m+1,k,s,n,h=>by
  show Sz (if s.e≠0 then s else _) _
  split
  ·exact h.mono (Nat.le_add_right _ _)
  ·have h1:=Sz.incs (Sz.vis m) k (parseF (getV s k).1).1.incs (h.pre k)
   have h2:=(parse_inc (getV s k).1).1
   have h3:(parseF (getV s k).1).1.incs.length * 6 ^ m≤5 * 6 ^ m:=Nat.mul_le_mul_right _ h2
   have h4:0<6 ^ m:=Nat.pow_pos (by decide)
   have h5:6 ^ (m+1)=6 * 6 ^ m:=by rw [Nat.pow_succ,Nat.mul_comm]
   obtain ⟨a1,a2⟩:=h1
   refine ⟨?_,?_⟩
   ·show ((_:LdV).names++[k]).length≤_
    rw [List.length_append]
    show _+1≤_
    have:(setV k ((getV s k).1,2) ((parseF (getV s k).1).1.incs.foldl (incV (visV m) k) (preV k s))).names.length≤n+(parseF (getV s k).1).1.incs.length * 6 ^ m:=a1
    omega
   ·show ((_:LdV).files++[(parseF (getV s k).1).1]).length≤_
    rw [List.length_append]
    show _+1≤_
    have:(setV k ((getV s k).1,2) ((parseF (getV s k).1).1.incs.foldl (incV (visV m) k) (preV k s))).files.length≤n+(parseF (getV s k).1).1.incs.length * 6 ^ m:=a2
    omega
def Fo (s:LdV):Prop:=s.file.length≤8000
theorem Fo.fail {s:LdV} (h:Fo s) (e:Nat) {f:List UInt8} (hf:f.length≤8000) (a:Nat):Fo (failV e f a s):=by
 unfold failV;split
 ·exact hf
 ·exact h
theorem Fo.need {s:LdV} (h:Fo s) (n:List UInt8) {a:List UInt8} (ha:a.length≤8000):Fo (needV n a s):=by
 unfold needV;split
 ·exact h
 ·exact h.fail _ ha _
theorem Fo.pre {s:LdV} (h:Fo s) {k:List UInt8} (hk:k.length≤8000):Fo (preV k s):=by
 unfold preV;dsimp only;split
 ·exact Fo.fail (s:=setV _ _ s) h _ hk _
 ·exact h
theorem Fo.inc {vis:List UInt8→LdV→LdV} (hv:∀ k s,k.length≤8000→Fo s→Fo (vis k s)) {s:LdV} (h:Fo s) {a k:List UInt8} (ha:a.length≤8000) (hk:k.length≤8000):Fo (incV vis a s k):=by
 unfold incV
 split
 ·exact hv _ _ hk (h.need _ ha)
 ·split
  ·exact (h.need _ ha).fail _ ha _
  ·exact h.need _ ha
theorem Fo.incs {vis:List UInt8→LdV→LdV} (hv:∀ k s,k.length≤8000→Fo s→Fo (vis k s)) {a:List UInt8} (ha:a.length≤8000):∀ (l:List (List UInt8)) {s:LdV},(∀ x ∈ l,x.length≤40)→Fo s→Fo (l.foldl (incV vis a) s)
 | [],s,_,h=>h
 | k :: r,s,hl,h=>Fo.incs hv ha r (fun x hx=>hl x (by simp [hx])) (Fo.inc hv h ha (Nat.le_trans (hl k (by simp)) (by decide)))
theorem Fo.vis:∀ (m:Nat) (k:List UInt8) (s:LdV),k.length≤8000→Fo s→Fo (visV m k s)
 | 0,_,s,_,h=>h
 | m+1,k,s,hk,h=>by
  show Fo (if s.e≠0 then s else _)
  split
  ·exact h
  ·exact Fo.incs (Fo.vis m) hk (parseF (getV s k).1).1.incs (parse_inc (getV s k).1).2 (h.pre hk)
theorem Fo.end_ (root:List UInt8) (l:List (List UInt8×List UInt8)) (hr:root.length≤8000) (hl:∀ x ∈ l,x.1.length≤8000):Fo (endV root l):=by
 have h0:Fo ld0:=Nat.zero_le _
 have h1:∀ (r:List (List UInt8×List UInt8)) (s:LdV),(∀ x ∈ r,x.1.length≤8000)→Fo s→Fo (r.foldl take1 s):=fun r=>by
  induction r with
  | nil=>exact fun s _ h=>h
  | cons x r ih =>
   intro s hx h
   refine ih _ (fun y hy=>hx y (by simp [hy])) ?_
   show Fo (if _ then _ else _)
   split
   ·exact h.fail _ (hx x (by simp)) _
   ·exact h
 have h2:∀ (r:List (List UInt8×List UInt8)) (s:LdV),(∀ x ∈ r,x.1.length≤8000)→Fo s→Fo (r.foldl take2 s):=fun r=>by
  induction r with
  | nil=>exact fun s _ h=>h
  | cons x r ih =>
   intro s hx h
   refine ih _ (fun y hy=>hx y (by simp [hy])) ?_
   unfold take2
   split
   ·exact h
   ·exact h.fail _ (hx x (by simp)) _
 unfold endV
 refine Fo.vis _ _ _ hr ?_
 unfold begV takeV
 refine Fo.need (h2 l _ hl (h1 l _ hl ?_)) _ hr
 split
 ·exact h0.fail _ (Nat.zero_le _) _
 ·exact h0
end Go.Proofs.YtpbjkgpdkopgmaaGreatDoor
