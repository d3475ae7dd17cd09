/- (Certificates in the place of a search.) A region that draws its order, whose calls may write one old block: what is calm reads others. Plain. value's hasFields. value's hasFields. value's hasFields. -/
import Derived.Test.YtnfelopknfdpfaaDoorG07
import Derived.Test.YtnfelopknfdpfaaDoorG00
import Derived.Test.YtnfelopknfdpfaaDoorG11
set_option linter.unusedVariables false
set_option linter.unusedSimpArgs false
set_option linter.unnecessarySimpa false
namespace Go.Proofs.YtnfelopknfdpfaaDoor
open Go.RowKit
namespace ED
structure Ex where
 l:List Nat
 b:Nat
 c:List (List Nat)
abbrev GrO (b:Nat) (w:World):={ w':World // Oth b w w' }
instance grNonempty (b:Nat) (w:World):Nonempty (GrO b w):=⟨⟨w,Oth.refl b w⟩⟩
section
variable {b:Nat} {ex:Ex} {P:Program} {ops:Array Oper} {md:Region.Mode}
def calmO (b:Nat) (P:Program) (o:Oper) (a:Act) (w:World) (next:Act→Prop):Prop :=
 ∃ v,(∀ x:GrO b w,o.quietAt P a (fun w''=>w''=x.1) x.1 v)∧next (a.put o.dst v)
def YO (b:Nat) (P:Program) (ops:Array Oper) (w:World) (o:Oper) (v:Value) (a:Act):Prop :=
 (Region.wanted o (yielded ops a.tmps)=true∧∀ x:GrO b w,o.quietAt P a (fun w''=>w''=x.1) x.1 v) ∨
 (Region.wanted o (yielded ops a.tmps)=false∧v=undef)
theorem YO.grow {w w1:World} {o:Oper} {v:Value} {a:Act} (h:YO b P ops w o v a) (hn:Oth b w w1):YO b P ops w1 o v a:=by
 rcases h with ⟨h1,h2⟩ | h
 ·exact .inl ⟨h1,fun x=>h2 ⟨x.1,hn.trans x.2⟩⟩
 ·exact .inr h
theorem YO.gOp {i:Nat} {w:World} {o:Oper} {v:Value} {a:Act} (hi:ops[i]? = some o) (hy:YO b P ops w o v a) {K:Act→World→Prop} (h:K (a.put o.dst v) w):gOp P ops i K a w:=by
 unfold Go.Proofs.YtnfelopknfdpfaaDoor.gOp
 simp only [hi]
 rcases hy with ⟨hw,hv⟩ | ⟨hw,rfl⟩
 ·simp only [hw,if_true]
  have h3:=hv ⟨w,Oth.refl b w⟩
  unfold Oper.quietAt at h3
  unfold Oper.wp
  generalize (execOp a.eval o).run P w=r at *
  cases r with
  | ok n w' =>
   cases n <;> simp only [Oper.quietUpon] at h3 <;> simp only [Oper.upon]
   case value u=>obtain ⟨e1,e2⟩:=h3;rw [e1,e2];exact h
   case skip=>obtain ⟨e1,e2⟩:=h3;rw [e1,← e2];exact h
   case enter f args =>
    obtain ⟨e1,hc⟩:=h3
    rw [e1]
    exact hc.mono fun e w'' ⟨he,hw''⟩=>by subst he;rw [hw''];exact h
  | halt x w'=>simp only [Oper.quietUpon] at h3
 ·simp only [hw,Bool.false_eq_true,if_false];exact h
theorem YO.of_same {w:World} {o:Oper} {v:Value} {a a':Act} (hy:YO b P ops w o v a) (he:execOp a'.eval o=execOp a.eval o)
  (hw:Region.wanted o (yielded ops a'.tmps)=Region.wanted o (yielded ops a.tmps)):YO b P ops w o v a':=by
 unfold YO Oper.quietAt at *
 rw [he,hw]
 exact hy
theorem gOp_putO {j:Nat} {w:World} {oi oj:Oper} {v:Value} (hj:ops[j]? = some oj) (hap:oi.apart ops oj=true)
  (hsi:∀ cs b,oi.op≠.select cs b) (hsj:∀ cs b,oj.op≠.select cs b) {K:Act→World→Prop} {a:Act}
  (hy:YO b P ops w oi v a) (h:gOp P ops j K (a.put oi.dst v) w) :
  gOp P ops j (fun a' w'=>YO b P ops w oi v a'∧K (a'.put oi.dst v) w') a w:=by
 obtain ⟨h1,h2,h3⟩:=Oper.apart_spec hap
 have keep:∀ u,YO b P ops w oi v (a.put oj.dst u):=fun u =>
  hy.of_same (execOp_put oi hsi a oj.dst u h3) (wanted_put oi a oj.dst u h3)
 have pc:∀ u,(a.put oi.dst v).put oj.dst u=(a.put oj.dst u).put oi.dst v:=fun u=>Act.put_comm a v u h2
 unfold Go.Proofs.YtnfelopknfdpfaaDoor.gOp at *
 simp only [hj] at *
 rw [wanted_put oj a oi.dst v h1] at h
 split
 ·rename_i hw
  simp only [hw,if_true] at h
  unfold Oper.wp at *
  rw [execOp_put oj hsj a oi.dst v h1] at h
  generalize (execOp a.eval oj).run P w=r at *
  cases r with
  | ok n w' =>
   cases n <;> simp only [Oper.upon] at h ⊢
   case value u=>exact ⟨keep u,by rw [← pc];exact h⟩
   case skip=>exact ⟨keep _,by rw [← pc];exact h⟩
   case defer d =>
    have hd:(a.put oi.dst v).defers=a.defers:=by cases oi.dst <;> rfl
    rw [hd,defers_put,pc] at h
    rw [defers_put]
    refine ⟨(keep undef).of_same rfl rfl,?_⟩
    rw [defers_put]
    exact h
   case enter f args =>
    refine h.mono fun e w'' he=>?_
    cases e with
    | returned u=>exact ⟨keep u,by rw [← pc];exact he⟩
    | panicked c=>exact he.elim
    | outgrown=>exact absurd he (by simp [LetsOut])
   case row r args=>exact h.mono fun u w'' he=>⟨keep u,by rw [← pc];exact he⟩
  | halt x w'=>cases x <;> simp only [Oper.upon] at h
 ·rename_i hw
  simp only [hw] at h
  exact ⟨keep _,by rw [← pc];exact h⟩
def calmA (P:Program) (o:Oper) (a:Act) (next:Act→Prop):Prop :=
 ∃ v,(∀ x:World,o.quietAt P a (fun w''=>w''=x) x v)∧next (a.put o.dst v)
def YA (P:Program) (ops:Array Oper) (o:Oper) (v:Value) (a:Act):Prop:=∀ w,YG P ops w o v a
theorem YA.of_same {o:Oper} {v:Value} {a a':Act} (hy:YA P ops o v a) (he:execOp a'.eval o=execOp a.eval o)
  (hw:Region.wanted o (yielded ops a'.tmps)=Region.wanted o (yielded ops a.tmps)):YA P ops o v a':=fun w=>(hy w).of_same he hw
theorem gOp_putA {j:Nat} {w:World} {oi oj:Oper} {v:Value} (hj:ops[j]? = some oj) (hap:oi.apart ops oj=true)
  (hsi:∀ cs b,oi.op≠.select cs b) (hsj:∀ cs b,oj.op≠.select cs b) {K:Act→World→Prop} {a:Act}
  (hy:YA P ops oi v a) (h:gOp P ops j K (a.put oi.dst v) w) :
  gOp P ops j (fun a' w'=>YA P ops oi v a'∧K (a'.put oi.dst v) w') a w:=by
 obtain ⟨h1,h2,h3⟩:=Oper.apart_spec hap
 have keep:∀ u,YA P ops oi v (a.put oj.dst u):=fun u =>
  hy.of_same (execOp_put oi hsi a oj.dst u h3) (wanted_put oi a oj.dst u h3)
 have pc:∀ u,(a.put oi.dst v).put oj.dst u=(a.put oj.dst u).put oi.dst v:=fun u=>Act.put_comm a v u h2
 unfold Go.Proofs.YtnfelopknfdpfaaDoor.gOp at *
 simp only [hj] at *
 rw [wanted_put oj a oi.dst v h1] at h
 split
 ·rename_i hw
  simp only [hw,if_true] at h
  unfold Oper.wp at *
  rw [execOp_put oj hsj a oi.dst v h1] at h
  generalize (execOp a.eval oj).run P w=r at *
  cases r with
  | ok n w' =>
   cases n <;> simp only [Oper.upon] at h ⊢
   case value u=>exact ⟨keep u,by rw [← pc];exact h⟩
   case skip=>exact ⟨keep _,by rw [← pc];exact h⟩
   case defer d =>
    have hd:(a.put oi.dst v).defers=a.defers:=by cases oi.dst <;> rfl
    rw [hd,defers_put,pc] at h
    rw [defers_put]
    refine ⟨(keep undef).of_same rfl rfl,?_⟩
    rw [defers_put]
    exact h
   case enter f args =>
    refine h.mono fun e w'' he=>?_
    cases e with
    | returned u=>exact ⟨keep u,by rw [← pc];exact he⟩
    | panicked c=>exact he.elim
    | outgrown=>exact absurd he (by simp [LetsOut])
   case row r args=>exact h.mono fun u w'' he=>⟨keep u,by rw [← pc];exact he⟩
  | halt x w'=>cases x <;> simp only [Oper.upon] at h
 ·rename_i hw
  simp only [hw] at h
  exact ⟨keep _,by rw [← pc];exact h⟩
def GA (ex:Ex) (P:Program) (md:Region.Mode) (ops:Array Oper) (Q:Act→World→Prop):Nat→Array Bool→Act→World→Prop
 | 0,listed,a,w=>Region.ready md ops listed=[]∧∀ w1,Nx w w1→Q a w1
 | f+1,listed,a,w=>∀ w1,Nx w w1→(Region.ready md ops listed=[]→Q a w1) ∧
   ∀ i ∈ Region.ready md ops listed,gOp P ops i (fun a' w'=>(i ∈ ex.l∨Oth ex.b w1 w')∧GA ex P md ops Q f (listed.setIfInBounds i true) a' w') a w1
theorem GA.grow {Q:Act→World→Prop} {f:Nat} {listed:Array Bool} {a:Act} {w w1:World} (h:GA ex P md ops Q f listed a w) (hn:Nx w w1):GA ex P md ops Q f listed a w1:=by
 cases f with
 | zero=>exact ⟨h.1,fun w2 h2=>h.2 w2 (hn.trans h2)⟩
 | succ f=>exact fun w2 h2=>h w2 (hn.trans h2)
theorem wpAny_of_GA {Q:Act→World→Prop} {Q':Exit→Act→World→Prop} (hQ:∀ a w,Q a w→Q' .normal a w):∀ (f:Nat) (listed:Array Bool) (a:Act) (w:World),
  GA ex P md ops Q f listed a w→wpAny P md ops Q' f listed a w
 | 0,_,_,w,h=>⟨h.1,hQ _ _ (h.2 w (Nx.refl w))⟩
 | f+1,listed,a,w,h=>by
  refine ⟨fun h0=>hQ _ _ ((h w (Nx.refl w)).1 h0),fun i hi=>?_⟩
  have:=(h w (Nx.refl w)).2 i hi
  unfold gOp at this
  unfold wpOp
  split
  ·rename_i ho;simp only [ho] at this;exact wpAny_of_GA hQ f _ _ _ this.2
  ·rename_i o ho
   simp only [ho] at this
   split
   ·rename_i hw;simp only [hw,if_true] at this;exact .inl (wp_mono_both (fun a' w' h'=>wpAny_of_GA hQ f _ _ _ h'.2) this trivial)
   ·rename_i hw;simp only [hw] at this;exact wpAny_of_GA hQ f _ _ _ this.2
theorem GA_first {Q:Act→World→Prop} {i:Nat} {oi:Oper} {v:Value} (hi:ops[i]? = some oi) (hsel:∀ (j:Nat) (o:Oper) cs b,ops[j]? = some o→o.op≠.select cs b)
  (D:Nat→Bool) (hD1:∀ e ∈ ex.l,D e=true) (hD2:∀ j o,ops[j]? = some o→D j=true→∃ e ∈ o.after,Region.binds md e=true∧(e.on=i∨D e.on=true)) :
  ∀ (f:Nat) (listed:Array Bool) (a:Act) (w:World),
   (∀ j oj,ops[j]? = some oj→j≠i→listed.getD j true=false→(∀ e ∈ oj.after,Region.binds md e=true→e.on≠i)→oi.apart ops oj=true) →
   (∀ j,D j=true→listed.getD j true=false) →
   i ∈ Region.ready md ops listed→YO ex.b P ops w oi v a →
   GA ex P md ops Q f (listed.setIfInBounds i true) (a.put oi.dst v) w→GA ex P md ops Q (f+1) listed a w:=by
 intro f
 induction f with
 | zero =>
  intro listed a w _ _ hr hy H w1 hn
  refine ⟨fun h=>(by rw [h] at hr;cases hr),fun j hj=>?_⟩
  by_cases hji:j=i
  ·subst hji;exact (hy.grow (Oth.nx hn)).gOp hi ⟨.inr (Oth.refl _ _),H.grow hn⟩
  ·have:=ready_mono hj hji
   rw [H.1] at this
   cases this
 | succ f ih =>
  intro listed a w hfree hl hr hy H w1 hn
  refine ⟨fun h=>(by rw [h] at hr;cases hr),fun j hj=>?_⟩
  by_cases hji:j=i
  ·subst hji;exact (hy.grow (Oth.nx hn)).gOp hi ⟨.inr (Oth.refl _ _),H.grow hn⟩
  ·have h1:=(H w1 hn).2 j (ready_mono hj hji)
   obtain ⟨hjun,oj,hoj,hall⟩:=mem_ready.1 hj
   have hnot:∀ e ∈ oj.after,Region.binds md e=true→e.on≠i:=fun e he hb heq=>by
    have h1:=hall e he hb
    have h0:=(mem_ready.1 hr).1
    rw [heq] at h1
    rcases Nat.lt_or_ge i listed.size with h' | h'
    ·simp [h'] at h0 h1;rw [h0] at h1;cases h1
    ·simp [Array.getElem?_eq_none h'] at h1
   have h2:=gOp_putO hoj (hfree j oj hoj hji hjun hnot) (fun cs b=>hsel i oi cs b hi) (fun cs b=>hsel j oj cs b hoj) (hy.grow (Oth.nx hn)) h1
   have hfree':∀ k ok,ops[k]? = some ok→k≠i→(listed.setIfInBounds j true).getD k true=false →
     (∀ e ∈ ok.after,Region.binds md e=true→e.on≠i)→oi.apart ops ok=true:=fun k ok hk hki hun hno=>by
    refine hfree k ok hk hki ?_ hno
    by_cases hjk:j=k
    ·subst hjk;exact hjun
    ·rw [getD_set_ne true hjk] at hun;exact hun
   have hjD:D j=false:=by
    rw [Bool.eq_false_iff]
    intro hd
    obtain ⟨e,he,hb,heq⟩:=hD2 j oj hoj hd
    rcases heq with heq | heq
    ·exact hnot e he hb heq
    ·have h1:=hall e he hb
     have h0:=hl _ heq
     rcases Nat.lt_or_ge e.on listed.size with h' | h'
     ·simp [h'] at h0 h1;rw [h0] at h1;cases h1
     ·simp [Array.getElem?_eq_none h'] at h1
   have hjst:¬ j ∈ ex.l:=fun hm=>by rw [hD1 j hm] at hjD;cases hjD
   have hl':∀ k,D k=true→(listed.setIfInBounds j true).getD k true=false:=fun k hk=>by
    have hne:j≠k:=by rintro rfl;rw [hk] at hjD;cases hjD
    rw [getD_set_ne true hne];exact hl k hk
   refine gOp_mono (fun a' w' h3=>have hN:=h3.2.1.resolve_left hjst;⟨.inr hN,ih (listed.setIfInBounds j true) a' w' hfree' hl' (ready_mono hr (Ne.symm hji)) (h3.1.grow hN) ?_⟩) h2
   rw [Array.setIfInBounds_comm _ _ hji]
   exact h3.2.2
theorem GA_firstA {Q:Act→World→Prop} {i:Nat} {oi:Oper} {v:Value} (hi:ops[i]? = some oi) (hsel:∀ (j:Nat) (o:Oper) cs b,ops[j]? = some o→o.op≠.select cs b) :
  ∀ (f:Nat) (listed:Array Bool) (a:Act) (w:World),
   (∀ j oj,ops[j]? = some oj→j≠i→listed.getD j true=false→(∀ e ∈ oj.after,Region.binds md e=true→e.on≠i)→oi.apart ops oj=true) →
   i ∈ Region.ready md ops listed→YA P ops oi v a →
   GA ex P md ops Q f (listed.setIfInBounds i true) (a.put oi.dst v) w→GA ex P md ops Q (f+1) listed a w:=by
 intro f
 induction f with
 | zero =>
  intro listed a w _ hr hy H w1 hn
  refine ⟨fun h=>(by rw [h] at hr;cases hr),fun j hj=>?_⟩
  by_cases hji:j=i
  ·subst hji;exact (hy w1).gOp hi ⟨.inr (Oth.refl _ _),H.grow hn⟩
  ·have:=ready_mono hj hji
   rw [H.1] at this
   cases this
 | succ f ih =>
  intro listed a w hfree hr hy H w1 hn
  refine ⟨fun h=>(by rw [h] at hr;cases hr),fun j hj=>?_⟩
  by_cases hji:j=i
  ·subst hji;exact (hy w1).gOp hi ⟨.inr (Oth.refl _ _),H.grow hn⟩
  ·have h1:=(H w1 hn).2 j (ready_mono hj hji)
   obtain ⟨hjun,oj,hoj,hall⟩:=mem_ready.1 hj
   have hnot:∀ e ∈ oj.after,Region.binds md e=true→e.on≠i:=fun e he hb heq=>by
    have h1:=hall e he hb
    have h0:=(mem_ready.1 hr).1
    rw [heq] at h1
    rcases Nat.lt_or_ge i listed.size with h' | h'
    ·simp [h'] at h0 h1;rw [h0] at h1;cases h1
    ·simp [Array.getElem?_eq_none h'] at h1
   have h2:=gOp_putA hoj (hfree j oj hoj hji hjun hnot) (fun cs b=>hsel i oi cs b hi) (fun cs b=>hsel j oj cs b hoj) hy h1
   have hfree':∀ k ok,ops[k]? = some ok→k≠i→(listed.setIfInBounds j true).getD k true=false →
     (∀ e ∈ ok.after,Region.binds md e=true→e.on≠i)→oi.apart ops ok=true:=fun k ok hk hki hun hno=>by
    refine hfree k ok hk hki ?_ hno
    by_cases hjk:j=k
    ·subst hjk;exact hjun
    ·rw [getD_set_ne true hjk] at hun;exact hun
   refine gOp_mono (fun a' w' h3=>⟨h3.2.1,ih (listed.setIfInBounds j true) a' w' hfree' (ready_mono hr (Ne.symm hji)) h3.1 ?_⟩) h2
   rw [Array.setIfInBounds_comm _ _ hji]
   exact h3.2.2
def wpHyb (ex:Ex) (P:Program) (ops:Array Oper) (Q:Act→World→Prop):List (Nat×Nat)→Act→World→Prop
 | [],a,w=>∀ w1,Nx w w1→Q a w1
 | (k,0) :: rest,a,w=>∀ w1,Nx w w1→match ops[k]? with
  | none=>False
  | some o=>if Region.wanted o (yielded ops a.tmps) then o.wp P a w1 (fun a' w'=>(k ∈ ex.l∨Oth ex.b w1 w')∧wpHyb ex P ops Q rest a' w') (fun _ _ _=>False) else wpHyb ex P ops Q rest (a.put o.dst undef) w1
 | (k,1) :: rest,a,w=>match ops[k]? with
  | none=>False
  | some o=>if Region.wanted o (yielded ops a.tmps) then calmO ex.b P o a w (fun a'=>wpHyb ex P ops Q rest a' w) else wpHyb ex P ops Q rest (a.put o.dst undef) w
 | (k,_+2) :: rest,a,w=>match ops[k]? with
  | none=>False
  | some o=>if Region.wanted o (yielded ops a.tmps) then calmA P o a (fun a'=>wpHyb ex P ops Q rest a' w) else wpHyb ex P ops Q rest (a.put o.dst undef) w
def edge (ex:Ex) (md:Region.Mode) (ops:Array Oper) (k:Nat) (listed:Array Bool):Bool :=
 ex.l.all (fun st=>(ex.c.getD k []).contains st) && (ex.c.getD k []).all (fun j=>(match ops[j]? with | some o=>o.after.any (fun e=>Region.binds md e && (e.on == k || (ex.c.getD k []).contains e.on)) | none=>false) && !listed.getD j true)
theorem edge_spec {k:Nat} {listed:Array Bool} (h:edge ex md ops k listed=true):(∀ st ∈ ex.l,(ex.c.getD k []).contains st=true)∧(∀ j o,ops[j]? = some o→(ex.c.getD k []).contains j=true→∃ e ∈ o.after,Region.binds md e=true∧(e.on=k∨(ex.c.getD k []).contains e.on=true))∧∀ j,(ex.c.getD k []).contains j=true→listed.getD j true=false:=by
 unfold edge at h
 generalize ex.c.getD k []=D at *
 rw [Bool.and_eq_true,List.all_eq_true,List.all_eq_true] at h
 obtain ⟨h1,h2⟩:=h
 refine ⟨h1,fun j o ho hj=>?_,fun j hj=>?_⟩
 ·have:=h2 j (by simpa using hj)
  rw [ho,Bool.and_eq_true] at this
  obtain ⟨e,he,hb⟩:=Array.any_eq_true'.1 this.1
  simp only [Bool.and_eq_true,Bool.or_eq_true,beq_iff_eq] at hb
  exact ⟨e,he,hb.1,hb.2⟩
 ·have:=h2 j (by simpa using hj)
  rw [Bool.and_eq_true] at this
  simpa using this.2
def hybFrom (ex:Ex) (md:Region.Mode) (ops:Array Oper):List (Nat×Nat)→Array Bool→Bool
 | [],listed=>(Region.ready md ops listed).isEmpty
 | (k,0) :: rest,listed=>Region.ready md ops listed == [k] && hybFrom ex md ops rest (listed.setIfInBounds k true)
 | (k,1) :: rest,listed=>(Region.ready md ops listed).contains k && Region.free md ops listed k && edge ex md ops k listed && hybFrom ex md ops rest (listed.setIfInBounds k true)
 | (k,_+2) :: rest,listed=>(Region.ready md ops listed).contains k && Region.free md ops listed k && hybFrom ex md ops rest (listed.setIfInBounds k true)
def hybB (ex:Ex) (md:Region.Mode) (ops:Array Oper) (s:List (Nat×Nat)):Bool:=Region.noSelect ops && s.length == ops.size && hybFrom ex md ops s (Array.replicate ops.size false)
theorem GA_hyb {Q:Act→World→Prop} (hs:Region.noSelect ops=true):∀ (s:List (Nat×Nat)) (listed:Array Bool) (a:Act) (w:World),
  hybFrom ex md ops s listed=true→wpHyb ex P ops Q s a w→GA ex P md ops Q s.length listed a w
 | [],listed,a,w,hB,h=>⟨by simpa [hybFrom] using hB,h⟩
 | (k,1) :: rest,listed,a,w,hB,h=>by
  simp only [hybFrom,Bool.and_eq_true] at hB
  obtain ⟨⟨⟨hr,hf⟩,hed⟩,hB'⟩:=hB
  have hr':k ∈ Region.ready md ops listed:=by simpa using hr
  obtain ⟨_,o,ho,_⟩:=mem_ready.1 hr'
  simp only [wpHyb,ho] at h
  by_cases hw:Region.wanted o (yielded ops a.tmps)=true
  ·simp only [hw,if_true] at h
   obtain ⟨v,h1,h2⟩:=h
   exact GA_first ho (Region.noSelect_spec hs) _ (edge_spec hed).1 (edge_spec hed).2.1 rest.length listed a w (Region.free_spec ho hf) (edge_spec hed).2.2 hr' (.inl ⟨hw,h1⟩) (GA_hyb hs rest _ _ _ hB' h2)
  ·simp only [hw] at h
   exact GA_first ho (Region.noSelect_spec hs) _ (edge_spec hed).1 (edge_spec hed).2.1 rest.length listed a w (Region.free_spec ho hf) (edge_spec hed).2.2 hr' (.inr ⟨by simpa using hw,rfl⟩) (GA_hyb hs rest _ _ _ hB' h)
 | (k,n+2) :: rest,listed,a,w,hB,h=>by
  simp only [hybFrom,Bool.and_eq_true] at hB
  obtain ⟨⟨hr,hf⟩,hB'⟩:=hB
  have hr':k ∈ Region.ready md ops listed:=by simpa using hr
  obtain ⟨_,o,ho,_⟩:=mem_ready.1 hr'
  simp only [wpHyb,ho] at h
  by_cases hw:Region.wanted o (yielded ops a.tmps)=true
  ·simp only [hw,if_true] at h
   obtain ⟨v,h1,h2⟩:=h
   exact GA_firstA ho (Region.noSelect_spec hs) rest.length listed a w (Region.free_spec ho hf) hr' (fun w=>.inl ⟨hw,fun x=>h1 x.1⟩) (GA_hyb hs rest _ _ _ hB' h2)
  ·simp only [hw] at h
   exact GA_firstA ho (Region.noSelect_spec hs) rest.length listed a w (Region.free_spec ho hf) hr' (fun w=>.inr ⟨by simpa using hw,rfl⟩) (GA_hyb hs rest _ _ _ hB' h)
 | (k,0) :: rest,listed,a,w,hB,h=>by
  simp only [hybFrom,Bool.and_eq_true,beq_iff_eq] at hB
  obtain ⟨hr,hB'⟩:=hB
  intro w1 hn
  refine ⟨fun h0=>(by rw [hr] at h0;cases h0),fun i hi=>?_⟩
  rw [hr] at hi
  obtain rfl:i=k:=by simpa using hi
  have h:=h w1 hn
  unfold gOp
  cases ho:ops[i]? with
  | none=>rw [ho] at h;exact h.elim
  | some o =>
   rw [ho] at h
   simp only at h ⊢
   by_cases hw:Region.wanted o (yielded ops a.tmps)=true
   ·simp only [hw,if_true] at h ⊢
    exact wp_mono_both (fun a' w' h'=>⟨h'.1,GA_hyb hs rest _ _ _ hB' h'.2⟩) h trivial
   ·simp only [hw] at h ⊢
    exact ⟨.inr (Oth.refl _ _),GA_hyb hs rest _ _ _ hB' h⟩
structure Hyb (ex:Ex) (P:Program) (ops:Array Oper) (Q:Act→World→Prop) (s:List (Nat×Nat)) (a:Act) (w:World):Prop where
 out:wpHyb ex P ops Q s a w
theorem wp_region_hyb {id:Nat} {Q:Exit→Act→World→Prop} {a:Act} {w:World} {l:List Oper} (ex:Ex) (s:List (Nat×Nat)) (hm:P.follows .mixedOrders=true) (hB:hybB ex .any l.toArray s=true)
  (h:Hyb ex P l.toArray (fun a w=>Q .normal a w) s a w):(Code.region id l.toArray true).wp P Q a w:=by
 simp only [hybB,Bool.and_eq_true,beq_iff_eq] at hB
 obtain ⟨⟨h1,h2⟩,h3⟩:=hB
 refine wp_region_any hm (wpAny_of_GA (ex:=ex) (Q:=fun a w=>Q .normal a w) (fun _ _ h=>h) _ _ _ _ ?_)
 have:=GA_hyb (ex:=ex) (md:=.any) h1 s _ _ _ h3 h.out
 rw [h2] at this
 exact this.grow (Nx.drawn w)
theorem hyb_calm {Q:Act→World→Prop} {k:Nat} {o:Oper} {rest:List (Nat×Nat)} {a:Act} {w:World} (ho:ops[k]? = some o)
  (h:∀ K:Act→Prop,(∀ a,Hyb ex P ops Q rest a w→K a)→if Region.wanted o (yielded ops a.tmps) then calmO ex.b P o a w K else K (a.put o.dst undef)):Hyb ex P ops Q ((k,1) :: rest) a w:=by
 refine ⟨?_⟩
 simp only [wpHyb,ho]
 exact h _ (fun _ h=>h.out)
theorem hyb_pure {Q:Act→World→Prop} {k:Nat} {o:Oper} {rest:List (Nat×Nat)} {a:Act} {w:World} (ho:ops[k]? = some o)
  (h:∀ K:Act→Prop,(∀ a,Hyb ex P ops Q rest a w→K a)→if Region.wanted o (yielded ops a.tmps) then calmA P o a K else K (a.put o.dst undef)):Hyb ex P ops Q ((k,2) :: rest) a w:=by
 refine ⟨?_⟩
 simp only [wpHyb,ho]
 exact h _ (fun _ h=>h.out)
theorem hyb_alone {Q:Act→World→Prop} {k:Nat} {o:Oper} {rest:List (Nat×Nat)} {a:Act} {w:World} (ho:ops[k]? = some o)
  (h:∀ w1,Nx w w1→∀ K:Act→World→Prop,(∀ a' w',(k ∈ ex.l∨Oth ex.b w1 w')→Hyb ex P ops Q rest a' w'→K a' w')→if Region.wanted o (yielded ops a.tmps) then o.wp P a w1 K (fun _ _ _=>False) else K (a.put o.dst undef) w1):Hyb ex P ops Q ((k,0) :: rest) a w:=by
 refine ⟨?_⟩
 intro w1 hn
 simp only [ho]
 have:=h w1 hn (fun a' w'=>(k ∈ ex.l∨Oth ex.b w1 w')∧wpHyb ex P ops Q rest a' w') (fun a' w' h1 h2=>⟨h1,h2.out⟩)
 split
 ·rename_i hw;simpa [hw] using this
 ·rename_i hw;simp [hw] at this;exact this.2
theorem hyb_nil {Q:Act→World→Prop} {a:Act} {w:World} (h:∀ w1,Nx w w1→Q a w1):Hyb ex P ops Q [] a w:=⟨h⟩
end
attribute [go_sem] calmA calmO
end ED
end Go.Proofs.YtnfelopknfdpfaaDoor
namespace Go.Proofs.YtnfelopknfdpfaaDoor
open Go.RowKit
set_option maxRecDepth 100000 in
set_option maxHeartbeats 25600000 in
theorem hf0 {W B gc gm g5 gr gp F n N M Ic Lc fc:Nat} {IA LA fA:Option Addr} {K xn:Int} {xk:Nat} {xs nm:List UInt8} {s0 s1 s2:Value} {m:List (List UInt8×Option Nat)} {w w1:World} (hg5:w.heap.size=g5) (hw1:w.alloc (.cells #[.int .i64 (xk:Int),.int .i64 xn,.string ⟨xs.toArray⟩,.slice LA M Lc,.slice IA N Ic] 41)=w1) (HC1:Hid (Chk W B gc gm s0 s1 s2 (n:Int) m w1)) (HF1:Hid (FrW W B w w1)) (HG5:Hid (B≤g5)) (HB1:Hid (Blk w1 g5 g5 #[.int .i64 (xk:Int),.int .i64 xn,.string ⟨xs.toArray⟩,.slice LA M Lc,.slice IA N Ic] 41)) (HR3:Hid (Blk w1 B gr #[.int .i64 K,.string ⟨nm.toArray⟩,.slice fA F fc,.map (some gp)] 90)) (e0:((N:Int) == (M:Int))=false) :
  Calls Tryd.prog 16 #[.pointer (some ⟨gc,0,none⟩),.pointer (some ⟨gr,0,none⟩),.agg #[.int .i64 (xk:Int),.int .i64 xn,.string ⟨xs.toArray⟩,.slice LA M Lc,.slice IA N Ic]] w fun e w'=>e = .returned (.bool false)∧(∃ m',Chk W B gc gm s0 s1 s2 (n:Int) m' w')∧FrW W B w w':=by
 have HNE:Hid (g5≠gm∧gr≠gm):=by have h1:=HC1.out.m2;have h2:=HR3.out.1;have h3:=HC1.out.m1;have h4:=HC1.out.sz;unfold Hid;have h5:=HG5.out;omega
 go_enter Tryd.func16,Tryd.ntmps16
 go_upto_region 1 with (fail)
 try rw [hw1]
 clear hw1 hg5
 refine ED.wp_region_hyb ⟨[36],gm,[[1,2,6,7,11,12,22,23,31,32,36],[2,6,7,11,12,22,23,31,32,36],[6,7,11,12,22,23,31,32,36],[4,5,6,7,11,12,22,23,31,32,36],[5,6,7,11,12,22,23,31,32,36],[6,7,11,12,22,23,31,32,36],[7,11,12,22,23,31,32,36],[11,12,22,23,31,32,36],[9,10,12,22,23,31,32,36],[10,12,22,23,31,32,36],[12,22,23,31,32,36],[12,22,23,31,32,36],[22,23,31,32,36],[14,15,16,17,21,23,31,32,36],[15,16,17,21,23,31,32,36],[16,17,21,23,31,32,36],[17,21,23,31,32,36],[21,23,31,32,36],[19,20,21,23,31,32,36],[20,21,23,31,32,36],[21,23,31,32,36],[23,31,32,36],[23,31,32,36],[31,32,36],[25,26,27,30,32,36],[26,27,30,32,36],[27,30,32,36],[30,32,36],[29,30,32,36],[30,32,36],[32,36],[32,36],[36],[36],[36],[36],[],[],[]]⟩ [(0,1),(1,1),(2,1),(3,1),(4,1),(5,1),(6,1),(7,1),(8,1),(9,1),(10,0),(11,1),(12,1),(13,1),(14,1),(15,1),(16,1),(17,1),(18,1),(19,1),(20,1),(21,0),(22,1),(23,1),(24,1),(25,1),(26,1),(27,1),(28,1),(29,1),(30,0),(31,1),(32,1),(33,1),(34,1),(35,1),(36,0),(37,2),(38,2)] (by kernel_rfl) (by kernel_rfl) ?_
 have v3:∀ x:ED.GrO gm w1,x.1.cell? ⟨g5,3,none⟩=some (.slice LA M Lc):=fun x=>(x.2.blk (HB1.out) HNE.out.1).cell 3
 have v4:∀ x:ED.GrO gm w1,x.1.cell? ⟨g5,4,none⟩=some (.slice IA N Ic):=fun x=>(x.2.blk (HB1.out) HNE.out.1).cell 4
 have v0:∀ x:ED.GrO gm w1,x.1.cell? ⟨g5,0,none⟩=some (.int .i64 (xk:Int)):=fun x=>(x.2.blk (HB1.out) HNE.out.1).cell 0
 have v1:∀ x:ED.GrO gm w1,x.1.cell? ⟨g5,1,none⟩=some (.int .i64 xn):=fun x=>(x.2.blk (HB1.out) HNE.out.1).cell 1
 have v2:∀ x:ED.GrO gm w1,x.1.cell? ⟨g5,2,none⟩=some (.string ⟨xs.toArray⟩):=fun x=>(x.2.blk (HB1.out) HNE.out.1).cell 2
 have r0:∀ x:ED.GrO gm w1,x.1.cell? ⟨gr,0,none⟩=some (.int .i64 K):=fun x=>(x.2.blk (HR3.out) HNE.out.2).cell 0
 have r1:∀ x:ED.GrO gm w1,x.1.cell? ⟨gr,1,none⟩=some (.string ⟨nm.toArray⟩):=fun x=>(x.2.blk (HR3.out) HNE.out.2).cell 1
 have r2:∀ x:ED.GrO gm w1,x.1.cell? ⟨gr,2,none⟩=some (.slice fA F fc):=fun x=>(x.2.blk (HR3.out) HNE.out.2).cell 2
 iterate 10 (refine ED.hyb_calm rfl (fun K hK=>?_);go_simp;refine hK _ ?_;clear hK K)
 clear v0 v1 v2 v3 v4 r0 r1 r2
 refine ED.hyb_alone rfl (fun wa1 hnwa1 KK hK=>?_)
 go_simp
 refine hK _ _ (.inr (Oth.refl _ _)) ?_
 clear hK KK
 have HX1:=Lib.hid hnwa1
 clear hnwa1
 have v3:∀ x:ED.GrO gm wa1,x.1.cell? ⟨g5,3,none⟩=some (.slice LA M Lc):=fun x=>(x.2.blk (HB1.out.below HX1.out) HNE.out.1).cell 3
 have v4:∀ x:ED.GrO gm wa1,x.1.cell? ⟨g5,4,none⟩=some (.slice IA N Ic):=fun x=>(x.2.blk (HB1.out.below HX1.out) HNE.out.1).cell 4
 have v0:∀ x:ED.GrO gm wa1,x.1.cell? ⟨g5,0,none⟩=some (.int .i64 (xk:Int)):=fun x=>(x.2.blk (HB1.out.below HX1.out) HNE.out.1).cell 0
 have v1:∀ x:ED.GrO gm wa1,x.1.cell? ⟨g5,1,none⟩=some (.int .i64 xn):=fun x=>(x.2.blk (HB1.out.below HX1.out) HNE.out.1).cell 1
 have v2:∀ x:ED.GrO gm wa1,x.1.cell? ⟨g5,2,none⟩=some (.string ⟨xs.toArray⟩):=fun x=>(x.2.blk (HB1.out.below HX1.out) HNE.out.1).cell 2
 have r0:∀ x:ED.GrO gm wa1,x.1.cell? ⟨gr,0,none⟩=some (.int .i64 K):=fun x=>(x.2.blk (HR3.out.below HX1.out) HNE.out.2).cell 0
 have r1:∀ x:ED.GrO gm wa1,x.1.cell? ⟨gr,1,none⟩=some (.string ⟨nm.toArray⟩):=fun x=>(x.2.blk (HR3.out.below HX1.out) HNE.out.2).cell 1
 have r2:∀ x:ED.GrO gm wa1,x.1.cell? ⟨gr,2,none⟩=some (.slice fA F fc):=fun x=>(x.2.blk (HR3.out.below HX1.out) HNE.out.2).cell 2
 iterate 10 (refine ED.hyb_calm rfl (fun K hK=>?_);go_simp;refine hK _ ?_;clear hK K)
 clear v0 v1 v2 v3 v4 r0 r1 r2
 refine ED.hyb_alone rfl (fun wa2 hnwa2 KK hK=>?_)
 go_simp
 refine hK _ _ (.inr (Oth.refl _ _)) ?_
 clear hK KK
 have HX2:=Lib.hid (HX1.out.trans hnwa2)
 clear hnwa2
 have v3:∀ x:ED.GrO gm wa2,x.1.cell? ⟨g5,3,none⟩=some (.slice LA M Lc):=fun x=>(x.2.blk (HB1.out.below HX2.out) HNE.out.1).cell 3
 have v4:∀ x:ED.GrO gm wa2,x.1.cell? ⟨g5,4,none⟩=some (.slice IA N Ic):=fun x=>(x.2.blk (HB1.out.below HX2.out) HNE.out.1).cell 4
 have v0:∀ x:ED.GrO gm wa2,x.1.cell? ⟨g5,0,none⟩=some (.int .i64 (xk:Int)):=fun x=>(x.2.blk (HB1.out.below HX2.out) HNE.out.1).cell 0
 have v1:∀ x:ED.GrO gm wa2,x.1.cell? ⟨g5,1,none⟩=some (.int .i64 xn):=fun x=>(x.2.blk (HB1.out.below HX2.out) HNE.out.1).cell 1
 have v2:∀ x:ED.GrO gm wa2,x.1.cell? ⟨g5,2,none⟩=some (.string ⟨xs.toArray⟩):=fun x=>(x.2.blk (HB1.out.below HX2.out) HNE.out.1).cell 2
 have r0:∀ x:ED.GrO gm wa2,x.1.cell? ⟨gr,0,none⟩=some (.int .i64 K):=fun x=>(x.2.blk (HR3.out.below HX2.out) HNE.out.2).cell 0
 have r1:∀ x:ED.GrO gm wa2,x.1.cell? ⟨gr,1,none⟩=some (.string ⟨nm.toArray⟩):=fun x=>(x.2.blk (HR3.out.below HX2.out) HNE.out.2).cell 1
 have r2:∀ x:ED.GrO gm wa2,x.1.cell? ⟨gr,2,none⟩=some (.slice fA F fc):=fun x=>(x.2.blk (HR3.out.below HX2.out) HNE.out.2).cell 2
 iterate 8 (refine ED.hyb_calm rfl (fun K hK=>?_);go_simp;refine hK _ ?_;clear hK K)
 clear v0 v1 v2 v3 v4 r0 r1 r2
 refine ED.hyb_alone rfl (fun wa3 hnwa3 KK hK=>?_)
 go_simp
 refine hK _ _ (.inr (Oth.refl _ _)) ?_
 clear hK KK
 have HX3:=Lib.hid (HX2.out.trans hnwa3)
 clear hnwa3
 have v3:∀ x:ED.GrO gm wa3,x.1.cell? ⟨g5,3,none⟩=some (.slice LA M Lc):=fun x=>(x.2.blk (HB1.out.below HX3.out) HNE.out.1).cell 3
 have v4:∀ x:ED.GrO gm wa3,x.1.cell? ⟨g5,4,none⟩=some (.slice IA N Ic):=fun x=>(x.2.blk (HB1.out.below HX3.out) HNE.out.1).cell 4
 have v0:∀ x:ED.GrO gm wa3,x.1.cell? ⟨g5,0,none⟩=some (.int .i64 (xk:Int)):=fun x=>(x.2.blk (HB1.out.below HX3.out) HNE.out.1).cell 0
 have v1:∀ x:ED.GrO gm wa3,x.1.cell? ⟨g5,1,none⟩=some (.int .i64 xn):=fun x=>(x.2.blk (HB1.out.below HX3.out) HNE.out.1).cell 1
 have v2:∀ x:ED.GrO gm wa3,x.1.cell? ⟨g5,2,none⟩=some (.string ⟨xs.toArray⟩):=fun x=>(x.2.blk (HB1.out.below HX3.out) HNE.out.1).cell 2
 have r0:∀ x:ED.GrO gm wa3,x.1.cell? ⟨gr,0,none⟩=some (.int .i64 K):=fun x=>(x.2.blk (HR3.out.below HX3.out) HNE.out.2).cell 0
 have r1:∀ x:ED.GrO gm wa3,x.1.cell? ⟨gr,1,none⟩=some (.string ⟨nm.toArray⟩):=fun x=>(x.2.blk (HR3.out.below HX3.out) HNE.out.2).cell 1
 have r2:∀ x:ED.GrO gm wa3,x.1.cell? ⟨gr,2,none⟩=some (.slice fA F fc):=fun x=>(x.2.blk (HR3.out.below HX3.out) HNE.out.2).cell 2
 iterate 5 (refine ED.hyb_calm rfl (fun K hK=>?_);go_simp;refine hK _ ?_;clear hK K)
 clear v0 v1 v2 v3 v4 r0 r1 r2
 refine ED.hyb_alone rfl (fun wa4 hnwa4 KK hK=>?_)
 go_simp
 refine hK _ _ (.inr (Oth.refl _ _)) ?_
 clear hK KK
 have HX4:=Lib.hid (HX3.out.trans hnwa4)
 clear hnwa4
 have HC9:Hid (∃ m',Chk W B gc gm s0 s1 s2 (n:Int) m' wa4):=⟨m,HC1.out.nx HX4.out⟩
 have HF9:=Lib.hid (FrW.nx (W:=W) (B:=B) HX4.out)
 iterate 2 (refine ED.hyb_pure rfl (fun K hK=>?_);go_simp;refine hK _ ?_;clear hK K)
 refine ED.hyb_nil (fun wz hnz=>?_)
 have HCZ:Hid (∃ m',Chk W B gc gm s0 s1 s2 (n:Int) m' wz):=by obtain ⟨m2,h⟩:=HC9.out;exact ⟨m2,h.nx hnz⟩
 have HFZ:=Lib.hid (HF1.out.trans (HF9.out.trans (FrW.nx hnz)))
 clear hnz
 go_wp2_with fail
 go_ret
 exact ⟨rfl,HCZ.out,HFZ.out⟩
set_option maxRecDepth 100000 in
set_option maxHeartbeats 25600000 in
theorem hf1 {W B gc gm g5 gr gp F n N Ic Lc fc:Nat} {IA LA fA:Option Addr} {K xn:Int} {xk:Nat} {xs nm:List UInt8} {s0 s1 s2:Value} {m:List (List UInt8×Option Nat)} {w w1:World} (hg5:w.heap.size=g5) (hw1:w.alloc (.cells #[.int .i64 (xk:Int),.int .i64 xn,.string ⟨xs.toArray⟩,.slice LA N Lc,.slice IA N Ic] 41)=w1) (HC1:Hid (Chk W B gc gm s0 s1 s2 (n:Int) m w1)) (HF1:Hid (FrW W B w w1)) (HG5:Hid (B≤g5)) (HB1:Hid (Blk w1 g5 g5 #[.int .i64 (xk:Int),.int .i64 xn,.string ⟨xs.toArray⟩,.slice LA N Lc,.slice IA N Ic] 41)) (HR3:Hid (Blk w1 B gr #[.int .i64 K,.string ⟨nm.toArray⟩,.slice fA F fc,.map (some gp)] 90)) (HD:Hid (∀ wx,Nx w1 wx→Calls Tryd.prog 26 #[.slice IA N Ic] wx fun e w'=>e = .returned (.bool false)∧Nx wx w')) :
  Calls Tryd.prog 16 #[.pointer (some ⟨gc,0,none⟩),.pointer (some ⟨gr,0,none⟩),.agg #[.int .i64 (xk:Int),.int .i64 xn,.string ⟨xs.toArray⟩,.slice LA N Lc,.slice IA N Ic]] w fun e w'=>e = .returned (.bool false)∧(∃ m',Chk W B gc gm s0 s1 s2 (n:Int) m' w')∧FrW W B w w':=by
 have e0:((N:Int) == (N:Int))=true:=by simp
 have HNE:Hid (g5≠gm∧gr≠gm):=by have h1:=HC1.out.m2;have h2:=HR3.out.1;have h3:=HC1.out.m1;have h4:=HC1.out.sz;unfold Hid;have h5:=HG5.out;omega
 go_enter Tryd.func16,Tryd.ntmps16
 go_upto_region 1 with (fail)
 try rw [hw1]
 clear hw1 hg5
 refine ED.wp_region_hyb ⟨[36],gm,[[1,2,6,7,11,12,22,23,31,32,36],[2,6,7,11,12,22,23,31,32,36],[6,7,11,12,22,23,31,32,36],[4,5,6,7,11,12,22,23,31,32,36],[5,6,7,11,12,22,23,31,32,36],[6,7,11,12,22,23,31,32,36],[7,11,12,22,23,31,32,36],[11,12,22,23,31,32,36],[9,10,12,22,23,31,32,36],[10,12,22,23,31,32,36],[12,22,23,31,32,36],[12,22,23,31,32,36],[22,23,31,32,36],[14,15,16,17,21,23,31,32,36],[15,16,17,21,23,31,32,36],[16,17,21,23,31,32,36],[17,21,23,31,32,36],[21,23,31,32,36],[19,20,21,23,31,32,36],[20,21,23,31,32,36],[21,23,31,32,36],[23,31,32,36],[23,31,32,36],[31,32,36],[25,26,27,30,32,36],[26,27,30,32,36],[27,30,32,36],[30,32,36],[29,30,32,36],[30,32,36],[32,36],[32,36],[36],[36],[36],[36],[],[],[]]⟩ [(0,1),(1,1),(2,1),(3,1),(4,1),(5,1),(6,1),(7,1),(8,1),(9,1),(10,0),(11,1),(12,1),(13,1),(14,1),(15,1),(16,1),(17,1),(18,1),(19,1),(20,1),(21,0),(22,1),(23,1),(24,1),(25,1),(26,1),(27,1),(28,1),(29,1),(30,0),(31,1),(32,1),(33,1),(34,1),(35,1),(36,0),(37,2),(38,2)] (by kernel_rfl) (by kernel_rfl) ?_
 have v3:∀ x:ED.GrO gm w1,x.1.cell? ⟨g5,3,none⟩=some (.slice LA N Lc):=fun x=>(x.2.blk (HB1.out) HNE.out.1).cell 3
 have v4:∀ x:ED.GrO gm w1,x.1.cell? ⟨g5,4,none⟩=some (.slice IA N Ic):=fun x=>(x.2.blk (HB1.out) HNE.out.1).cell 4
 have v0:∀ x:ED.GrO gm w1,x.1.cell? ⟨g5,0,none⟩=some (.int .i64 (xk:Int)):=fun x=>(x.2.blk (HB1.out) HNE.out.1).cell 0
 have v1:∀ x:ED.GrO gm w1,x.1.cell? ⟨g5,1,none⟩=some (.int .i64 xn):=fun x=>(x.2.blk (HB1.out) HNE.out.1).cell 1
 have v2:∀ x:ED.GrO gm w1,x.1.cell? ⟨g5,2,none⟩=some (.string ⟨xs.toArray⟩):=fun x=>(x.2.blk (HB1.out) HNE.out.1).cell 2
 have r0:∀ x:ED.GrO gm w1,x.1.cell? ⟨gr,0,none⟩=some (.int .i64 K):=fun x=>(x.2.blk (HR3.out) HNE.out.2).cell 0
 have r1:∀ x:ED.GrO gm w1,x.1.cell? ⟨gr,1,none⟩=some (.string ⟨nm.toArray⟩):=fun x=>(x.2.blk (HR3.out) HNE.out.2).cell 1
 have r2:∀ x:ED.GrO gm w1,x.1.cell? ⟨gr,2,none⟩=some (.slice fA F fc):=fun x=>(x.2.blk (HR3.out) HNE.out.2).cell 2
 iterate 10 (refine ED.hyb_calm rfl (fun K hK=>?_);go_simp;refine hK _ ?_;clear hK K)
 clear v0 v1 v2 v3 v4 r0 r1 r2
 refine ED.hyb_alone rfl (fun wa1 hnwa1 KK hK=>?_)
 go_simp
 refine (HD.out wa1 hnwa1).mono ?_;rintro e wb1 ⟨rfl,hnwb1⟩
 refine hK _ _ (.inr (Oth.nx hnwb1)) ?_
 clear hK KK
 have HX1:=Lib.hid (hnwa1.trans hnwb1)
 clear hnwa1 hnwb1
 have v3:∀ x:ED.GrO gm wb1,x.1.cell? ⟨g5,3,none⟩=some (.slice LA N Lc):=fun x=>(x.2.blk (HB1.out.below HX1.out) HNE.out.1).cell 3
 have v4:∀ x:ED.GrO gm wb1,x.1.cell? ⟨g5,4,none⟩=some (.slice IA N Ic):=fun x=>(x.2.blk (HB1.out.below HX1.out) HNE.out.1).cell 4
 have v0:∀ x:ED.GrO gm wb1,x.1.cell? ⟨g5,0,none⟩=some (.int .i64 (xk:Int)):=fun x=>(x.2.blk (HB1.out.below HX1.out) HNE.out.1).cell 0
 have v1:∀ x:ED.GrO gm wb1,x.1.cell? ⟨g5,1,none⟩=some (.int .i64 xn):=fun x=>(x.2.blk (HB1.out.below HX1.out) HNE.out.1).cell 1
 have v2:∀ x:ED.GrO gm wb1,x.1.cell? ⟨g5,2,none⟩=some (.string ⟨xs.toArray⟩):=fun x=>(x.2.blk (HB1.out.below HX1.out) HNE.out.1).cell 2
 have r0:∀ x:ED.GrO gm wb1,x.1.cell? ⟨gr,0,none⟩=some (.int .i64 K):=fun x=>(x.2.blk (HR3.out.below HX1.out) HNE.out.2).cell 0
 have r1:∀ x:ED.GrO gm wb1,x.1.cell? ⟨gr,1,none⟩=some (.string ⟨nm.toArray⟩):=fun x=>(x.2.blk (HR3.out.below HX1.out) HNE.out.2).cell 1
 have r2:∀ x:ED.GrO gm wb1,x.1.cell? ⟨gr,2,none⟩=some (.slice fA F fc):=fun x=>(x.2.blk (HR3.out.below HX1.out) HNE.out.2).cell 2
 iterate 10 (refine ED.hyb_calm rfl (fun K hK=>?_);go_simp;refine hK _ ?_;clear hK K)
 clear v0 v1 v2 v3 v4 r0 r1 r2
 refine ED.hyb_alone rfl (fun wa2 hnwa2 KK hK=>?_)
 go_simp
 refine hK _ _ (.inr (Oth.refl _ _)) ?_
 clear hK KK
 have HX2:=Lib.hid (HX1.out.trans hnwa2)
 clear hnwa2
 have v3:∀ x:ED.GrO gm wa2,x.1.cell? ⟨g5,3,none⟩=some (.slice LA N Lc):=fun x=>(x.2.blk (HB1.out.below HX2.out) HNE.out.1).cell 3
 have v4:∀ x:ED.GrO gm wa2,x.1.cell? ⟨g5,4,none⟩=some (.slice IA N Ic):=fun x=>(x.2.blk (HB1.out.below HX2.out) HNE.out.1).cell 4
 have v0:∀ x:ED.GrO gm wa2,x.1.cell? ⟨g5,0,none⟩=some (.int .i64 (xk:Int)):=fun x=>(x.2.blk (HB1.out.below HX2.out) HNE.out.1).cell 0
 have v1:∀ x:ED.GrO gm wa2,x.1.cell? ⟨g5,1,none⟩=some (.int .i64 xn):=fun x=>(x.2.blk (HB1.out.below HX2.out) HNE.out.1).cell 1
 have v2:∀ x:ED.GrO gm wa2,x.1.cell? ⟨g5,2,none⟩=some (.string ⟨xs.toArray⟩):=fun x=>(x.2.blk (HB1.out.below HX2.out) HNE.out.1).cell 2
 have r0:∀ x:ED.GrO gm wa2,x.1.cell? ⟨gr,0,none⟩=some (.int .i64 K):=fun x=>(x.2.blk (HR3.out.below HX2.out) HNE.out.2).cell 0
 have r1:∀ x:ED.GrO gm wa2,x.1.cell? ⟨gr,1,none⟩=some (.string ⟨nm.toArray⟩):=fun x=>(x.2.blk (HR3.out.below HX2.out) HNE.out.2).cell 1
 have r2:∀ x:ED.GrO gm wa2,x.1.cell? ⟨gr,2,none⟩=some (.slice fA F fc):=fun x=>(x.2.blk (HR3.out.below HX2.out) HNE.out.2).cell 2
 iterate 8 (refine ED.hyb_calm rfl (fun K hK=>?_);go_simp;refine hK _ ?_;clear hK K)
 clear v0 v1 v2 v3 v4 r0 r1 r2
 refine ED.hyb_alone rfl (fun wa3 hnwa3 KK hK=>?_)
 go_simp
 refine hK _ _ (.inr (Oth.refl _ _)) ?_
 clear hK KK
 have HX3:=Lib.hid (HX2.out.trans hnwa3)
 clear hnwa3
 have v3:∀ x:ED.GrO gm wa3,x.1.cell? ⟨g5,3,none⟩=some (.slice LA N Lc):=fun x=>(x.2.blk (HB1.out.below HX3.out) HNE.out.1).cell 3
 have v4:∀ x:ED.GrO gm wa3,x.1.cell? ⟨g5,4,none⟩=some (.slice IA N Ic):=fun x=>(x.2.blk (HB1.out.below HX3.out) HNE.out.1).cell 4
 have v0:∀ x:ED.GrO gm wa3,x.1.cell? ⟨g5,0,none⟩=some (.int .i64 (xk:Int)):=fun x=>(x.2.blk (HB1.out.below HX3.out) HNE.out.1).cell 0
 have v1:∀ x:ED.GrO gm wa3,x.1.cell? ⟨g5,1,none⟩=some (.int .i64 xn):=fun x=>(x.2.blk (HB1.out.below HX3.out) HNE.out.1).cell 1
 have v2:∀ x:ED.GrO gm wa3,x.1.cell? ⟨g5,2,none⟩=some (.string ⟨xs.toArray⟩):=fun x=>(x.2.blk (HB1.out.below HX3.out) HNE.out.1).cell 2
 have r0:∀ x:ED.GrO gm wa3,x.1.cell? ⟨gr,0,none⟩=some (.int .i64 K):=fun x=>(x.2.blk (HR3.out.below HX3.out) HNE.out.2).cell 0
 have r1:∀ x:ED.GrO gm wa3,x.1.cell? ⟨gr,1,none⟩=some (.string ⟨nm.toArray⟩):=fun x=>(x.2.blk (HR3.out.below HX3.out) HNE.out.2).cell 1
 have r2:∀ x:ED.GrO gm wa3,x.1.cell? ⟨gr,2,none⟩=some (.slice fA F fc):=fun x=>(x.2.blk (HR3.out.below HX3.out) HNE.out.2).cell 2
 iterate 5 (refine ED.hyb_calm rfl (fun K hK=>?_);go_simp;refine hK _ ?_;clear hK K)
 clear v0 v1 v2 v3 v4 r0 r1 r2
 refine ED.hyb_alone rfl (fun wa4 hnwa4 KK hK=>?_)
 go_simp
 refine hK _ _ (.inr (Oth.refl _ _)) ?_
 clear hK KK
 have HX4:=Lib.hid (HX3.out.trans hnwa4)
 clear hnwa4
 have HC9:Hid (∃ m',Chk W B gc gm s0 s1 s2 (n:Int) m' wa4):=⟨m,HC1.out.nx HX4.out⟩
 have HF9:=Lib.hid (FrW.nx (W:=W) (B:=B) HX4.out)
 iterate 2 (refine ED.hyb_pure rfl (fun K hK=>?_);go_simp;refine hK _ ?_;clear hK K)
 refine ED.hyb_nil (fun wz hnz=>?_)
 have HCZ:Hid (∃ m',Chk W B gc gm s0 s1 s2 (n:Int) m' wz):=by obtain ⟨m2,h⟩:=HC9.out;exact ⟨m2,h.nx hnz⟩
 have HFZ:=Lib.hid (HF1.out.trans (HF9.out.trans (FrW.nx hnz)))
 clear hnz
 go_wp2_with fail
 go_ret
 exact ⟨rfl,HCZ.out,HFZ.out⟩
end Go.Proofs.YtnfelopknfdpfaaDoor
namespace Go.Proofs.YtnfelopknfdpfaaDoor
open Go.RowKit
set_option maxRecDepth 100000 in
set_option maxHeartbeats 25600000 in
theorem hf2 {W B gc gm g5 gr gp F n N Ic Lc fc:Nat} {IA LA fA:Option Addr} {K xn:Int} {xk:Nat} {xs nm:List UInt8} {s0 s1 s2:Value} {m:List (List UInt8×Option Nat)} {w w1:World} (hg5:w.heap.size=g5) (hw1:w.alloc (.cells #[.int .i64 (xk:Int),.int .i64 xn,.string ⟨xs.toArray⟩,.slice LA N Lc,.slice IA N Ic] 41)=w1) (HC1:Hid (Chk W B gc gm s0 s1 s2 (n:Int) m w1)) (HF1:Hid (FrW W B w w1)) (HG5:Hid (B≤g5)) (HB1:Hid (Blk w1 g5 g5 #[.int .i64 (xk:Int),.int .i64 xn,.string ⟨xs.toArray⟩,.slice LA N Lc,.slice IA N Ic] 41)) (HR3:Hid (Blk w1 B gr #[.int .i64 K,.string ⟨nm.toArray⟩,.slice fA F fc,.map (some gp)] 90)) (HD:Hid (∀ wx,Nx w1 wx→Calls Tryd.prog 26 #[.slice IA N Ic] wx fun e w'=>e = .returned (.bool true)∧Nx wx w')) (HMY:Hid (mayB K N=false)) :
  Calls Tryd.prog 16 #[.pointer (some ⟨gc,0,none⟩),.pointer (some ⟨gr,0,none⟩),.agg #[.int .i64 (xk:Int),.int .i64 xn,.string ⟨xs.toArray⟩,.slice LA N Lc,.slice IA N Ic]] w fun e w'=>e = .returned (.bool false)∧(∃ m',Chk W B gc gm s0 s1 s2 (n:Int) m' w')∧FrW W B w w':=by
 have e0:((N:Int) == (N:Int))=true:=by simp
 have HNE:Hid (g5≠gm∧gr≠gm):=by have h1:=HC1.out.m2;have h2:=HR3.out.1;have h3:=HC1.out.m1;have h4:=HC1.out.sz;unfold Hid;have h5:=HG5.out;omega
 go_enter Tryd.func16,Tryd.ntmps16
 go_upto_region 1 with (fail)
 try rw [hw1]
 clear hw1 hg5
 refine ED.wp_region_hyb ⟨[36],gm,[[1,2,6,7,11,12,22,23,31,32,36],[2,6,7,11,12,22,23,31,32,36],[6,7,11,12,22,23,31,32,36],[4,5,6,7,11,12,22,23,31,32,36],[5,6,7,11,12,22,23,31,32,36],[6,7,11,12,22,23,31,32,36],[7,11,12,22,23,31,32,36],[11,12,22,23,31,32,36],[9,10,12,22,23,31,32,36],[10,12,22,23,31,32,36],[12,22,23,31,32,36],[12,22,23,31,32,36],[22,23,31,32,36],[14,15,16,17,21,23,31,32,36],[15,16,17,21,23,31,32,36],[16,17,21,23,31,32,36],[17,21,23,31,32,36],[21,23,31,32,36],[19,20,21,23,31,32,36],[20,21,23,31,32,36],[21,23,31,32,36],[23,31,32,36],[23,31,32,36],[31,32,36],[25,26,27,30,32,36],[26,27,30,32,36],[27,30,32,36],[30,32,36],[29,30,32,36],[30,32,36],[32,36],[32,36],[36],[36],[36],[36],[],[],[]]⟩ [(0,1),(1,1),(2,1),(3,1),(4,1),(5,1),(6,1),(7,1),(8,1),(9,1),(10,0),(11,1),(12,1),(13,1),(14,1),(15,1),(16,1),(17,1),(18,1),(19,1),(20,1),(21,0),(22,1),(23,1),(24,1),(25,1),(26,1),(27,1),(28,1),(29,1),(30,0),(31,1),(32,1),(33,1),(34,1),(35,1),(36,0),(37,2),(38,2)] (by kernel_rfl) (by kernel_rfl) ?_
 have v3:∀ x:ED.GrO gm w1,x.1.cell? ⟨g5,3,none⟩=some (.slice LA N Lc):=fun x=>(x.2.blk (HB1.out) HNE.out.1).cell 3
 have v4:∀ x:ED.GrO gm w1,x.1.cell? ⟨g5,4,none⟩=some (.slice IA N Ic):=fun x=>(x.2.blk (HB1.out) HNE.out.1).cell 4
 have v0:∀ x:ED.GrO gm w1,x.1.cell? ⟨g5,0,none⟩=some (.int .i64 (xk:Int)):=fun x=>(x.2.blk (HB1.out) HNE.out.1).cell 0
 have v1:∀ x:ED.GrO gm w1,x.1.cell? ⟨g5,1,none⟩=some (.int .i64 xn):=fun x=>(x.2.blk (HB1.out) HNE.out.1).cell 1
 have v2:∀ x:ED.GrO gm w1,x.1.cell? ⟨g5,2,none⟩=some (.string ⟨xs.toArray⟩):=fun x=>(x.2.blk (HB1.out) HNE.out.1).cell 2
 have r0:∀ x:ED.GrO gm w1,x.1.cell? ⟨gr,0,none⟩=some (.int .i64 K):=fun x=>(x.2.blk (HR3.out) HNE.out.2).cell 0
 have r1:∀ x:ED.GrO gm w1,x.1.cell? ⟨gr,1,none⟩=some (.string ⟨nm.toArray⟩):=fun x=>(x.2.blk (HR3.out) HNE.out.2).cell 1
 have r2:∀ x:ED.GrO gm w1,x.1.cell? ⟨gr,2,none⟩=some (.slice fA F fc):=fun x=>(x.2.blk (HR3.out) HNE.out.2).cell 2
 iterate 10 (refine ED.hyb_calm rfl (fun K hK=>?_);go_simp;refine hK _ ?_;clear hK K)
 clear v0 v1 v2 v3 v4 r0 r1 r2
 refine ED.hyb_alone rfl (fun wa1 hnwa1 KK hK=>?_)
 go_simp
 refine (HD.out wa1 hnwa1).mono ?_;rintro e wb1 ⟨rfl,hnwb1⟩
 refine hK _ _ (.inr (Oth.nx hnwb1)) ?_
 clear hK KK
 have HX1:=Lib.hid (hnwa1.trans hnwb1)
 clear hnwa1 hnwb1
 have v3:∀ x:ED.GrO gm wb1,x.1.cell? ⟨g5,3,none⟩=some (.slice LA N Lc):=fun x=>(x.2.blk (HB1.out.below HX1.out) HNE.out.1).cell 3
 have v4:∀ x:ED.GrO gm wb1,x.1.cell? ⟨g5,4,none⟩=some (.slice IA N Ic):=fun x=>(x.2.blk (HB1.out.below HX1.out) HNE.out.1).cell 4
 have v0:∀ x:ED.GrO gm wb1,x.1.cell? ⟨g5,0,none⟩=some (.int .i64 (xk:Int)):=fun x=>(x.2.blk (HB1.out.below HX1.out) HNE.out.1).cell 0
 have v1:∀ x:ED.GrO gm wb1,x.1.cell? ⟨g5,1,none⟩=some (.int .i64 xn):=fun x=>(x.2.blk (HB1.out.below HX1.out) HNE.out.1).cell 1
 have v2:∀ x:ED.GrO gm wb1,x.1.cell? ⟨g5,2,none⟩=some (.string ⟨xs.toArray⟩):=fun x=>(x.2.blk (HB1.out.below HX1.out) HNE.out.1).cell 2
 have r0:∀ x:ED.GrO gm wb1,x.1.cell? ⟨gr,0,none⟩=some (.int .i64 K):=fun x=>(x.2.blk (HR3.out.below HX1.out) HNE.out.2).cell 0
 have r1:∀ x:ED.GrO gm wb1,x.1.cell? ⟨gr,1,none⟩=some (.string ⟨nm.toArray⟩):=fun x=>(x.2.blk (HR3.out.below HX1.out) HNE.out.2).cell 1
 have r2:∀ x:ED.GrO gm wb1,x.1.cell? ⟨gr,2,none⟩=some (.slice fA F fc):=fun x=>(x.2.blk (HR3.out.below HX1.out) HNE.out.2).cell 2
 iterate 10 (refine ED.hyb_calm rfl (fun K hK=>?_);go_simp;refine hK _ ?_;clear hK K)
 clear v0 v1 v2 v3 v4 r0 r1 r2
 refine ED.hyb_alone rfl (fun wa2 hnwa2 KK hK=>?_)
 go_simp
 refine (mayHave_any wa2 K N).mono ?_;rintro e wb2 ⟨rfl,hwwb2⟩
 obtain rfl:=hwwb2.symm
 rw [HMY.out]
 refine hK _ _ (.inr (Oth.refl _ _)) ?_
 clear hK KK
 have HX2:=Lib.hid (HX1.out.trans hnwa2)
 clear hnwa2
 have v3:∀ x:ED.GrO gm wa2,x.1.cell? ⟨g5,3,none⟩=some (.slice LA N Lc):=fun x=>(x.2.blk (HB1.out.below HX2.out) HNE.out.1).cell 3
 have v4:∀ x:ED.GrO gm wa2,x.1.cell? ⟨g5,4,none⟩=some (.slice IA N Ic):=fun x=>(x.2.blk (HB1.out.below HX2.out) HNE.out.1).cell 4
 have v0:∀ x:ED.GrO gm wa2,x.1.cell? ⟨g5,0,none⟩=some (.int .i64 (xk:Int)):=fun x=>(x.2.blk (HB1.out.below HX2.out) HNE.out.1).cell 0
 have v1:∀ x:ED.GrO gm wa2,x.1.cell? ⟨g5,1,none⟩=some (.int .i64 xn):=fun x=>(x.2.blk (HB1.out.below HX2.out) HNE.out.1).cell 1
 have v2:∀ x:ED.GrO gm wa2,x.1.cell? ⟨g5,2,none⟩=some (.string ⟨xs.toArray⟩):=fun x=>(x.2.blk (HB1.out.below HX2.out) HNE.out.1).cell 2
 have r0:∀ x:ED.GrO gm wa2,x.1.cell? ⟨gr,0,none⟩=some (.int .i64 K):=fun x=>(x.2.blk (HR3.out.below HX2.out) HNE.out.2).cell 0
 have r1:∀ x:ED.GrO gm wa2,x.1.cell? ⟨gr,1,none⟩=some (.string ⟨nm.toArray⟩):=fun x=>(x.2.blk (HR3.out.below HX2.out) HNE.out.2).cell 1
 have r2:∀ x:ED.GrO gm wa2,x.1.cell? ⟨gr,2,none⟩=some (.slice fA F fc):=fun x=>(x.2.blk (HR3.out.below HX2.out) HNE.out.2).cell 2
 iterate 8 (refine ED.hyb_calm rfl (fun K hK=>?_);go_simp;refine hK _ ?_;clear hK K)
 clear v0 v1 v2 v3 v4 r0 r1 r2
 refine ED.hyb_alone rfl (fun wa3 hnwa3 KK hK=>?_)
 go_simp
 refine hK _ _ (.inr (Oth.refl _ _)) ?_
 clear hK KK
 have HX3:=Lib.hid (HX2.out.trans hnwa3)
 clear hnwa3
 have v3:∀ x:ED.GrO gm wa3,x.1.cell? ⟨g5,3,none⟩=some (.slice LA N Lc):=fun x=>(x.2.blk (HB1.out.below HX3.out) HNE.out.1).cell 3
 have v4:∀ x:ED.GrO gm wa3,x.1.cell? ⟨g5,4,none⟩=some (.slice IA N Ic):=fun x=>(x.2.blk (HB1.out.below HX3.out) HNE.out.1).cell 4
 have v0:∀ x:ED.GrO gm wa3,x.1.cell? ⟨g5,0,none⟩=some (.int .i64 (xk:Int)):=fun x=>(x.2.blk (HB1.out.below HX3.out) HNE.out.1).cell 0
 have v1:∀ x:ED.GrO gm wa3,x.1.cell? ⟨g5,1,none⟩=some (.int .i64 xn):=fun x=>(x.2.blk (HB1.out.below HX3.out) HNE.out.1).cell 1
 have v2:∀ x:ED.GrO gm wa3,x.1.cell? ⟨g5,2,none⟩=some (.string ⟨xs.toArray⟩):=fun x=>(x.2.blk (HB1.out.below HX3.out) HNE.out.1).cell 2
 have r0:∀ x:ED.GrO gm wa3,x.1.cell? ⟨gr,0,none⟩=some (.int .i64 K):=fun x=>(x.2.blk (HR3.out.below HX3.out) HNE.out.2).cell 0
 have r1:∀ x:ED.GrO gm wa3,x.1.cell? ⟨gr,1,none⟩=some (.string ⟨nm.toArray⟩):=fun x=>(x.2.blk (HR3.out.below HX3.out) HNE.out.2).cell 1
 have r2:∀ x:ED.GrO gm wa3,x.1.cell? ⟨gr,2,none⟩=some (.slice fA F fc):=fun x=>(x.2.blk (HR3.out.below HX3.out) HNE.out.2).cell 2
 iterate 5 (refine ED.hyb_calm rfl (fun K hK=>?_);go_simp;refine hK _ ?_;clear hK K)
 clear v0 v1 v2 v3 v4 r0 r1 r2
 refine ED.hyb_alone rfl (fun wa4 hnwa4 KK hK=>?_)
 go_simp
 refine hK _ _ (.inr (Oth.refl _ _)) ?_
 clear hK KK
 have HX4:=Lib.hid (HX3.out.trans hnwa4)
 clear hnwa4
 have HC9:Hid (∃ m',Chk W B gc gm s0 s1 s2 (n:Int) m' wa4):=⟨m,HC1.out.nx HX4.out⟩
 have HF9:=Lib.hid (FrW.nx (W:=W) (B:=B) HX4.out)
 iterate 2 (refine ED.hyb_pure rfl (fun K hK=>?_);go_simp;refine hK _ ?_;clear hK K)
 refine ED.hyb_nil (fun wz hnz=>?_)
 have HCZ:Hid (∃ m',Chk W B gc gm s0 s1 s2 (n:Int) m' wz):=by obtain ⟨m2,h⟩:=HC9.out;exact ⟨m2,h.nx hnz⟩
 have HFZ:=Lib.hid (HF1.out.trans (HF9.out.trans (FrW.nx hnz)))
 clear hnz
 go_wp2_with fail
 go_ret
 exact ⟨rfl,HCZ.out,HFZ.out⟩
end Go.Proofs.YtnfelopknfdpfaaDoor
namespace Go.Proofs.YtnfelopknfdpfaaDoor
open Go.RowKit
set_option maxRecDepth 100000 in
set_option maxHeartbeats 25600000 in
theorem hf3 {W B gc gm g5 gr gp F n N Ic Lc fc:Nat} {IA LA fA:Option Addr} {K xn:Int} {xk:Nat} {xs nm:List UInt8} {s0 s1 s2:Value} {m:List (List UInt8×Option Nat)} {w w1:World} (hg5:w.heap.size=g5) (hw1:w.alloc (.cells #[.int .i64 (xk:Int),.int .i64 xn,.string ⟨xs.toArray⟩,.slice LA N Lc,.slice IA N Ic] 41)=w1) (HC1:Hid (Chk W B gc gm s0 s1 s2 (n:Int) m w1)) (HF1:Hid (FrW W B w w1)) (HG5:Hid (B≤g5)) (HB1:Hid (Blk w1 g5 g5 #[.int .i64 (xk:Int),.int .i64 xn,.string ⟨xs.toArray⟩,.slice LA N Lc,.slice IA N Ic] 41)) (HR3:Hid (Blk w1 B gr #[.int .i64 K,.string ⟨nm.toArray⟩,.slice fA F fc,.map (some gp)] 90)) (HD:Hid (∀ wx,Nx w1 wx→Calls Tryd.prog 26 #[.slice IA N Ic] wx fun e w'=>e = .returned (.bool true)∧Nx wx w')) (HMY:Hid (mayB K N=true)) (HRQ:Hid (∀ wx,Nx w1 wx→Calls Tryd.prog 28 #[.agg #[.int .i64 K,.string ⟨nm.toArray⟩,.slice fA F fc],.slice IA N Ic] wx fun e w'=>e = .returned (.bool false)∧Nx wx w')) :
  Calls Tryd.prog 16 #[.pointer (some ⟨gc,0,none⟩),.pointer (some ⟨gr,0,none⟩),.agg #[.int .i64 (xk:Int),.int .i64 xn,.string ⟨xs.toArray⟩,.slice LA N Lc,.slice IA N Ic]] w fun e w'=>e = .returned (.bool false)∧(∃ m',Chk W B gc gm s0 s1 s2 (n:Int) m' w')∧FrW W B w w':=by
 have e0:((N:Int) == (N:Int))=true:=by simp
 have HNE:Hid (g5≠gm∧gr≠gm):=by have h1:=HC1.out.m2;have h2:=HR3.out.1;have h3:=HC1.out.m1;have h4:=HC1.out.sz;unfold Hid;have h5:=HG5.out;omega
 go_enter Tryd.func16,Tryd.ntmps16
 go_upto_region 1 with (fail)
 try rw [hw1]
 clear hw1 hg5
 refine ED.wp_region_hyb ⟨[36],gm,[[1,2,6,7,11,12,22,23,31,32,36],[2,6,7,11,12,22,23,31,32,36],[6,7,11,12,22,23,31,32,36],[4,5,6,7,11,12,22,23,31,32,36],[5,6,7,11,12,22,23,31,32,36],[6,7,11,12,22,23,31,32,36],[7,11,12,22,23,31,32,36],[11,12,22,23,31,32,36],[9,10,12,22,23,31,32,36],[10,12,22,23,31,32,36],[12,22,23,31,32,36],[12,22,23,31,32,36],[22,23,31,32,36],[14,15,16,17,21,23,31,32,36],[15,16,17,21,23,31,32,36],[16,17,21,23,31,32,36],[17,21,23,31,32,36],[21,23,31,32,36],[19,20,21,23,31,32,36],[20,21,23,31,32,36],[21,23,31,32,36],[23,31,32,36],[23,31,32,36],[31,32,36],[25,26,27,30,32,36],[26,27,30,32,36],[27,30,32,36],[30,32,36],[29,30,32,36],[30,32,36],[32,36],[32,36],[36],[36],[36],[36],[],[],[]]⟩ [(0,1),(1,1),(2,1),(3,1),(4,1),(5,1),(6,1),(7,1),(8,1),(9,1),(10,0),(11,1),(12,1),(13,1),(14,1),(15,1),(16,1),(17,1),(18,1),(19,1),(20,1),(21,0),(22,1),(23,1),(24,1),(25,1),(26,1),(27,1),(28,1),(29,1),(30,0),(31,1),(32,1),(33,1),(34,1),(35,1),(36,0),(37,2),(38,2)] (by kernel_rfl) (by kernel_rfl) ?_
 have v3:∀ x:ED.GrO gm w1,x.1.cell? ⟨g5,3,none⟩=some (.slice LA N Lc):=fun x=>(x.2.blk (HB1.out) HNE.out.1).cell 3
 have v4:∀ x:ED.GrO gm w1,x.1.cell? ⟨g5,4,none⟩=some (.slice IA N Ic):=fun x=>(x.2.blk (HB1.out) HNE.out.1).cell 4
 have v0:∀ x:ED.GrO gm w1,x.1.cell? ⟨g5,0,none⟩=some (.int .i64 (xk:Int)):=fun x=>(x.2.blk (HB1.out) HNE.out.1).cell 0
 have v1:∀ x:ED.GrO gm w1,x.1.cell? ⟨g5,1,none⟩=some (.int .i64 xn):=fun x=>(x.2.blk (HB1.out) HNE.out.1).cell 1
 have v2:∀ x:ED.GrO gm w1,x.1.cell? ⟨g5,2,none⟩=some (.string ⟨xs.toArray⟩):=fun x=>(x.2.blk (HB1.out) HNE.out.1).cell 2
 have r0:∀ x:ED.GrO gm w1,x.1.cell? ⟨gr,0,none⟩=some (.int .i64 K):=fun x=>(x.2.blk (HR3.out) HNE.out.2).cell 0
 have r1:∀ x:ED.GrO gm w1,x.1.cell? ⟨gr,1,none⟩=some (.string ⟨nm.toArray⟩):=fun x=>(x.2.blk (HR3.out) HNE.out.2).cell 1
 have r2:∀ x:ED.GrO gm w1,x.1.cell? ⟨gr,2,none⟩=some (.slice fA F fc):=fun x=>(x.2.blk (HR3.out) HNE.out.2).cell 2
 iterate 10 (refine ED.hyb_calm rfl (fun K hK=>?_);go_simp;refine hK _ ?_;clear hK K)
 clear v0 v1 v2 v3 v4 r0 r1 r2
 refine ED.hyb_alone rfl (fun wa1 hnwa1 KK hK=>?_)
 go_simp
 refine (HD.out wa1 hnwa1).mono ?_;rintro e wb1 ⟨rfl,hnwb1⟩
 refine hK _ _ (.inr (Oth.nx hnwb1)) ?_
 clear hK KK
 have HX1:=Lib.hid (hnwa1.trans hnwb1)
 clear hnwa1 hnwb1
 have v3:∀ x:ED.GrO gm wb1,x.1.cell? ⟨g5,3,none⟩=some (.slice LA N Lc):=fun x=>(x.2.blk (HB1.out.below HX1.out) HNE.out.1).cell 3
 have v4:∀ x:ED.GrO gm wb1,x.1.cell? ⟨g5,4,none⟩=some (.slice IA N Ic):=fun x=>(x.2.blk (HB1.out.below HX1.out) HNE.out.1).cell 4
 have v0:∀ x:ED.GrO gm wb1,x.1.cell? ⟨g5,0,none⟩=some (.int .i64 (xk:Int)):=fun x=>(x.2.blk (HB1.out.below HX1.out) HNE.out.1).cell 0
 have v1:∀ x:ED.GrO gm wb1,x.1.cell? ⟨g5,1,none⟩=some (.int .i64 xn):=fun x=>(x.2.blk (HB1.out.below HX1.out) HNE.out.1).cell 1
 have v2:∀ x:ED.GrO gm wb1,x.1.cell? ⟨g5,2,none⟩=some (.string ⟨xs.toArray⟩):=fun x=>(x.2.blk (HB1.out.below HX1.out) HNE.out.1).cell 2
 have r0:∀ x:ED.GrO gm wb1,x.1.cell? ⟨gr,0,none⟩=some (.int .i64 K):=fun x=>(x.2.blk (HR3.out.below HX1.out) HNE.out.2).cell 0
 have r1:∀ x:ED.GrO gm wb1,x.1.cell? ⟨gr,1,none⟩=some (.string ⟨nm.toArray⟩):=fun x=>(x.2.blk (HR3.out.below HX1.out) HNE.out.2).cell 1
 have r2:∀ x:ED.GrO gm wb1,x.1.cell? ⟨gr,2,none⟩=some (.slice fA F fc):=fun x=>(x.2.blk (HR3.out.below HX1.out) HNE.out.2).cell 2
 iterate 10 (refine ED.hyb_calm rfl (fun K hK=>?_);go_simp;refine hK _ ?_;clear hK K)
 clear v0 v1 v2 v3 v4 r0 r1 r2
 refine ED.hyb_alone rfl (fun wa2 hnwa2 KK hK=>?_)
 go_simp
 refine (mayHave_any wa2 K N).mono ?_;rintro e wb2 ⟨rfl,hwwb2⟩
 obtain rfl:=hwwb2.symm
 rw [HMY.out]
 refine hK _ _ (.inr (Oth.refl _ _)) ?_
 clear hK KK
 have HX2:=Lib.hid (HX1.out.trans hnwa2)
 clear hnwa2
 have v3:∀ x:ED.GrO gm wa2,x.1.cell? ⟨g5,3,none⟩=some (.slice LA N Lc):=fun x=>(x.2.blk (HB1.out.below HX2.out) HNE.out.1).cell 3
 have v4:∀ x:ED.GrO gm wa2,x.1.cell? ⟨g5,4,none⟩=some (.slice IA N Ic):=fun x=>(x.2.blk (HB1.out.below HX2.out) HNE.out.1).cell 4
 have v0:∀ x:ED.GrO gm wa2,x.1.cell? ⟨g5,0,none⟩=some (.int .i64 (xk:Int)):=fun x=>(x.2.blk (HB1.out.below HX2.out) HNE.out.1).cell 0
 have v1:∀ x:ED.GrO gm wa2,x.1.cell? ⟨g5,1,none⟩=some (.int .i64 xn):=fun x=>(x.2.blk (HB1.out.below HX2.out) HNE.out.1).cell 1
 have v2:∀ x:ED.GrO gm wa2,x.1.cell? ⟨g5,2,none⟩=some (.string ⟨xs.toArray⟩):=fun x=>(x.2.blk (HB1.out.below HX2.out) HNE.out.1).cell 2
 have r0:∀ x:ED.GrO gm wa2,x.1.cell? ⟨gr,0,none⟩=some (.int .i64 K):=fun x=>(x.2.blk (HR3.out.below HX2.out) HNE.out.2).cell 0
 have r1:∀ x:ED.GrO gm wa2,x.1.cell? ⟨gr,1,none⟩=some (.string ⟨nm.toArray⟩):=fun x=>(x.2.blk (HR3.out.below HX2.out) HNE.out.2).cell 1
 have r2:∀ x:ED.GrO gm wa2,x.1.cell? ⟨gr,2,none⟩=some (.slice fA F fc):=fun x=>(x.2.blk (HR3.out.below HX2.out) HNE.out.2).cell 2
 iterate 8 (refine ED.hyb_calm rfl (fun K hK=>?_);go_simp;refine hK _ ?_;clear hK K)
 clear v0 v1 v2 v3 v4 r0 r1 r2
 refine ED.hyb_alone rfl (fun wa3 hnwa3 KK hK=>?_)
 go_simp
 refine (HRQ.out wa3 (HX2.out.trans hnwa3)).mono ?_;rintro e wb3 ⟨rfl,hnwb3⟩
 refine hK _ _ (.inr (Oth.nx hnwb3)) ?_
 clear hK KK
 have HX3:=Lib.hid ((HX2.out.trans hnwa3).trans hnwb3)
 clear hnwa3 hnwb3
 have v3:∀ x:ED.GrO gm wb3,x.1.cell? ⟨g5,3,none⟩=some (.slice LA N Lc):=fun x=>(x.2.blk (HB1.out.below HX3.out) HNE.out.1).cell 3
 have v4:∀ x:ED.GrO gm wb3,x.1.cell? ⟨g5,4,none⟩=some (.slice IA N Ic):=fun x=>(x.2.blk (HB1.out.below HX3.out) HNE.out.1).cell 4
 have v0:∀ x:ED.GrO gm wb3,x.1.cell? ⟨g5,0,none⟩=some (.int .i64 (xk:Int)):=fun x=>(x.2.blk (HB1.out.below HX3.out) HNE.out.1).cell 0
 have v1:∀ x:ED.GrO gm wb3,x.1.cell? ⟨g5,1,none⟩=some (.int .i64 xn):=fun x=>(x.2.blk (HB1.out.below HX3.out) HNE.out.1).cell 1
 have v2:∀ x:ED.GrO gm wb3,x.1.cell? ⟨g5,2,none⟩=some (.string ⟨xs.toArray⟩):=fun x=>(x.2.blk (HB1.out.below HX3.out) HNE.out.1).cell 2
 have r0:∀ x:ED.GrO gm wb3,x.1.cell? ⟨gr,0,none⟩=some (.int .i64 K):=fun x=>(x.2.blk (HR3.out.below HX3.out) HNE.out.2).cell 0
 have r1:∀ x:ED.GrO gm wb3,x.1.cell? ⟨gr,1,none⟩=some (.string ⟨nm.toArray⟩):=fun x=>(x.2.blk (HR3.out.below HX3.out) HNE.out.2).cell 1
 have r2:∀ x:ED.GrO gm wb3,x.1.cell? ⟨gr,2,none⟩=some (.slice fA F fc):=fun x=>(x.2.blk (HR3.out.below HX3.out) HNE.out.2).cell 2
 iterate 5 (refine ED.hyb_calm rfl (fun K hK=>?_);go_simp;refine hK _ ?_;clear hK K)
 clear v0 v1 v2 v3 v4 r0 r1 r2
 refine ED.hyb_alone rfl (fun wa4 hnwa4 KK hK=>?_)
 go_simp
 refine hK _ _ (.inr (Oth.refl _ _)) ?_
 clear hK KK
 have HX4:=Lib.hid (HX3.out.trans hnwa4)
 clear hnwa4
 have HC9:Hid (∃ m',Chk W B gc gm s0 s1 s2 (n:Int) m' wa4):=⟨m,HC1.out.nx HX4.out⟩
 have HF9:=Lib.hid (FrW.nx (W:=W) (B:=B) HX4.out)
 iterate 2 (refine ED.hyb_pure rfl (fun K hK=>?_);go_simp;refine hK _ ?_;clear hK K)
 refine ED.hyb_nil (fun wz hnz=>?_)
 have HCZ:Hid (∃ m',Chk W B gc gm s0 s1 s2 (n:Int) m' wz):=by obtain ⟨m2,h⟩:=HC9.out;exact ⟨m2,h.nx hnz⟩
 have HFZ:=Lib.hid (HF1.out.trans (HF9.out.trans (FrW.nx hnz)))
 clear hnz
 go_wp2_with fail
 go_ret
 exact ⟨rfl,HCZ.out,HFZ.out⟩
end Go.Proofs.YtnfelopknfdpfaaDoor
