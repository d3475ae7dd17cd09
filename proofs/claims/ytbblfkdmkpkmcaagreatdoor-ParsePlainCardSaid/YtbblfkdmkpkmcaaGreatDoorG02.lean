/- A region that draws its order, in which some operations read and others make memory: one walk serves every order, if at each step the operation taken either reads alone (and gives one value however memory has grown) or is the only one that can come up. Plain lemmas over any program. A block that the call made, with the values of its cells. Plain lemmas. Texts as lists of bytes. Plain lemmas. Rows of structs that the call owns, of any type: what the call reads and appends. The library's variable; worlds that changed in one block alone. Plain lemmas. Rows of structs that the call owns last where one block alone changed. How constants, fields, methods, definitions lie in memory. Plain lemmas. -/
import Derived.Test.YtbblfkdmkpkmcaaGreatDoorG00
import Derived.Still
import Derived.Deep.Quiet
import Derived.Deep.QuietTactic
import Derived.Test.YtbblfkdmkpkmcaaGreatDoorProg
import Derived.Test.YtbblfkdmkpkmcaaGreatDoorG01
import Derived.WalkSpells
import Derived.BigQuiet
import Derived.Lib.Strings
set_option linter.unusedVariables false
set_option linter.unusedSimpArgs false
set_option linter.unnecessarySimpa false
namespace Go.Proofs.YtbblfkdmkpkmcaaGreatDoor
open Go.RowKit
def Nx (w w':World):Prop:=Below w.heap.size w w'
theorem Nx.refl (w:World):Nx w w:=Below.refl _ _
theorem Nx.trans {a b c:World} (h:Nx a b) (k:Nx b c):Nx a c:=nx h k
theorem Nx.drawn (w:World):Nx w { w with drawn:=w.drawn+1 }:=⟨rfl,rfl,rfl,Nat.le_refl _,fun _ _=>rfl⟩
theorem Nx.drewN (w:World) (n:Nat):Nx w (w.drewN n):=⟨rfl,rfl,rfl,Nat.le_refl _,fun _ _=>rfl⟩
abbrev Gr (w:World):={ w':World // Nx w w' }
instance grNonempty (w:World):Nonempty (Gr w):=⟨⟨w,Nx.refl w⟩⟩
section
variable {P:Program} {ops:Array Oper} {md:Region.Mode}
def calm (P:Program) (o:Oper) (a:Act) (w:World) (next:Act→Prop):Prop :=
 ∃ v,(∀ x:Gr w,o.quietAt P a (fun w''=>w''=x.1) x.1 v)∧next (a.put o.dst v)
def gOp (P:Program) (ops:Array Oper) (i:Nat) (K:Act→World→Prop) (a:Act) (w:World):Prop :=
 match ops[i]? with
 | none=>K a w
 | some o=>if Region.wanted o (yielded ops a.tmps) then o.wp P a w K (fun _ _ _=>False) else K (a.put o.dst undef) w
def GA (P:Program) (md:Region.Mode) (ops:Array Oper) (Q:Act→World→Prop):Nat→Array Bool→Act→World→Prop
 | 0,listed,a,w=>Region.ready md ops listed=[]∧∀ w1,Nx w w1→Q a w1
 | f+1,listed,a,w=>∀ w1,Nx w w1→(Region.ready md ops listed=[]→Q a w1) ∧
   ∀ i ∈ Region.ready md ops listed,gOp P ops i (fun a' w'=>Nx w1 w'∧GA P md ops Q f (listed.setIfInBounds i true) a' w') a w1
theorem GA.grow {Q:Act→World→Prop} {f:Nat} {listed:Array Bool} {a:Act} {w w1:World} (h:GA P md ops Q f listed a w) (hn:Nx w w1):GA P md ops Q f listed a w1:=by
 cases f with
 | zero=>exact ⟨h.1,fun w2 h2=>h.2 w2 (hn.trans h2)⟩
 | succ f=>exact fun w2 h2=>h w2 (hn.trans h2)
theorem wp_mono_both {o:Oper} {a:Act} {w:World} {K K':Act→World→Prop} {Q:Exit→Act→World→Prop} (h:∀ a w,K a w→K' a w) (hh:o.wp P a w K (fun _ _ _=>False)) (hl:True):o.wp P a w K' Q:=by
 unfold Oper.wp at *
 generalize (execOp a.eval o).run P w=r at *
 cases r with
 | ok n w' =>
  cases n <;> simp only [Oper.upon] at hh ⊢
  case value v=>exact h _ _ hh
  case skip=>exact h _ _ hh
  case defer d=>exact h _ _ hh
  case enter f args =>
   refine hh.mono fun e w'' he=>?_
   cases e with
   | returned v=>exact h _ _ he
   | panicked c=>exact he.elim
   | outgrown=>exact absurd he (by simp [LetsOut])
  case row r args=>exact hh.mono fun v w'' he=>h _ _ he
 | halt x w'=>cases x <;> simp only [Oper.upon] at hh
theorem wpAny_of_GA {Q:Act→World→Prop} {Q':Exit→Act→World→Prop} (hQ:∀ a w,Q a w→Q' .normal a w):∀ (f:Nat) (listed:Array Bool) (a:Act) (w:World),
  GA P md ops Q f listed a w→wpAny P md ops Q' f listed a w
 | 0,_,_,w,h=>⟨h.1,hQ _ _ (h.2 w (Nx.refl w))⟩
 | f+1,listed,a,w,h=>by
  refine ⟨fun h0=>hQ _ _ ((h w (Nx.refl w)).1 h0),fun i hi=>?_⟩
  have:=(h w (Nx.refl w)).2 i hi
  unfold gOp at this
  unfold wpOp
  split
  ·rename_i ho;simp only [ho] at this;exact wpAny_of_GA hQ f _ _ _ this.2
  ·rename_i o ho
   simp only [ho] at this
   split
   ·rename_i hw;simp only [hw,if_true] at this;exact .inl (wp_mono_both (fun a' w' h'=>wpAny_of_GA hQ f _ _ _ h'.2) this trivial)
   ·rename_i hw;simp only [hw] at this;exact wpAny_of_GA hQ f _ _ _ this.2
def YG (P:Program) (ops:Array Oper) (w:World) (o:Oper) (v:Value) (a:Act):Prop :=
 (Region.wanted o (yielded ops a.tmps)=true∧∀ x:Gr w,o.quietAt P a (fun w''=>w''=x.1) x.1 v) ∨
 (Region.wanted o (yielded ops a.tmps)=false∧v=undef)
theorem YG.grow {w w1:World} {o:Oper} {v:Value} {a:Act} (h:YG P ops w o v a) (hn:Nx w w1):YG P ops w1 o v a:=by
 rcases h with ⟨h1,h2⟩ | h
 ·exact .inl ⟨h1,fun x=>h2 ⟨x.1,hn.trans x.2⟩⟩
 ·exact .inr h
theorem YG.gOp {i:Nat} {w:World} {o:Oper} {v:Value} {a:Act} (hi:ops[i]? = some o) (hy:YG P ops w o v a) {K:Act→World→Prop} (h:K (a.put o.dst v) w):gOp P ops i K a w:=by
 unfold Go.Proofs.YtbblfkdmkpkmcaaGreatDoor.gOp
 simp only [hi]
 rcases hy with ⟨hw,hv⟩ | ⟨hw,rfl⟩
 ·simp only [hw,if_true]
  have h3:=hv ⟨w,Nx.refl w⟩
  unfold Oper.quietAt at h3
  unfold Oper.wp
  generalize (execOp a.eval o).run P w=r at *
  cases r with
  | ok n w' =>
   cases n <;> simp only [Oper.quietUpon] at h3 <;> simp only [Oper.upon]
   case value u=>obtain ⟨e1,e2⟩:=h3;rw [e1,e2];exact h
   case skip=>obtain ⟨e1,e2⟩:=h3;rw [e1,← e2];exact h
   case enter f args =>
    obtain ⟨e1,hc⟩:=h3
    rw [e1]
    exact hc.mono fun e w'' ⟨he,hw''⟩=>by subst he;rw [hw''];exact h
  | halt x w'=>simp only [Oper.quietUpon] at h3
 ·simp only [hw,Bool.false_eq_true,if_false];exact h
theorem YG.of_same {w:World} {o:Oper} {v:Value} {a a':Act} (hy:YG P ops w o v a) (he:execOp a'.eval o=execOp a.eval o)
  (hw:Region.wanted o (yielded ops a'.tmps)=Region.wanted o (yielded ops a.tmps)):YG P ops w o v a':=by
 unfold YG Oper.quietAt at *
 rw [he,hw]
 exact hy
theorem defers_put (a:Act) (ds:List Deferred) (x:Option Tmp) (v:Value):({ a with defers:=ds }:Act).put x v = { a.put x v with defers:=ds }:=by cases x <;> rfl
theorem gOp_put {j:Nat} {w:World} {oi oj:Oper} {v:Value} (hj:ops[j]? = some oj) (hap:oi.apart ops oj=true)
  (hsi:∀ cs b,oi.op≠.select cs b) (hsj:∀ cs b,oj.op≠.select cs b) {K:Act→World→Prop} {a:Act}
  (hy:YG P ops w oi v a) (h:gOp P ops j K (a.put oi.dst v) w) :
  gOp P ops j (fun a' w'=>YG P ops w oi v a'∧K (a'.put oi.dst v) w') a w:=by
 obtain ⟨h1,h2,h3⟩:=Oper.apart_spec hap
 have keep:∀ u,YG P ops w oi v (a.put oj.dst u):=fun u =>
  hy.of_same (execOp_put oi hsi a oj.dst u h3) (wanted_put oi a oj.dst u h3)
 have pc:∀ u,(a.put oi.dst v).put oj.dst u=(a.put oj.dst u).put oi.dst v:=fun u=>Act.put_comm a v u h2
 unfold Go.Proofs.YtbblfkdmkpkmcaaGreatDoor.gOp at *
 simp only [hj] at *
 rw [wanted_put oj a oi.dst v h1] at h
 split
 ·rename_i hw
  simp only [hw,if_true] at h
  unfold Oper.wp at *
  rw [execOp_put oj hsj a oi.dst v h1] at h
  generalize (execOp a.eval oj).run P w=r at *
  cases r with
  | ok n w' =>
   cases n <;> simp only [Oper.upon] at h ⊢
   case value u=>exact ⟨keep u,by rw [← pc];exact h⟩
   case skip=>exact ⟨keep _,by rw [← pc];exact h⟩
   case defer d =>
    have hd:(a.put oi.dst v).defers=a.defers:=by cases oi.dst <;> rfl
    rw [hd,defers_put,pc] at h
    rw [defers_put]
    refine ⟨(keep undef).of_same rfl rfl,?_⟩
    rw [defers_put]
    exact h
   case enter f args =>
    refine h.mono fun e w'' he=>?_
    cases e with
    | returned u=>exact ⟨keep u,by rw [← pc];exact he⟩
    | panicked c=>exact he.elim
    | outgrown=>exact absurd he (by simp [LetsOut])
   case row r args=>exact h.mono fun u w'' he=>⟨keep u,by rw [← pc];exact he⟩
  | halt x w'=>cases x <;> simp only [Oper.upon] at h
 ·rename_i hw
  simp only [hw] at h
  exact ⟨keep _,by rw [← pc];exact h⟩
theorem gOp_mono {i:Nat} {a:Act} {w:World} {K K':Act→World→Prop} (h:∀ a w,K a w→K' a w) (hh:gOp P ops i K a w):gOp P ops i K' a w:=by
 unfold Go.Proofs.YtbblfkdmkpkmcaaGreatDoor.gOp at *
 split
 ·exact h _ _ (by simpa [*] using hh)
 ·rename_i o ho
  simp only [ho] at hh
  split
  ·rename_i hw;simp only [hw,if_true] at hh;exact wp_mono_both h hh trivial
  ·rename_i hw;simp only [hw] at hh;exact h _ _ hh
theorem GA_first {Q:Act→World→Prop} {i:Nat} {oi:Oper} {v:Value} (hi:ops[i]? = some oi) (hsel:∀ (j:Nat) (o:Oper) cs b,ops[j]? = some o→o.op≠.select cs b) :
  ∀ (f:Nat) (listed:Array Bool) (a:Act) (w:World),
   (∀ j oj,ops[j]? = some oj→j≠i→listed.getD j true=false→(∀ e ∈ oj.after,Region.binds md e=true→e.on≠i)→oi.apart ops oj=true) →
   i ∈ Region.ready md ops listed→YG P ops w oi v a →
   GA P md ops Q f (listed.setIfInBounds i true) (a.put oi.dst v) w→GA P md ops Q (f+1) listed a w:=by
 intro f
 induction f with
 | zero =>
  intro listed a w _ hr hy H w1 hn
  refine ⟨fun h=>(by rw [h] at hr;cases hr),fun j hj=>?_⟩
  by_cases hji:j=i
  ·subst hji;exact (hy.grow hn).gOp hi ⟨Nx.refl _,H.grow hn⟩
  ·have:=ready_mono hj hji
   rw [H.1] at this
   cases this
 | succ f ih =>
  intro listed a w hfree hr hy H w1 hn
  refine ⟨fun h=>(by rw [h] at hr;cases hr),fun j hj=>?_⟩
  by_cases hji:j=i
  ·subst hji;exact (hy.grow hn).gOp hi ⟨Nx.refl _,H.grow hn⟩
  ·have h1:=(H w1 hn).2 j (ready_mono hj hji)
   obtain ⟨hjun,oj,hoj,hall⟩:=mem_ready.1 hj
   have hnot:∀ e ∈ oj.after,Region.binds md e=true→e.on≠i:=fun e he hb heq=>by
    have h1:=hall e he hb
    have h0:=(mem_ready.1 hr).1
    rw [heq] at h1
    rcases Nat.lt_or_ge i listed.size with h' | h'
    ·simp [h'] at h0 h1;rw [h0] at h1;cases h1
    ·simp [Array.getElem?_eq_none h'] at h1
   have h2:=gOp_put hoj (hfree j oj hoj hji hjun hnot) (fun cs b=>hsel i oi cs b hi) (fun cs b=>hsel j oj cs b hoj) (hy.grow hn) h1
   have hfree':∀ k ok,ops[k]? = some ok→k≠i→(listed.setIfInBounds j true).getD k true=false →
     (∀ e ∈ ok.after,Region.binds md e=true→e.on≠i)→oi.apart ops ok=true:=fun k ok hk hki hun hno=>by
    refine hfree k ok hk hki ?_ hno
    by_cases hjk:j=k
    ·subst hjk;exact hjun
    ·rw [getD_set_ne true hjk] at hun;exact hun
   refine gOp_mono (fun a' w' h3=>⟨h3.2.1,ih (listed.setIfInBounds j true) a' w' hfree' (ready_mono hr (Ne.symm hji)) (h3.1.grow h3.2.1) ?_⟩) h2
   rw [Array.setIfInBounds_comm _ _ hji]
   exact h3.2.2
def wpHyb (P:Program) (ops:Array Oper) (Q:Act→World→Prop):List (Nat×Bool)→Act→World→Prop
 | [],a,w=>∀ w1,Nx w w1→Q a w1
 | (k,true) :: rest,a,w=>match ops[k]? with
  | none=>False
  | some o=>if Region.wanted o (yielded ops a.tmps) then calm P o a w (fun a'=>wpHyb P ops Q rest a' w) else wpHyb P ops Q rest (a.put o.dst undef) w
 | (k,false) :: rest,a,w=>∀ w1,Nx w w1→match ops[k]? with
  | none=>False
  | some o=>if Region.wanted o (yielded ops a.tmps) then o.wp P a w1 (fun a' w'=>Nx w1 w'∧wpHyb P ops Q rest a' w') (fun _ _ _=>False) else wpHyb P ops Q rest (a.put o.dst undef) w1
def hybFrom (md:Region.Mode) (ops:Array Oper):List (Nat×Bool)→Array Bool→Bool
 | [],listed=>(Region.ready md ops listed).isEmpty
 | (k,true) :: rest,listed=>(Region.ready md ops listed).contains k && Region.free md ops listed k && hybFrom md ops rest (listed.setIfInBounds k true)
 | (k,false) :: rest,listed=>Region.ready md ops listed == [k] && hybFrom md ops rest (listed.setIfInBounds k true)
def hybB (md:Region.Mode) (ops:Array Oper) (s:List (Nat×Bool)):Bool:=Region.noSelect ops && s.length == ops.size && hybFrom md ops s (Array.replicate ops.size false)
theorem GA_hyb {Q:Act→World→Prop} (hs:Region.noSelect ops=true):∀ (s:List (Nat×Bool)) (listed:Array Bool) (a:Act) (w:World),
  hybFrom md ops s listed=true→wpHyb P ops Q s a w→GA P md ops Q s.length listed a w
 | [],listed,a,w,hB,h=>⟨by simpa [hybFrom] using hB,h⟩
 | (k,true) :: rest,listed,a,w,hB,h=>by
  simp only [hybFrom,Bool.and_eq_true] at hB
  obtain ⟨⟨hr,hf⟩,hB'⟩:=hB
  have hr':k ∈ Region.ready md ops listed:=by simpa using hr
  obtain ⟨_,o,ho,_⟩:=mem_ready.1 hr'
  simp only [wpHyb,ho] at h
  by_cases hw:Region.wanted o (yielded ops a.tmps)=true
  ·simp only [hw,if_true] at h
   obtain ⟨v,h1,h2⟩:=h
   exact GA_first ho (Region.noSelect_spec hs) rest.length listed a w (Region.free_spec ho hf) hr' (.inl ⟨hw,h1⟩) (GA_hyb hs rest _ _ _ hB' h2)
  ·simp only [hw] at h
   exact GA_first ho (Region.noSelect_spec hs) rest.length listed a w (Region.free_spec ho hf) hr' (.inr ⟨by simpa using hw,rfl⟩) (GA_hyb hs rest _ _ _ hB' h)
 | (k,false) :: rest,listed,a,w,hB,h=>by
  simp only [hybFrom,Bool.and_eq_true,beq_iff_eq] at hB
  obtain ⟨hr,hB'⟩:=hB
  intro w1 hn
  refine ⟨fun h0=>(by rw [hr] at h0;cases h0),fun i hi=>?_⟩
  rw [hr] at hi
  obtain rfl:i=k:=by simpa using hi
  have h:=h w1 hn
  unfold gOp
  cases ho:ops[i]? with
  | none=>rw [ho] at h;exact h.elim
  | some o =>
   rw [ho] at h
   simp only at h ⊢
   by_cases hw:Region.wanted o (yielded ops a.tmps)=true
   ·simp only [hw,if_true] at h ⊢
    exact wp_mono_both (fun a' w' h'=>⟨h'.1,GA_hyb hs rest _ _ _ hB' h'.2⟩) h trivial
   ·simp only [hw] at h ⊢
    exact ⟨Nx.refl _,GA_hyb hs rest _ _ _ hB' h⟩
structure Hyb (P:Program) (ops:Array Oper) (Q:Act→World→Prop) (s:List (Nat×Bool)) (a:Act) (w:World):Prop where
 out:wpHyb P ops Q s a w
theorem wp_region_hyb {id:Nat} {Q:Exit→Act→World→Prop} {a:Act} {w:World} {l:List Oper} (s:List (Nat×Bool)) (hm:P.follows .mixedOrders=true) (hB:hybB .any l.toArray s=true)
  (h:Hyb P l.toArray (fun a w=>Q .normal a w) s a w):(Code.region id l.toArray true).wp P Q a w:=by
 simp only [hybB,Bool.and_eq_true,beq_iff_eq] at hB
 obtain ⟨⟨h1,h2⟩,h3⟩:=hB
 refine wp_region_any hm (wpAny_of_GA (Q:=fun a w=>Q .normal a w) (fun _ _ h=>h) _ _ _ _ ?_)
 have:=GA_hyb (md:=.any) h1 s _ _ _ h3 h.out
 rw [h2] at this
 exact this.grow (Nx.drawn w)
theorem hyb_calm {Q:Act→World→Prop} {k:Nat} {o:Oper} {rest:List (Nat×Bool)} {a:Act} {w:World} (ho:ops[k]? = some o)
  (h:∀ K:Act→Prop,(∀ a,Hyb P ops Q rest a w→K a)→if Region.wanted o (yielded ops a.tmps) then calm P o a w K else K (a.put o.dst undef)):Hyb P ops Q ((k,true) :: rest) a w:=by
 refine ⟨?_⟩
 simp only [wpHyb,ho]
 exact h _ (fun _ h=>h.out)
theorem hyb_alone {Q:Act→World→Prop} {k:Nat} {o:Oper} {rest:List (Nat×Bool)} {a:Act} {w:World} (ho:ops[k]? = some o)
  (h:∀ w1,Nx w w1→∀ K:Act→World→Prop,(∀ a' w',Nx w1 w'→Hyb P ops Q rest a' w'→K a' w')→if Region.wanted o (yielded ops a.tmps) then o.wp P a w1 K (fun _ _ _=>False) else K (a.put o.dst undef) w1):Hyb P ops Q ((k,false) :: rest) a w:=by
 refine ⟨?_⟩
 intro w1 hn
 simp only [ho]
 have:=h w1 hn (fun a' w'=>Nx w1 w'∧wpHyb P ops Q rest a' w') (fun a' w' h1 h2=>⟨h1,h2.out⟩)
 split
 ·rename_i hw;simpa [hw] using this
 ·rename_i hw;simp [hw] at this;exact this.2
theorem hyb_nil {Q:Act→World→Prop} {a:Act} {w:World} (h:∀ w1,Nx w w1→Q a w1):Hyb P ops Q [] a w:=⟨h⟩
end
attribute [go_sem] calm
end Go.Proofs.YtbblfkdmkpkmcaaGreatDoor
namespace Go.Proofs.YtbblfkdmkpkmcaaGreatDoor
open Go.RowKit
def Blk (w:World) (B g:Nat) (cs:Array Value) (T:TypeId):Prop:=B≤g∧w.heap[g]? = some (.cells cs T (0,0))
theorem Blk.lt {w:World} {B g:Nat} {cs:Array Value} {T:TypeId} (h:Blk w B g cs T):g<w.heap.size:=by
 rcases Nat.lt_or_ge g w.heap.size with h1 | h1
 ·exact h1
 ·have:=h.2;rw [Array.getElem?_eq_none h1] at this;cases this
theorem Blk.new (w:World) (cs:Array Value) (T:TypeId):Blk (w.alloc (.cells cs T)) w.heap.size w.heap.size cs T:=⟨Nat.le_refl _,heap_alloc_new w _⟩
theorem Blk.less {w:World} {B B' g:Nat} {cs:Array Value} {T:TypeId} (h:Blk w B g cs T) (hB:B'≤B):Blk w B' g cs T:=⟨Nat.le_trans hB h.1,h.2⟩
theorem Blk.below {w w':World} {B g:Nat} {cs:Array Value} {T:TypeId} (h:Blk w B g cs T) (hb:Below w.heap.size w w'):Blk w' B g cs T:=⟨h.1,by rw [hb.block g h.lt];exact h.2⟩
theorem Blk.alloc {w:World} {B g:Nat} {cs:Array Value} {T:TypeId} (h:Blk w B g cs T) (o:Obj):Blk (w.alloc o) B g cs T:=h.below (nx0 w o)
theorem Blk.cell {w:World} {B g:Nat} {cs:Array Value} {T:TypeId} (h:Blk w B g cs T) (i:Nat):w.cell? ⟨g,i,none⟩=cs[i]?:=by
 unfold World.cell?;rw [h.2];rfl
theorem Blk.free {w:World} {B g:Nat} {cs:Array Value} {T:TypeId} (h:Blk w B g cs T) (i:Nat):w.frozen? ⟨g,i,none⟩=false:=by
 unfold World.frozen?;rw [h.2];simp
theorem Blk.put {w:World} {B g:Nat} {cs:Array Value} {T:TypeId} (h:Blk w B g cs T) (i:Nat) (v:Value):Blk (w.setCell ⟨g,i,none⟩ v) B g (cs.setIfInBounds i v) T:=by
 refine ⟨h.1,?_⟩
 have hl:=h.lt
 have h2:=h.2
 rw [Array.getElem?_eq_getElem hl] at h2
 simp only [World.setCell]
 rw [Array.getElem?_modify,if_pos rfl,Array.getElem?_eq_getElem hl,Option.some.inj h2]
 rfl
theorem Blk.other {w:World} {B g k:Nat} {cs:Array Value} {T:TypeId} (h:Blk w B g cs T) (hk:k≠g) (i:Nat) (v:Value):Blk (w.setCell ⟨k,i,none⟩ v) B g cs T:=by
 refine ⟨h.1,?_⟩
 simp only [World.setCell]
 rw [Array.getElem?_modify,if_neg hk];exact h.2
theorem Blk.drew {w:World} {B g:Nat} {cs:Array Value} {T:TypeId} (h:Blk w B g cs T) (n:Nat):Blk (w.drewN n) B g cs T:=h
theorem Nx.put {w w':World} {B g:Nat} {cs:Array Value} {T:TypeId} (h:Nx w w') (hk:Blk w' w.heap.size g cs T) (i:Nat) (v:Value):Nx w (w'.setCell ⟨g,i,none⟩ v):=Below.setCell h hk.1 v
theorem Nx.put' {w w':World} {g:Nat} (h:Nx w w') (hk:w.heap.size≤g) (i:Nat) (v:Value):Nx w (w'.setCell ⟨g,i,none⟩ v):=Below.setCell h hk v
theorem Nx.dr {w w':World} (h:Nx w w') (n:Nat):Nx w (w'.drewN n):=⟨h.os,h.tape,h.output,h.size,h.block⟩
theorem Nx.al {w w':World} (h:Nx w w') (o:Obj):Nx w (w'.alloc o):=nxa h o
end Go.Proofs.YtbblfkdmkpkmcaaGreatDoor
namespace Go.Proofs.YtbblfkdmkpkmcaaGreatDoor
open Go.RowKit
def Tx (s:ByteArray) (l:List UInt8):Prop:=s.data.toList=l
theorem Tx.size {s:ByteArray} {l:List UInt8} (h:Tx s l):s.size=l.length:=by rw [Lib.size_eq,show s.data.toList=l from h]
theorem Tx.eq {s:ByteArray} {l:List UInt8} (h:Tx s l):s=⟨l.toArray⟩:=by rw [← show s.data.toList=l from h,Lib.mk_data]
theorem Tx.toL {s:ByteArray} {l:List UInt8} (h:Tx s l):s.toList=l:=by rw [Lib.toList_data];exact h
theorem Tx.of (l:List UInt8):Tx ⟨l.toArray⟩ l:=by unfold Tx;rfl
theorem Tx.nil {s:ByteArray} (h:Tx s []):s.toList=[]∧s.size=0:=⟨h.toL,h.size⟩
theorem Tx.cons {s:ByteArray} {c:UInt8} {l:List UInt8} (h:Tx s (c :: l)):∃ (hp:0<s.size) (t:ByteArray),s[0]'hp=c∧s.extract 1 s.size=t∧Tx t l∧¬ s.toList=[]∧s.toList.isEmpty=false:=by
 have hz:s.size=l.length+1:=by rw [h.size];rfl
 refine ⟨by omega,s.extract 1 s.size,?_,rfl,?_,by rw [h.toL];simp,by rw [h.toL];rfl⟩
 ·obtain ⟨⟨d⟩⟩:=s
  obtain rfl:d=c :: l:=h
  rfl
 ·unfold Tx
  rw [Lib.extract_data,show s.data.toList=c :: l from h,hz]
  simp
theorem Tx.idx {s:ByteArray} {l:List UInt8} (h:Tx s l) (i:Nat) (hi:i<l.length):∃ hp:i<s.size,s[i]'hp=l[i]:=by
 refine ⟨by rw [h.size];exact hi,?_⟩
 obtain ⟨⟨d⟩⟩:=s
 obtain rfl:d=l:=h
 rfl
theorem Tx.from_ {s:ByteArray} {l:List UInt8} (h:Tx s l) (n:Nat):∃ u,s.extract n s.size=u∧Hid (Tx u (l.drop n)) :=
 ⟨_,rfl,by unfold Hid Tx;rw [Lib.extract_data,show s.data.toList=l from h,h.size,List.take_of_length_le (by simp)]⟩
theorem Tx.upto {s:ByteArray} {l:List UInt8} (h:Tx s l) (n:Nat):∃ u,s.extract 0 n=u∧Hid (Tx u (l.take n)) :=
 ⟨_,rfl,by unfold Hid Tx;rw [Lib.extract_data,show s.data.toList=l from h];simp⟩
theorem Tx.mid {s:ByteArray} {l:List UInt8} (h:Tx s l) (a n:Nat):∃ u,s.extract a n=u∧Hid (Tx u ((l.take n).drop a)) :=
 ⟨_,rfl,by unfold Hid Tx;rw [Lib.extract_data,show s.data.toList=l from h,List.drop_take]⟩
end Go.Proofs.YtbblfkdmkpkmcaaGreatDoor
namespace Go.Proofs.YtbblfkdmkpkmcaaGreatDoor
open Go.RowKit
section
variable {α:Type} {f:α→Array Value} {k:Nat} {T:TypeId}
def rowL (f:α→Array Value) (xs:List α):List Value:=xs.flatMap fun x=>(f x).toList
theorem rowL_length (hf:∀ x,(f x).size=k) (xs:List α):(rowL f xs).length=xs.length * k:=by
 induction xs with
 | nil=>simp [rowL]
 | cons x xs ih =>
  have:rowL f (x :: xs)=(f x).toList++rowL f xs:=rfl
  rw [this,List.length_append,ih,Array.length_toList,hf,List.length_cons,Nat.succ_mul,Nat.add_comm]
theorem rowL_snoc (xs:List α) (x:α):rowL f (xs++[x])=rowL f xs++(f x).toList:=by
 unfold rowL;simp
theorem rowL_get (hf:∀ x,(f x).size=k) (xs:List α) (i:Nat) (hi:i<xs.length) (j:Nat) (hj:j<k):(rowL f xs)[i * k+j]? = (f xs[i])[j]?:=by
 induction xs generalizing i with
 | nil=>simp at hi
 | cons x xs ih =>
  have e:rowL f (x :: xs)=(f x).toList++rowL f xs:=rfl
  have e5:(f x).toList.length=k:=by rw [Array.length_toList];exact hf x
  rw [e]
  cases i with
  | zero =>
   rw [List.getElem?_append_left (by rw [e5];omega),Nat.zero_mul,Nat.zero_add]
   simp
  | succ i =>
   have e6:(i+1) * k=i * k+k:=Nat.succ_mul i k
   rw [List.getElem?_append_right (by rw [e5];omega),e5]
   have:(i+1) * k+j - k=i * k+j:=by omega
   rw [this,ih i (by simpa using hi)]
   simp
def OwnS (f:α→Array Value) (k:Nat) (T:TypeId) (w:World) (B:Nat) (v:Value) (xs:List α):Prop:=w.ownsRow B T k v xs.length (rowL f xs)
def RdS (f:α→Array Value) (k:Nat) (w:World) (A:Option Addr) (xs:List α):Prop :=
 0<xs.length→∃ g,A=some ⟨g,0,none⟩∧g<w.heap.size∧∀ i (h:i<xs.length) j,j<k→w.cell? ⟨g,i * k+j,none⟩=(f xs[i])[j]?
theorem OwnS.nil_ (w:World) (B:Nat):OwnS f k T w B (.slice none 0 0) []:=World.ownsRow_nil w B _ _
theorem OwnS.alloc {w:World} {B:Nat} {v:Value} {xs:List α} (h:OwnS f k T w B v xs) (o:Obj):OwnS f k T (w.alloc o) B v xs:=World.ownsRow.alloc h o
theorem OwnS.less {w:World} {B B':Nat} {v:Value} {xs:List α} (h:OwnS f k T w B v xs) (hB:B'≤B):OwnS f k T w B' v xs:=by
 obtain ⟨h1,h2⟩:=h
 refine ⟨h1,?_⟩
 rcases h2 with h2 | ⟨g,cap,cur,hv,hg,r⟩
 ·exact .inl h2
 ·exact .inr ⟨g,cap,cur,hv,by omega,r⟩
theorem OwnS.nx {w w':World} {B:Nat} {v:Value} {xs:List α} (h:OwnS f k T w B v xs) (ho:Nx w w'):OwnS f k T w' B v xs:=by
 obtain ⟨h1,h2⟩:=h
 refine ⟨h1,?_⟩
 rcases h2 with h2 | ⟨g,cap,cur,hv,hg,hh,r⟩
 ·exact .inl h2
 ·refine .inr ⟨g,cap,cur,hv,hg,?_,r⟩
  rw [ho.block g ?_];exact hh
  rcases Nat.lt_or_ge g w.heap.size with h | h
  ·exact h
  ·rw [Array.getElem?_eq_none h] at hh;cases hh
theorem OwnS.sl (hf:∀ x,(f x).size=k) {w:World} {B:Nat} {v:Value} {xs:List α} (h:OwnS f k T w B v xs):∃ A c,v = .slice A xs.length c∧xs.length≤c∧c≤maxLen∧RdS f k w A xs:=by
 obtain ⟨h1,h2⟩:=h
 rcases h2 with ⟨rfl,h0⟩ | ⟨g,cap,cur,rfl,hg,hh,hn,hm,hs,ht⟩
 ·have:xs=[]:=List.eq_nil_of_length_eq_zero h0
  subst this
  exact ⟨none,0,rfl,Nat.le_refl _,Nat.zero_le _,fun h=>by simp at h⟩
 ·refine ⟨_,cap,rfl,hn,hm,fun _=>⟨g,rfl,?_,fun i hi j hj=>?_⟩⟩
  ·rcases Nat.lt_or_ge g w.heap.size with h | h
   ·exact h
   ·rw [Array.getElem?_eq_none h] at hh;cases hh
  ·have hlt:i * k+j<xs.length * k:=by
    have h1:(i+1) * k≤xs.length * k:=Nat.mul_le_mul_right k hi
    have h2:(i+1) * k=i * k+k:=Nat.succ_mul i k
    omega
   rw [cell_of_row w g (i * k+j) cur _ (0,0) hh,← rowL_get hf xs i hi j hj,← ht,List.getElem?_take,if_pos (by simpa using hlt)]
   simp
theorem RdS.nx {w w':World} {A:Option Addr} {xs:List α} (h:RdS f k w A xs) (hn:Nx w w'):RdS f k w' A xs:=fun h0=>by
 obtain ⟨g,e,hg,hc⟩:=h h0
 refine ⟨g,e,Nat.lt_of_lt_of_le hg hn.size,fun i hi j hj=>?_⟩
 rw [← hc i hi j hj]
 unfold World.cell?
 simp only
 rw [hn.block g hg]
end
section
variable (w:World) {ops:Array Oper} {rest:List Oper} {o:Oper} {a:Act} {Q:Exit→Act→World→Prop} {α:Type} {f:α→Array Value} {k sz:Nat} {T T2:TypeId} {z:Value}
end
end Go.Proofs.YtbblfkdmkpkmcaaGreatDoor
namespace Go.Proofs.YtbblfkdmkpkmcaaGreatDoor
open Go.RowKit
def MaxC (w:World):Prop:=∃ m,w.cell? ⟨0,0,none⟩=some (.int .i64 m)
theorem MaxC.nx {w w':World} (h:MaxC w) (hn:Nx w w'):MaxC w':=by
 obtain ⟨m,hm⟩:=h
 exact ⟨m,(hn.cell (World.block_lt_of_cell? w _ hm)).trans hm⟩
structure Oth (b:Nat) (w w':World):Prop where
 os:w'.os=w.os
 tape:w'.tape=w.tape
 output:w'.output=w.output
 size:w.heap.size≤w'.heap.size
 block:∀ k,k<w.heap.size→k≠b→w'.heap[k]? = w.heap[k]?
theorem Oth.refl (b:Nat) (w:World):Oth b w w:=⟨rfl,rfl,rfl,Nat.le_refl _,fun _ _ _=>rfl⟩
theorem Oth.trans {b:Nat} {x y z:World} (h:Oth b x y) (k:Oth b y z):Oth b x z :=
 ⟨k.os.trans h.os,k.tape.trans h.tape,k.output.trans h.output,Nat.le_trans h.size k.size,fun i hi hb=>(k.block i (Nat.lt_of_lt_of_le hi h.size) hb).trans (h.block i hi hb)⟩
theorem Oth.nx {b:Nat} {w w':World} (h:Nx w w'):Oth b w w':=⟨h.os,h.tape,h.output,h.size,fun k hk _=>h.block k hk⟩
theorem Oth.set (w:World) (b i:Nat) (v:Value):Oth b w (w.setCell ⟨b,i,none⟩ v) :=
 ⟨rfl,rfl,rfl,by simp [World.setCell],fun k _ hk=>by simp only [World.setCell];rw [Array.getElem?_modify,if_neg (fun e=>hk e.symm)]⟩
theorem Oth.to {w w1 w':World} {b:Nat} (h:Oth b w1 w') (hn:Nx w w1) (hb:w.heap.size≤b):Nx w w' :=
 ⟨h.os.trans hn.os,h.tape.trans hn.tape,h.output.trans hn.output,Nat.le_trans hn.size h.size,fun k hk=>(h.block k (Nat.lt_of_lt_of_le hk hn.size) (by omega)).trans (hn.block k hk)⟩
theorem Oth.blk {w w':World} {b B g:Nat} {cs:Array Value} {T:TypeId} (h:Oth b w w') (k:Blk w B g cs T) (hg:g≠b):Blk w' B g cs T :=
 ⟨k.1,by rw [h.block g k.lt hg];exact k.2⟩
theorem Oth.maxC {w w':World} {b:Nat} (h:Oth b w w') (hm:MaxC w) (hb:b≠0):MaxC w':=by
 obtain ⟨m,hm⟩:=hm
 refine ⟨m,?_⟩
 have:=h.block _ (World.block_lt_of_cell? w _ hm) (fun e=>hb e.symm)
 rw [← hm]
 unfold World.cell?
 simp only
 rw [this]
theorem Oth.mono {w w1 w':World} {b:Nat} (h:Oth b w1 w') (hn:Nx w w1):Oth b w w':=(Oth.nx hn).trans h
theorem Oth.put {w w':World} {b g:Nat} (h:Oth b w w') (hg:w.heap.size≤g) (i:Nat) (v:Value):Oth b w (w'.setCell ⟨g,i,none⟩ v) :=
 ⟨h.os,h.tape,h.output,by simp [World.setCell];exact h.size,fun k hk hb=>by simp only [World.setCell];rw [Array.getElem?_modify,if_neg (by omega)];exact h.block k hk hb⟩
theorem Oth.put5 {w w':World} {b g:Nat} {v0 v1 v2 v3 v4:Value} (h:Oth b w w') (hk:w.heap.size≤g) :
  Oth b w (((((w'.setCell ⟨g,0,none⟩ v0).setCell ⟨g,1,none⟩ v1).setCell ⟨g,2,none⟩ v2).setCell ⟨g,3,none⟩ v3).setCell ⟨g,4,none⟩ v4) :=
 ((((h.put hk 0 v0).put hk 1 v1).put hk 2 v2).put hk 3 v3).put hk 4 v4
theorem Oth.own {w w':World} {b i:Nat} {v:Value} (h:Oth b w w'):Oth b w (w'.setCell ⟨b,i,none⟩ v):=h.trans (Oth.set _ _ _ _)
end Go.Proofs.YtbblfkdmkpkmcaaGreatDoor
namespace Go.Proofs.YtbblfkdmkpkmcaaGreatDoor
open Go.RowKit
section
variable {α:Type} {f:α→Array Value} {k:Nat} {T:TypeId}
theorem OwnS.oth {w w':World} {B b:Nat} {v:Value} {xs:List α} (h:OwnS f k T w B v xs) (ho:Oth b w w') (hb:b<B):OwnS f k T w' B v xs:=by
 obtain ⟨h1,h2⟩:=h
 refine ⟨h1,?_⟩
 rcases h2 with h2 | ⟨g,cap,cur,hv,hg,hh,r⟩
 ·exact .inl h2
 ·refine .inr ⟨g,cap,cur,hv,hg,?_,r⟩
  rw [ho.block g ?_ (by omega)];exact hh
  rcases Nat.lt_or_ge g w.heap.size with h | h
  ·exact h
  ·rw [Array.getElem?_eq_none h] at hh;cases hh
end
end Go.Proofs.YtbblfkdmkpkmcaaGreatDoor
namespace Go.Proofs.YtbblfkdmkpkmcaaGreatDoor
open Go.RowKit
def bt (l:List UInt8):Value:=.string ⟨l.toArray⟩
def All2 {α β:Type} (R:α→β→Prop):List α→List β→Prop
 | [],[]=>True
 | x :: xs,y :: ys=>R x y∧All2 R xs ys
 | _,_=>False
theorem All2.len {α β:Type} {R:α→β→Prop}:∀ {xs:List α} {ys:List β},All2 R xs ys→xs.length=ys.length
 | [],[],_=>rfl
 | x :: xs,y :: ys,h=>by simp [All2.len h.2]
 | [],_ :: _,h=>h.elim
 | _ :: _,[],h=>h.elim
theorem All2.mono {α β:Type} {R S:α→β→Prop} (hRS:∀ x y,R x y→S x y):∀ {xs:List α} {ys:List β},All2 R xs ys→All2 S xs ys
 | [],[],_=>trivial
 | x :: xs,y :: ys,h=>⟨hRS _ _ h.1,All2.mono hRS h.2⟩
 | [],_ :: _,h=>h.elim
 | _ :: _,[],h=>h.elim
theorem All2.app {α β:Type} {R:α→β→Prop} {us:List α} {vs:List β} (k:All2 R us vs):∀ {xs:List α} {ys:List β},All2 R xs ys→All2 R (xs++us) (ys++vs)
 | [],[],_=>k
 | x :: xs,y :: ys,h=>⟨h.1,All2.app k h.2⟩
 | [],_ :: _,h=>h.elim
 | _ :: _,[],h=>h.elim
theorem All2.snoc {α β:Type} {R:α→β→Prop} {xs:List α} {ys:List β} {x:α} {y:β} (h:All2 R xs ys) (k:R x y):All2 R (xs++[x]) (ys++[y]):=All2.app (us:=[x]) (vs:=[y]) ⟨k,trivial⟩ h
theorem All2.at_ {α β:Type} {R:α→β→Prop}:∀ {xs:List α} {ys:List β},All2 R xs ys→∀ i (hx:i<xs.length) (hy:i<ys.length),R xs[i] ys[i]
 | x :: xs,y :: ys,h,0,_,_=>h.1
 | x :: xs,y :: ys,h,i+1,hx,hy=>All2.at_ h.2 i (by simpa using hx) (by simpa using hy)
 | [],_ :: _,h,_,_,_=>h.elim
 | _ :: _,[],h,_,_,_=>h.elim
 | [],[],_,i,hx,_=>absurd hx (by simp)
structure ConS where
 k:Nat
 n:Int
 d:Nat
 s:List UInt8
 l:Value
def conA (x:ConS):Array Value:=#[.int .i64 (x.k:Int),.int .i64 x.n,.int .u64 (x.d:Int),bt x.s,x.l]
structure FldS where
 hasID:Bool
 id:Int
 req:Nat
 ty:List UInt8
 nm:List UInt8
 hasIn:Bool
 ini:ConS
def fldA (x:FldS):Array Value:=#[.bool x.hasID,.int .i64 x.id,.int .i64 (x.req:Int),bt x.ty,bt x.nm,.bool x.hasIn,.int .i64 (x.ini.k:Int),.int .i64 x.ini.n,.int .u64 (x.ini.d:Int),bt x.ini.s,x.ini.l]
def memA (x:Mem):Array Value:=#[bt x.nm,.bool x.has,.int .i64 x.n]
structure MetS where
 nm:List UInt8
 one:Bool
 ret:List UInt8
 args:Value
 thr:Value
def metA (x:MetS):Array Value:=#[bt x.nm,.bool x.one,bt x.ret,x.args,x.thr]
structure DfnS where
 k:Nat
 nm:List UInt8
 ty:List UInt8
 ini:ConS
 fields:Value
 mems:Value
 ext:List UInt8
 mets:Value
def dfnA (x:DfnS):Array Value:=#[.int .i64 (x.k:Int),bt x.nm,bt x.ty,.int .i64 (x.ini.k:Int),.int .i64 x.ini.n,.int .u64 (x.ini.d:Int),bt x.ini.s,x.ini.l,x.fields,x.mems,bt x.ext,x.mets]
def spcA (x:Spc):Array Value:=#[bt x.scope,bt x.nm]
def strA (x:List UInt8):Array Value:=#[bt x]
def prA (x:ConS×ConS):Array Value:=conA x.1++conA x.2
structure FilS where
 incs:Value
 spaces:Value
 defs:Value
def filA (x:FilS):Array Value:=#[x.incs,x.spaces,x.defs]
theorem conA_size (x:ConS):(conA x).size=5:=rfl
theorem fldA_size (x:FldS):(fldA x).size=11:=rfl
theorem memA_size (x:Mem):(memA x).size=3:=rfl
theorem metA_size (x:MetS):(metA x).size=5:=rfl
theorem dfnA_size (x:DfnS):(dfnA x).size=12:=rfl
theorem spcA_size (x:Spc):(spcA x).size=2:=rfl
theorem strA_size (x:List UInt8):(strA x).size=1:=rfl
theorem prA_size (x:ConS×ConS):(prA x).size=10:=rfl
def Sl {α:Type} (P:Nat→Prop) (f:α→Array Value) (k:Nat) (T:TypeId) (w:World) (v:Value) (xs:List α):Prop :=
 OwnS f k T w 0 v xs∧∀ g,v.ownBlock=some g→P g
section
variable {α:Type} {f:α→Array Value} {k:Nat} {T:TypeId} {P Q:Nat→Prop} {w w':World} {v:Value} {xs:List α}
theorem OwnS.lt_ {B:Nat} (h:OwnS f k T w B v xs) (g:Nat) (e:v.ownBlock=some g):g<w.heap.size:=(World.ownsRow.lt h g e).2
theorem OwnS.ge_ {B:Nat} (h:OwnS f k T w B v xs) (g:Nat) (e:v.ownBlock=some g):B≤g:=(World.ownsRow.lt h g e).1
theorem OwnS.keep {B:Nat} (h:OwnS f k T w B v xs) (hk:∀ g,v.ownBlock=some g→w'.heap[g]? = w.heap[g]?):OwnS f k T w' B v xs:=by
 obtain ⟨h1,h2⟩:=h
 refine ⟨h1,?_⟩
 rcases h2 with h2 | ⟨g,cap,cur,hv,hg,hh,r⟩
 ·exact .inl h2
 ·refine .inr ⟨g,cap,cur,hv,hg,?_,r⟩
  rw [hk g (by rw [hv];rfl)];exact hh
theorem Sl.nil_:Sl P f k T w (.slice none 0 0) []:=⟨OwnS.nil_ _ _,fun g e=>by cases e⟩
theorem Sl.keep (h:Sl P f k T w v xs) (hk:∀ g,P g→g<w.heap.size→w'.heap[g]? = w.heap[g]?):Sl P f k T w' v xs :=
 ⟨h.1.keep fun g e=>hk g (h.2 g e) (h.1.lt_ g e),h.2⟩
theorem Sl.to (h:Sl P f k T w v xs) (hq:∀ g,P g→g<w.heap.size→Q g):Sl Q f k T w v xs:=⟨h.1,fun g e=>hq g (h.2 g e) (h.1.lt_ g e)⟩
end
structure Mv (P Q:Nat→Prop) (w w':World):Prop where
 keep:∀ g,P g→g<w.heap.size→w'.heap[g]? = w.heap[g]?
 to:∀ g,P g→g<w.heap.size→Q g
theorem Sl.mv {P Q:Nat→Prop} {w w':World} {α:Type} {f:α→Array Value} {k:Nat} {T:TypeId} {v:Value} {xs:List α} (h:Sl P f k T w v xs) (m:Mv P Q w w'):Sl Q f k T w' v xs :=
 ⟨h.1.keep fun g e=>m.keep g (h.2 g e) (h.1.lt_ g e),fun g e=>m.to g (h.2 g e) (h.1.lt_ g e)⟩
def But (P:Nat→Prop) (v:Value) (g:Nat):Prop:=P g∧v.ownBlock≠some g
theorem Mv.but {P Q:Nat→Prop} {w w':World} (m:Mv P Q w w') (v:Value):Mv (But P v) (But Q v) w w':=⟨fun g h hl=>m.keep g h.1 hl,fun g h hl=>⟨m.to g h.1 hl,h.2⟩⟩
def RepL {α β:Type} (f:α→Array Value) (k:Nat) (T:TypeId) (R:World→(Nat→Prop)→α→β→Prop) (w:World) (P:Nat→Prop) (v:Value) (l:List β):Prop :=
 ∃ xs,Sl P f k T w v xs∧All2 (R w (But P v)) xs l
def Lasts {α β:Type} (R:World→(Nat→Prop)→α→β→Prop):Prop:=∀ {P Q:Nat→Prop} {w w':World},Mv P Q w w'→∀ {x:α} {y:β},R w P x y→R w' Q x y
theorem RepL.mv {α β:Type} {f:α→Array Value} {k:Nat} {T:TypeId} {R:World→(Nat→Prop)→α→β→Prop} (hR:Lasts R) {P Q:Nat→Prop} {w w':World} (m:Mv P Q w w') {v:Value} {l:List β} :
  RepL f k T R w P v l→RepL f k T R w' Q v l:=fun ⟨xs,h1,h2⟩=>⟨xs,h1.mv m,h2.mono fun _ _ h=>hR (m.but v) h⟩
theorem RepL.nil_ {α β:Type} {f:α→Array Value} {k:Nat} {T:TypeId} {R:World→(Nat→Prop)→α→β→Prop} {P:Nat→Prop} {w:World}:RepL f k T R w P (.slice none 0 0) ([]:List β) :=
 ⟨[],Sl.nil_,trivial⟩
def RC (n:Nat) (w:World):(Nat→Prop)→ConS→Con→Prop:=Nat.rec (motive:=fun _=>(Nat→Prop)→ConS→Con→Prop) (fun _ _ _=>False)
 (fun _ ih P x c=>match c with | .mk k m d s l=>x.k=k∧x.n=m∧x.d=d∧x.s=s∧∃ ys,Sl P conA 5 50 w x.l ys∧All2 (ih (But P x.l)) ys l) n
theorem RC.lasts:∀ n,Lasts (RC n)
 | 0=>fun _ _ _ h=>h
 | n+1=>fun m x c h=>by
  obtain ⟨k,a,d,s,l⟩:=c
  obtain ⟨h1,h2,h3,h4,ys,h5,h6⟩:=h
  exact ⟨h1,h2,h3,h4,ys,h5.mv m,h6.mono fun x y h=>RC.lasts n (m.but _) h⟩
theorem RC.mk {n:Nat} {w:World} {P:Nat→Prop} {k:Nat} {m:Int} {d:Nat} {s:List UInt8} {v:Value} {l:List Con} (h:RepL conA 5 50 (RC n) w P v l):RC (n+1) w P ⟨k,m,d,s,v⟩ (.mk k m d s l):=by
 obtain ⟨ys,h5,h6⟩:=h
 exact ⟨rfl,rfl,rfl,rfl,ys,h5,h6⟩
theorem RC.of {n:Nat} {w:World} {P:Nat→Prop} {x:ConS} {c:Con} (h:RC (n+1) w P x c):∃ l,c = .mk x.k x.n x.d x.s l∧RepL conA 5 50 (RC n) w P x.l l:=by
 obtain ⟨k,a,d,s,l⟩:=c
 obtain ⟨rfl,rfl,rfl,rfl,ys,h5,h6⟩:=h
 exact ⟨l,rfl,ys,h5,h6⟩
def REq {α:Type} (_:World) (_:Nat→Prop) (x y:α):Prop:=x=y
theorem REq.lasts {α:Type}:Lasts (REq (α:=α)):=fun _ _ _ h=>h
def RPr (n:Nat) (w:World) (P:Nat→Prop) (x:ConS×ConS) (y:Con×Con):Prop:=RC n w P x.1 y.1∧RC n w P x.2 y.2
theorem RPr.lasts (n:Nat):Lasts (RPr n):=fun m _ _ h=>⟨RC.lasts n m h.1,RC.lasts n m h.2⟩
def RF (w:World) (P:Nat→Prop) (x:FldS) (y:Fld):Prop :=
 x.hasID=y.hasID∧x.id=y.id∧x.req=y.req∧x.ty=y.ty∧x.nm=y.nm∧x.hasIn=y.hasIn∧RC 13 w P x.ini y.ini
theorem RF.lasts:Lasts RF:=fun m _ _ h=>⟨h.1,h.2.1,h.2.2.1,h.2.2.2.1,h.2.2.2.2.1,h.2.2.2.2.2.1,RC.lasts 13 m h.2.2.2.2.2.2⟩
def LF:=RepL fldA 11 57 RF
theorem LF.lasts:Lasts LF:=fun m _ _ h=>RepL.mv RF.lasts m h
def RM (w:World) (P:Nat→Prop) (x:MetS) (y:Met):Prop:=x.nm=y.nm∧x.one=y.one∧x.ret=y.ret∧LF w P x.args y.args∧LF w P x.thr y.thr
theorem RM.lasts:Lasts RM:=fun m _ _ h=>⟨h.1,h.2.1,h.2.2.1,LF.lasts m h.2.2.2.1,LF.lasts m h.2.2.2.2⟩
def LM:=RepL metA 5 124 RM
theorem LM.lasts:Lasts LM:=fun m _ _ h=>RepL.mv RM.lasts m h
def LMm:=RepL memA 3 122 (REq (α:=Mem))
theorem LMm.lasts:Lasts LMm:=fun m _ _ h=>RepL.mv REq.lasts m h
def RD (w:World) (P:Nat→Prop) (x:DfnS) (y:Dfn):Prop :=
 x.k=y.k∧x.nm=y.nm∧x.ty=y.ty∧RC 13 w P x.ini y.ini∧LF w P x.fields y.fields∧LMm w P x.mems y.mems∧x.ext=y.ext∧LM w P x.mets y.mets
theorem RD.lasts:Lasts RD:=fun m _ _ h=>⟨h.1,h.2.1,h.2.2.1,RC.lasts 13 m h.2.2.2.1,LF.lasts m h.2.2.2.2.1,LMm.lasts m h.2.2.2.2.2.1,h.2.2.2.2.2.2.1,LM.lasts m h.2.2.2.2.2.2.2⟩
def LD:=RepL dfnA 12 55 RD
theorem LD.lasts:Lasts LD:=fun m _ _ h=>RepL.mv RD.lasts m h
def LS:=RepL spcA 2 82 (REq (α:=Spc))
theorem LS.lasts:Lasts LS:=fun m _ _ h=>RepL.mv REq.lasts m h
def LT:=RepL strA 1 9 (REq (α:=List UInt8))
theorem LT.lasts:Lasts LT:=fun m _ _ h=>RepL.mv REq.lasts m h
def LC (n:Nat):=RepL conA 5 50 (RC n)
theorem LC.lasts (n:Nat):Lasts (LC n):=fun m _ _ h=>RepL.mv (RC.lasts n) m h
def LP (n:Nat):=RepL prA 10 206 (RPr n)
theorem LP.lasts (n:Nat):Lasts (LP n):=fun m _ _ h=>RepL.mv (RPr.lasts n) m h
def RFile (w:World) (P:Nat→Prop) (x:FilS) (y:Fil):Prop:=LT w P x.incs y.incs∧LS w P x.spaces y.spaces∧LD w P x.defs y.defs
theorem RFile.lasts:Lasts RFile:=fun m _ _ h=>⟨LT.lasts m h.1,LS.lasts m h.2.1,LD.lasts m h.2.2⟩
theorem rc_con0 {n:Nat} {w:World} {P:Nat→Prop}:RC (n+1) w P ⟨0,0,0,[],.slice none 0 0⟩ con0:=RC.mk RepL.nil_
def Fm (B:Nat) (g:Nat):Prop:=B≤g
theorem Mv.nx {B C:Nat} {w w':World} (h:Nx w w') (hC:C≤B):Mv (Fm B) (Fm C) w w':=⟨fun g _ hl=>h.block g hl,fun g h _=>Nat.le_trans hC h⟩
theorem Mv.oth {B C b:Nat} {w w':World} (h:Oth b w w') (hC:C≤B) (hb:b<B):Mv (Fm B) (Fm C) w w':=⟨fun g hg hl=>h.block g hl (by have:B≤g:=hg;omega),fun g h _=>Nat.le_trans hC h⟩
theorem Mv.less {B C:Nat} {w:World} (hC:C≤B):Mv (Fm B) (Fm C) w w:=⟨fun _ _ _=>rfl,fun g h _=>Nat.le_trans hC h⟩
end Go.Proofs.YtbblfkdmkpkmcaaGreatDoor
