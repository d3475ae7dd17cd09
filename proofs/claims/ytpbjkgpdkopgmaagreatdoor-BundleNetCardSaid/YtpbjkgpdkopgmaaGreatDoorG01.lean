/- A region that draws its order, in which some operations read and others make memory: one walk serves every order, if at each step the operation taken either reads alone (and gives one value however memory has grown) or is the only one that can come up. Plain lemmas over any program. A block that the call made, with the values of its cells. Plain lemmas. Texts as lists of bytes. Plain lemmas. The library's variable; worlds that changed in one block alone. Plain lemmas. Rows of words that a call owns; worlds that changed in one block alone. Plain lemmas. The contracts of dec's cutting of texts: a sign, digits. -/
import Derived.Test.YtpbjkgpdkopgmaaGreatDoorG00
import Derived.Still
import Derived.Deep.Quiet
import Derived.Deep.QuietTactic
import Derived.Test.YtpbjkgpdkopgmaaGreatDoorProg
import Derived.WalkSpells
import Derived.BigQuiet
import Derived.Lib.Strings
import Derived.Maps.AppendAt
set_option linter.unusedVariables false
set_option linter.unusedSimpArgs false
set_option linter.unnecessarySimpa false
namespace Go.Proofs.YtpbjkgpdkopgmaaGreatDoor
open Go.RowKit
def Nx (w w':World):Prop:=Below w.heap.size w w'
theorem Nx.refl (w:World):Nx w w:=Below.refl _ _
theorem Nx.trans {a b c:World} (h:Nx a b) (k:Nx b c):Nx a c:=nx h k
theorem Nx.drawn (w:World):Nx w { w with drawn:=w.drawn+1 }:=⟨rfl,rfl,rfl,Nat.le_refl _,fun _ _=>rfl⟩
theorem Nx.drewN (w:World) (n:Nat):Nx w (w.drewN n):=⟨rfl,rfl,rfl,Nat.le_refl _,fun _ _=>rfl⟩
abbrev Gr (w:World):={ w':World // Nx w w' }
instance grNonempty (w:World):Nonempty (Gr w):=⟨⟨w,Nx.refl w⟩⟩
section
variable {P:Program} {ops:Array Oper} {md:Region.Mode}
def calm (P:Program) (o:Oper) (a:Act) (w:World) (next:Act→Prop):Prop :=
 ∃ v,(∀ x:Gr w,o.quietAt P a (fun w''=>w''=x.1) x.1 v)∧next (a.put o.dst v)
def gOp (P:Program) (ops:Array Oper) (i:Nat) (K:Act→World→Prop) (a:Act) (w:World):Prop :=
 match ops[i]? with
 | none=>K a w
 | some o=>if Region.wanted o (yielded ops a.tmps) then o.wp P a w K (fun _ _ _=>False) else K (a.put o.dst undef) w
def GA (P:Program) (md:Region.Mode) (ops:Array Oper) (Q:Act→World→Prop):Nat→Array Bool→Act→World→Prop
 | 0,listed,a,w=>Region.ready md ops listed=[]∧∀ w1,Nx w w1→Q a w1
 | f+1,listed,a,w=>∀ w1,Nx w w1→(Region.ready md ops listed=[]→Q a w1) ∧
   ∀ i ∈ Region.ready md ops listed,gOp P ops i (fun a' w'=>Nx w1 w'∧GA P md ops Q f (listed.setIfInBounds i true) a' w') a w1
theorem GA.grow {Q:Act→World→Prop} {f:Nat} {listed:Array Bool} {a:Act} {w w1:World} (h:GA P md ops Q f listed a w) (hn:Nx w w1):GA P md ops Q f listed a w1:=by
 cases f with
 | zero=>exact ⟨h.1,fun w2 h2=>h.2 w2 (hn.trans h2)⟩
 | succ f=>exact fun w2 h2=>h w2 (hn.trans h2)
theorem wp_mono_both {o:Oper} {a:Act} {w:World} {K K':Act→World→Prop} {Q:Exit→Act→World→Prop} (h:∀ a w,K a w→K' a w) (hh:o.wp P a w K (fun _ _ _=>False)) (hl:True):o.wp P a w K' Q:=by
 unfold Oper.wp at *
 generalize (execOp a.eval o).run P w=r at *
 cases r with
 | ok n w' =>
  cases n <;> simp only [Oper.upon] at hh ⊢
  case value v=>exact h _ _ hh
  case skip=>exact h _ _ hh
  case defer d=>exact h _ _ hh
  case enter f args =>
   refine hh.mono fun e w'' he=>?_
   cases e with
   | returned v=>exact h _ _ he
   | panicked c=>exact he.elim
   | outgrown=>exact absurd he (by simp [LetsOut])
  case row r args=>exact hh.mono fun v w'' he=>h _ _ he
 | halt x w'=>cases x <;> simp only [Oper.upon] at hh
theorem wpAny_of_GA {Q:Act→World→Prop} {Q':Exit→Act→World→Prop} (hQ:∀ a w,Q a w→Q' .normal a w):∀ (f:Nat) (listed:Array Bool) (a:Act) (w:World),
  GA P md ops Q f listed a w→wpAny P md ops Q' f listed a w
 | 0,_,_,w,h=>⟨h.1,hQ _ _ (h.2 w (Nx.refl w))⟩
 | f+1,listed,a,w,h=>by
  refine ⟨fun h0=>hQ _ _ ((h w (Nx.refl w)).1 h0),fun i hi=>?_⟩
  have:=(h w (Nx.refl w)).2 i hi
  unfold gOp at this
  unfold wpOp
  split
  ·rename_i ho;simp only [ho] at this;exact wpAny_of_GA hQ f _ _ _ this.2
  ·rename_i o ho
   simp only [ho] at this
   split
   ·rename_i hw;simp only [hw,if_true] at this;exact .inl (wp_mono_both (fun a' w' h'=>wpAny_of_GA hQ f _ _ _ h'.2) this trivial)
   ·rename_i hw;simp only [hw] at this;exact wpAny_of_GA hQ f _ _ _ this.2
def YG (P:Program) (ops:Array Oper) (w:World) (o:Oper) (v:Value) (a:Act):Prop :=
 (Region.wanted o (yielded ops a.tmps)=true∧∀ x:Gr w,o.quietAt P a (fun w''=>w''=x.1) x.1 v) ∨
 (Region.wanted o (yielded ops a.tmps)=false∧v=undef)
theorem YG.grow {w w1:World} {o:Oper} {v:Value} {a:Act} (h:YG P ops w o v a) (hn:Nx w w1):YG P ops w1 o v a:=by
 rcases h with ⟨h1,h2⟩ | h
 ·exact .inl ⟨h1,fun x=>h2 ⟨x.1,hn.trans x.2⟩⟩
 ·exact .inr h
theorem YG.gOp {i:Nat} {w:World} {o:Oper} {v:Value} {a:Act} (hi:ops[i]? = some o) (hy:YG P ops w o v a) {K:Act→World→Prop} (h:K (a.put o.dst v) w):gOp P ops i K a w:=by
 unfold Go.Proofs.YtpbjkgpdkopgmaaGreatDoor.gOp
 simp only [hi]
 rcases hy with ⟨hw,hv⟩ | ⟨hw,rfl⟩
 ·simp only [hw,if_true]
  have h3:=hv ⟨w,Nx.refl w⟩
  unfold Oper.quietAt at h3
  unfold Oper.wp
  generalize (execOp a.eval o).run P w=r at *
  cases r with
  | ok n w' =>
   cases n <;> simp only [Oper.quietUpon] at h3 <;> simp only [Oper.upon]
   case value u=>obtain ⟨e1,e2⟩:=h3;rw [e1,e2];exact h
   case skip=>obtain ⟨e1,e2⟩:=h3;rw [e1,← e2];exact h
   case enter f args =>
    obtain ⟨e1,hc⟩:=h3
    rw [e1]
    exact hc.mono fun e w'' ⟨he,hw''⟩=>by subst he;rw [hw''];exact h
  | halt x w'=>simp only [Oper.quietUpon] at h3
 ·simp only [hw,Bool.false_eq_true,if_false];exact h
theorem YG.of_same {w:World} {o:Oper} {v:Value} {a a':Act} (hy:YG P ops w o v a) (he:execOp a'.eval o=execOp a.eval o)
  (hw:Region.wanted o (yielded ops a'.tmps)=Region.wanted o (yielded ops a.tmps)):YG P ops w o v a':=by
 unfold YG Oper.quietAt at *
 rw [he,hw]
 exact hy
theorem defers_put (a:Act) (ds:List Deferred) (x:Option Tmp) (v:Value):({ a with defers:=ds }:Act).put x v = { a.put x v with defers:=ds }:=by cases x <;> rfl
theorem gOp_put {j:Nat} {w:World} {oi oj:Oper} {v:Value} (hj:ops[j]? = some oj) (hap:oi.apart ops oj=true)
  (hsi:∀ cs b,oi.op≠.select cs b) (hsj:∀ cs b,oj.op≠.select cs b) {K:Act→World→Prop} {a:Act}
  (hy:YG P ops w oi v a) (h:gOp P ops j K (a.put oi.dst v) w) :
  gOp P ops j (fun a' w'=>YG P ops w oi v a'∧K (a'.put oi.dst v) w') a w:=by
 obtain ⟨h1,h2,h3⟩:=Oper.apart_spec hap
 have keep:∀ u,YG P ops w oi v (a.put oj.dst u):=fun u =>
  hy.of_same (execOp_put oi hsi a oj.dst u h3) (wanted_put oi a oj.dst u h3)
 have pc:∀ u,(a.put oi.dst v).put oj.dst u=(a.put oj.dst u).put oi.dst v:=fun u=>Act.put_comm a v u h2
 unfold Go.Proofs.YtpbjkgpdkopgmaaGreatDoor.gOp at *
 simp only [hj] at *
 rw [wanted_put oj a oi.dst v h1] at h
 split
 ·rename_i hw
  simp only [hw,if_true] at h
  unfold Oper.wp at *
  rw [execOp_put oj hsj a oi.dst v h1] at h
  generalize (execOp a.eval oj).run P w=r at *
  cases r with
  | ok n w' =>
   cases n <;> simp only [Oper.upon] at h ⊢
   case value u=>exact ⟨keep u,by rw [← pc];exact h⟩
   case skip=>exact ⟨keep _,by rw [← pc];exact h⟩
   case defer d =>
    have hd:(a.put oi.dst v).defers=a.defers:=by cases oi.dst <;> rfl
    rw [hd,defers_put,pc] at h
    rw [defers_put]
    refine ⟨(keep undef).of_same rfl rfl,?_⟩
    rw [defers_put]
    exact h
   case enter f args =>
    refine h.mono fun e w'' he=>?_
    cases e with
    | returned u=>exact ⟨keep u,by rw [← pc];exact he⟩
    | panicked c=>exact he.elim
    | outgrown=>exact absurd he (by simp [LetsOut])
   case row r args=>exact h.mono fun u w'' he=>⟨keep u,by rw [← pc];exact he⟩
  | halt x w'=>cases x <;> simp only [Oper.upon] at h
 ·rename_i hw
  simp only [hw] at h
  exact ⟨keep _,by rw [← pc];exact h⟩
theorem gOp_mono {i:Nat} {a:Act} {w:World} {K K':Act→World→Prop} (h:∀ a w,K a w→K' a w) (hh:gOp P ops i K a w):gOp P ops i K' a w:=by
 unfold Go.Proofs.YtpbjkgpdkopgmaaGreatDoor.gOp at *
 split
 ·exact h _ _ (by simpa [*] using hh)
 ·rename_i o ho
  simp only [ho] at hh
  split
  ·rename_i hw;simp only [hw,if_true] at hh;exact wp_mono_both h hh trivial
  ·rename_i hw;simp only [hw] at hh;exact h _ _ hh
theorem GA_first {Q:Act→World→Prop} {i:Nat} {oi:Oper} {v:Value} (hi:ops[i]? = some oi) (hsel:∀ (j:Nat) (o:Oper) cs b,ops[j]? = some o→o.op≠.select cs b) :
  ∀ (f:Nat) (listed:Array Bool) (a:Act) (w:World),
   (∀ j oj,ops[j]? = some oj→j≠i→listed.getD j true=false→(∀ e ∈ oj.after,Region.binds md e=true→e.on≠i)→oi.apart ops oj=true) →
   i ∈ Region.ready md ops listed→YG P ops w oi v a →
   GA P md ops Q f (listed.setIfInBounds i true) (a.put oi.dst v) w→GA P md ops Q (f+1) listed a w:=by
 intro f
 induction f with
 | zero =>
  intro listed a w _ hr hy H w1 hn
  refine ⟨fun h=>(by rw [h] at hr;cases hr),fun j hj=>?_⟩
  by_cases hji:j=i
  ·subst hji;exact (hy.grow hn).gOp hi ⟨Nx.refl _,H.grow hn⟩
  ·have:=ready_mono hj hji
   rw [H.1] at this
   cases this
 | succ f ih =>
  intro listed a w hfree hr hy H w1 hn
  refine ⟨fun h=>(by rw [h] at hr;cases hr),fun j hj=>?_⟩
  by_cases hji:j=i
  ·subst hji;exact (hy.grow hn).gOp hi ⟨Nx.refl _,H.grow hn⟩
  ·have h1:=(H w1 hn).2 j (ready_mono hj hji)
   obtain ⟨hjun,oj,hoj,hall⟩:=mem_ready.1 hj
   have hnot:∀ e ∈ oj.after,Region.binds md e=true→e.on≠i:=fun e he hb heq=>by
    have h1:=hall e he hb
    have h0:=(mem_ready.1 hr).1
    rw [heq] at h1
    rcases Nat.lt_or_ge i listed.size with h' | h'
    ·simp [h'] at h0 h1;rw [h0] at h1;cases h1
    ·simp [Array.getElem?_eq_none h'] at h1
   have h2:=gOp_put hoj (hfree j oj hoj hji hjun hnot) (fun cs b=>hsel i oi cs b hi) (fun cs b=>hsel j oj cs b hoj) (hy.grow hn) h1
   have hfree':∀ k ok,ops[k]? = some ok→k≠i→(listed.setIfInBounds j true).getD k true=false →
     (∀ e ∈ ok.after,Region.binds md e=true→e.on≠i)→oi.apart ops ok=true:=fun k ok hk hki hun hno=>by
    refine hfree k ok hk hki ?_ hno
    by_cases hjk:j=k
    ·subst hjk;exact hjun
    ·rw [getD_set_ne true hjk] at hun;exact hun
   refine gOp_mono (fun a' w' h3=>⟨h3.2.1,ih (listed.setIfInBounds j true) a' w' hfree' (ready_mono hr (Ne.symm hji)) (h3.1.grow h3.2.1) ?_⟩) h2
   rw [Array.setIfInBounds_comm _ _ hji]
   exact h3.2.2
def wpHyb (P:Program) (ops:Array Oper) (Q:Act→World→Prop):List (Nat×Bool)→Act→World→Prop
 | [],a,w=>∀ w1,Nx w w1→Q a w1
 | (k,true) :: rest,a,w=>match ops[k]? with
  | none=>False
  | some o=>if Region.wanted o (yielded ops a.tmps) then calm P o a w (fun a'=>wpHyb P ops Q rest a' w) else wpHyb P ops Q rest (a.put o.dst undef) w
 | (k,false) :: rest,a,w=>∀ w1,Nx w w1→match ops[k]? with
  | none=>False
  | some o=>if Region.wanted o (yielded ops a.tmps) then o.wp P a w1 (fun a' w'=>Nx w1 w'∧wpHyb P ops Q rest a' w') (fun _ _ _=>False) else wpHyb P ops Q rest (a.put o.dst undef) w1
def hybFrom (md:Region.Mode) (ops:Array Oper):List (Nat×Bool)→Array Bool→Bool
 | [],listed=>(Region.ready md ops listed).isEmpty
 | (k,true) :: rest,listed=>(Region.ready md ops listed).contains k && Region.free md ops listed k && hybFrom md ops rest (listed.setIfInBounds k true)
 | (k,false) :: rest,listed=>Region.ready md ops listed == [k] && hybFrom md ops rest (listed.setIfInBounds k true)
def hybB (md:Region.Mode) (ops:Array Oper) (s:List (Nat×Bool)):Bool:=Region.noSelect ops && s.length == ops.size && hybFrom md ops s (Array.replicate ops.size false)
theorem GA_hyb {Q:Act→World→Prop} (hs:Region.noSelect ops=true):∀ (s:List (Nat×Bool)) (listed:Array Bool) (a:Act) (w:World),
  hybFrom md ops s listed=true→wpHyb P ops Q s a w→GA P md ops Q s.length listed a w
 | [],listed,a,w,hB,h=>⟨by simpa [hybFrom] using hB,h⟩
 | (k,true) :: rest,listed,a,w,hB,h=>by
  simp only [hybFrom,Bool.and_eq_true] at hB
  obtain ⟨⟨hr,hf⟩,hB'⟩:=hB
  have hr':k ∈ Region.ready md ops listed:=by simpa using hr
  obtain ⟨_,o,ho,_⟩:=mem_ready.1 hr'
  simp only [wpHyb,ho] at h
  by_cases hw:Region.wanted o (yielded ops a.tmps)=true
  ·simp only [hw,if_true] at h
   obtain ⟨v,h1,h2⟩:=h
   exact GA_first ho (Region.noSelect_spec hs) rest.length listed a w (Region.free_spec ho hf) hr' (.inl ⟨hw,h1⟩) (GA_hyb hs rest _ _ _ hB' h2)
  ·simp only [hw] at h
   exact GA_first ho (Region.noSelect_spec hs) rest.length listed a w (Region.free_spec ho hf) hr' (.inr ⟨by simpa using hw,rfl⟩) (GA_hyb hs rest _ _ _ hB' h)
 | (k,false) :: rest,listed,a,w,hB,h=>by
  simp only [hybFrom,Bool.and_eq_true,beq_iff_eq] at hB
  obtain ⟨hr,hB'⟩:=hB
  intro w1 hn
  refine ⟨fun h0=>(by rw [hr] at h0;cases h0),fun i hi=>?_⟩
  rw [hr] at hi
  obtain rfl:i=k:=by simpa using hi
  have h:=h w1 hn
  unfold gOp
  cases ho:ops[i]? with
  | none=>rw [ho] at h;exact h.elim
  | some o =>
   rw [ho] at h
   simp only at h ⊢
   by_cases hw:Region.wanted o (yielded ops a.tmps)=true
   ·simp only [hw,if_true] at h ⊢
    exact wp_mono_both (fun a' w' h'=>⟨h'.1,GA_hyb hs rest _ _ _ hB' h'.2⟩) h trivial
   ·simp only [hw] at h ⊢
    exact ⟨Nx.refl _,GA_hyb hs rest _ _ _ hB' h⟩
structure Hyb (P:Program) (ops:Array Oper) (Q:Act→World→Prop) (s:List (Nat×Bool)) (a:Act) (w:World):Prop where
 out:wpHyb P ops Q s a w
theorem wp_region_hyb {id:Nat} {Q:Exit→Act→World→Prop} {a:Act} {w:World} {l:List Oper} (s:List (Nat×Bool)) (hm:P.follows .mixedOrders=true) (hB:hybB .any l.toArray s=true)
  (h:Hyb P l.toArray (fun a w=>Q .normal a w) s a w):(Code.region id l.toArray true).wp P Q a w:=by
 simp only [hybB,Bool.and_eq_true,beq_iff_eq] at hB
 obtain ⟨⟨h1,h2⟩,h3⟩:=hB
 refine wp_region_any hm (wpAny_of_GA (Q:=fun a w=>Q .normal a w) (fun _ _ h=>h) _ _ _ _ ?_)
 have:=GA_hyb (md:=.any) h1 s _ _ _ h3 h.out
 rw [h2] at this
 exact this.grow (Nx.drawn w)
theorem hyb_calm {Q:Act→World→Prop} {k:Nat} {o:Oper} {rest:List (Nat×Bool)} {a:Act} {w:World} (ho:ops[k]? = some o)
  (h:∀ K:Act→Prop,(∀ a,Hyb P ops Q rest a w→K a)→if Region.wanted o (yielded ops a.tmps) then calm P o a w K else K (a.put o.dst undef)):Hyb P ops Q ((k,true) :: rest) a w:=by
 refine ⟨?_⟩
 simp only [wpHyb,ho]
 exact h _ (fun _ h=>h.out)
theorem hyb_alone {Q:Act→World→Prop} {k:Nat} {o:Oper} {rest:List (Nat×Bool)} {a:Act} {w:World} (ho:ops[k]? = some o)
  (h:∀ w1,Nx w w1→∀ K:Act→World→Prop,(∀ a' w',Nx w1 w'→Hyb P ops Q rest a' w'→K a' w')→if Region.wanted o (yielded ops a.tmps) then o.wp P a w1 K (fun _ _ _=>False) else K (a.put o.dst undef) w1):Hyb P ops Q ((k,false) :: rest) a w:=by
 refine ⟨?_⟩
 intro w1 hn
 simp only [ho]
 have:=h w1 hn (fun a' w'=>Nx w1 w'∧wpHyb P ops Q rest a' w') (fun a' w' h1 h2=>⟨h1,h2.out⟩)
 split
 ·rename_i hw;simpa [hw] using this
 ·rename_i hw;simp [hw] at this;exact this.2
theorem hyb_nil {Q:Act→World→Prop} {a:Act} {w:World} (h:∀ w1,Nx w w1→Q a w1):Hyb P ops Q [] a w:=⟨h⟩
end
attribute [go_sem] calm
end Go.Proofs.YtpbjkgpdkopgmaaGreatDoor
namespace Go.Proofs.YtpbjkgpdkopgmaaGreatDoor
open Go.RowKit
def Blk (w:World) (B g:Nat) (cs:Array Value) (T:TypeId):Prop:=B≤g∧w.heap[g]? = some (.cells cs T (0,0))
theorem Blk.lt {w:World} {B g:Nat} {cs:Array Value} {T:TypeId} (h:Blk w B g cs T):g<w.heap.size:=by
 rcases Nat.lt_or_ge g w.heap.size with h1 | h1
 ·exact h1
 ·have:=h.2;rw [Array.getElem?_eq_none h1] at this;cases this
theorem Blk.new (w:World) (cs:Array Value) (T:TypeId):Blk (w.alloc (.cells cs T)) w.heap.size w.heap.size cs T:=⟨Nat.le_refl _,heap_alloc_new w _⟩
theorem Blk.less {w:World} {B B' g:Nat} {cs:Array Value} {T:TypeId} (h:Blk w B g cs T) (hB:B'≤B):Blk w B' g cs T:=⟨Nat.le_trans hB h.1,h.2⟩
theorem Blk.below {w w':World} {B g:Nat} {cs:Array Value} {T:TypeId} (h:Blk w B g cs T) (hb:Below w.heap.size w w'):Blk w' B g cs T:=⟨h.1,by rw [hb.block g h.lt];exact h.2⟩
theorem Blk.alloc {w:World} {B g:Nat} {cs:Array Value} {T:TypeId} (h:Blk w B g cs T) (o:Obj):Blk (w.alloc o) B g cs T:=h.below (nx0 w o)
theorem Blk.cell {w:World} {B g:Nat} {cs:Array Value} {T:TypeId} (h:Blk w B g cs T) (i:Nat):w.cell? ⟨g,i,none⟩=cs[i]?:=by
 unfold World.cell?;rw [h.2];rfl
theorem Blk.free {w:World} {B g:Nat} {cs:Array Value} {T:TypeId} (h:Blk w B g cs T) (i:Nat):w.frozen? ⟨g,i,none⟩=false:=by
 unfold World.frozen?;rw [h.2];simp
theorem Blk.put {w:World} {B g:Nat} {cs:Array Value} {T:TypeId} (h:Blk w B g cs T) (i:Nat) (v:Value):Blk (w.setCell ⟨g,i,none⟩ v) B g (cs.setIfInBounds i v) T:=by
 refine ⟨h.1,?_⟩
 have hl:=h.lt
 have h2:=h.2
 rw [Array.getElem?_eq_getElem hl] at h2
 simp only [World.setCell]
 rw [Array.getElem?_modify,if_pos rfl,Array.getElem?_eq_getElem hl,Option.some.inj h2]
 rfl
theorem Blk.other {w:World} {B g k:Nat} {cs:Array Value} {T:TypeId} (h:Blk w B g cs T) (hk:k≠g) (i:Nat) (v:Value):Blk (w.setCell ⟨k,i,none⟩ v) B g cs T:=by
 refine ⟨h.1,?_⟩
 simp only [World.setCell]
 rw [Array.getElem?_modify,if_neg hk];exact h.2
theorem Blk.drew {w:World} {B g:Nat} {cs:Array Value} {T:TypeId} (h:Blk w B g cs T) (n:Nat):Blk (w.drewN n) B g cs T:=h
theorem Nx.put {w w':World} {B g:Nat} {cs:Array Value} {T:TypeId} (h:Nx w w') (hk:Blk w' w.heap.size g cs T) (i:Nat) (v:Value):Nx w (w'.setCell ⟨g,i,none⟩ v):=Below.setCell h hk.1 v
theorem Nx.put' {w w':World} {g:Nat} (h:Nx w w') (hk:w.heap.size≤g) (i:Nat) (v:Value):Nx w (w'.setCell ⟨g,i,none⟩ v):=Below.setCell h hk v
theorem Nx.dr {w w':World} (h:Nx w w') (n:Nat):Nx w (w'.drewN n):=⟨h.os,h.tape,h.output,h.size,h.block⟩
theorem Nx.al {w w':World} (h:Nx w w') (o:Obj):Nx w (w'.alloc o):=nxa h o
end Go.Proofs.YtpbjkgpdkopgmaaGreatDoor
namespace Go.Proofs.YtpbjkgpdkopgmaaGreatDoor
open Go.RowKit
def Tx (s:ByteArray) (l:List UInt8):Prop:=s.data.toList=l
theorem Tx.size {s:ByteArray} {l:List UInt8} (h:Tx s l):s.size=l.length:=by rw [Lib.size_eq,show s.data.toList=l from h]
theorem Tx.eq {s:ByteArray} {l:List UInt8} (h:Tx s l):s=⟨l.toArray⟩:=by rw [← show s.data.toList=l from h,Lib.mk_data]
theorem Tx.toL {s:ByteArray} {l:List UInt8} (h:Tx s l):s.toList=l:=by rw [Lib.toList_data];exact h
theorem Tx.of (l:List UInt8):Tx ⟨l.toArray⟩ l:=by unfold Tx;rfl
theorem Tx.nil {s:ByteArray} (h:Tx s []):s.toList=[]∧s.size=0:=⟨h.toL,h.size⟩
theorem Tx.cons {s:ByteArray} {c:UInt8} {l:List UInt8} (h:Tx s (c :: l)):∃ (hp:0<s.size) (t:ByteArray),s[0]'hp=c∧s.extract 1 s.size=t∧Tx t l∧¬ s.toList=[]∧s.toList.isEmpty=false:=by
 have hz:s.size=l.length+1:=by rw [h.size];rfl
 refine ⟨by omega,s.extract 1 s.size,?_,rfl,?_,by rw [h.toL];simp,by rw [h.toL];rfl⟩
 ·obtain ⟨⟨d⟩⟩:=s
  obtain rfl:d=c :: l:=h
  rfl
 ·unfold Tx
  rw [Lib.extract_data,show s.data.toList=c :: l from h,hz]
  simp
theorem Tx.idx {s:ByteArray} {l:List UInt8} (h:Tx s l) (i:Nat) (hi:i<l.length):∃ hp:i<s.size,s[i]'hp=l[i]:=by
 refine ⟨by rw [h.size];exact hi,?_⟩
 obtain ⟨⟨d⟩⟩:=s
 obtain rfl:d=l:=h
 rfl
theorem Tx.from_ {s:ByteArray} {l:List UInt8} (h:Tx s l) (n:Nat):∃ u,s.extract n s.size=u∧Hid (Tx u (l.drop n)) :=
 ⟨_,rfl,by unfold Hid Tx;rw [Lib.extract_data,show s.data.toList=l from h,h.size,List.take_of_length_le (by simp)]⟩
theorem Tx.upto {s:ByteArray} {l:List UInt8} (h:Tx s l) (n:Nat):∃ u,s.extract 0 n=u∧Hid (Tx u (l.take n)) :=
 ⟨_,rfl,by unfold Hid Tx;rw [Lib.extract_data,show s.data.toList=l from h];simp⟩
theorem Tx.mid {s:ByteArray} {l:List UInt8} (h:Tx s l) (a n:Nat):∃ u,s.extract a n=u∧Hid (Tx u ((l.take n).drop a)) :=
 ⟨_,rfl,by unfold Hid Tx;rw [Lib.extract_data,show s.data.toList=l from h,List.drop_take]⟩
end Go.Proofs.YtpbjkgpdkopgmaaGreatDoor
namespace Go.Proofs.YtpbjkgpdkopgmaaGreatDoor
open Go.RowKit
def MaxC (w:World):Prop:=∃ m,w.cell? ⟨0,0,none⟩=some (.int .i64 m)
theorem MaxC.nx {w w':World} (h:MaxC w) (hn:Nx w w'):MaxC w':=by
 obtain ⟨m,hm⟩:=h
 exact ⟨m,(hn.cell (World.block_lt_of_cell? w _ hm)).trans hm⟩
structure Oth (b:Nat) (w w':World):Prop where
 os:w'.os=w.os
 tape:w'.tape=w.tape
 output:w'.output=w.output
 size:w.heap.size≤w'.heap.size
 block:∀ k,k<w.heap.size→k≠b→w'.heap[k]? = w.heap[k]?
theorem Oth.refl (b:Nat) (w:World):Oth b w w:=⟨rfl,rfl,rfl,Nat.le_refl _,fun _ _ _=>rfl⟩
theorem Oth.trans {b:Nat} {x y z:World} (h:Oth b x y) (k:Oth b y z):Oth b x z :=
 ⟨k.os.trans h.os,k.tape.trans h.tape,k.output.trans h.output,Nat.le_trans h.size k.size,fun i hi hb=>(k.block i (Nat.lt_of_lt_of_le hi h.size) hb).trans (h.block i hi hb)⟩
theorem Oth.nx {b:Nat} {w w':World} (h:Nx w w'):Oth b w w':=⟨h.os,h.tape,h.output,h.size,fun k hk _=>h.block k hk⟩
theorem Oth.set (w:World) (b i:Nat) (v:Value):Oth b w (w.setCell ⟨b,i,none⟩ v) :=
 ⟨rfl,rfl,rfl,by simp [World.setCell],fun k _ hk=>by simp only [World.setCell];rw [Array.getElem?_modify,if_neg (fun e=>hk e.symm)]⟩
theorem Oth.to {w w1 w':World} {b:Nat} (h:Oth b w1 w') (hn:Nx w w1) (hb:w.heap.size≤b):Nx w w' :=
 ⟨h.os.trans hn.os,h.tape.trans hn.tape,h.output.trans hn.output,Nat.le_trans hn.size h.size,fun k hk=>(h.block k (Nat.lt_of_lt_of_le hk hn.size) (by omega)).trans (hn.block k hk)⟩
theorem Oth.blk {w w':World} {b B g:Nat} {cs:Array Value} {T:TypeId} (h:Oth b w w') (k:Blk w B g cs T) (hg:g≠b):Blk w' B g cs T :=
 ⟨k.1,by rw [h.block g k.lt hg];exact k.2⟩
theorem Oth.maxC {w w':World} {b:Nat} (h:Oth b w w') (hm:MaxC w) (hb:b≠0):MaxC w':=by
 obtain ⟨m,hm⟩:=hm
 refine ⟨m,?_⟩
 have:=h.block _ (World.block_lt_of_cell? w _ hm) (fun e=>hb e.symm)
 rw [← hm]
 unfold World.cell?
 simp only
 rw [this]
theorem Oth.mono {w w1 w':World} {b:Nat} (h:Oth b w1 w') (hn:Nx w w1):Oth b w w':=(Oth.nx hn).trans h
theorem Oth.put {w w':World} {b g:Nat} (h:Oth b w w') (hg:w.heap.size≤g) (i:Nat) (v:Value):Oth b w (w'.setCell ⟨g,i,none⟩ v) :=
 ⟨h.os,h.tape,h.output,by simp [World.setCell];exact h.size,fun k hk hb=>by simp only [World.setCell];rw [Array.getElem?_modify,if_neg (by omega)];exact h.block k hk hb⟩
theorem Oth.put5 {w w':World} {b g:Nat} {v0 v1 v2 v3 v4:Value} (h:Oth b w w') (hk:w.heap.size≤g) :
  Oth b w (((((w'.setCell ⟨g,0,none⟩ v0).setCell ⟨g,1,none⟩ v1).setCell ⟨g,2,none⟩ v2).setCell ⟨g,3,none⟩ v3).setCell ⟨g,4,none⟩ v4) :=
 ((((h.put hk 0 v0).put hk 1 v1).put hk 2 v2).put hk 3 v3).put hk 4 v4
theorem Oth.own {w w':World} {b i:Nat} {v:Value} (h:Oth b w w'):Oth b w (w'.setCell ⟨b,i,none⟩ v):=h.trans (Oth.set _ _ _ _)
end Go.Proofs.YtpbjkgpdkopgmaaGreatDoor
namespace Go.Proofs.YtpbjkgpdkopgmaaGreatDoor
open Go.RowKit
theorem Blk.put5 {w:World} {B g:Nat} {T:TypeId} {a0 a1 a2 a3 a4 v0 v1 v2 v3 v4:Value} (h:Blk w B g #[a0,a1,a2,a3,a4] T) :
  Blk (((((w.setCell ⟨g,0,none⟩ v0).setCell ⟨g,1,none⟩ v1).setCell ⟨g,2,none⟩ v2).setCell ⟨g,3,none⟩ v3).setCell ⟨g,4,none⟩ v4) B g #[v0,v1,v2,v3,v4] T :=
 ((((h.put 0 v0).put 1 v1).put 2 v2).put 3 v3).put 4 v4
theorem Nx.put5 {w w':World} {g:Nat} {v0 v1 v2 v3 v4:Value} (h:Nx w w') (hk:w.heap.size≤g) :
  Nx w (((((w'.setCell ⟨g,0,none⟩ v0).setCell ⟨g,1,none⟩ v1).setCell ⟨g,2,none⟩ v2).setCell ⟨g,3,none⟩ v3).setCell ⟨g,4,none⟩ v4) :=
 ((((h.put' hk 0 v0).put' hk 1 v1).put' hk 2 v2).put' hk 3 v3).put' hk 4 v4
def tokC (x:TokV):Array Value:=#[.int .i64 x.k,.string ⟨x.t.toArray⟩,.int .i64 x.n,.int .u64 x.d,.int .i64 x.p]
def tokL (xs:List TokV):List Value:=xs.flatMap fun x=>(tokC x).toList
theorem tokL_snoc (xs:List TokV) (x:TokV):tokL (xs++[x])=tokL xs++(tokC x).toList:=by
 unfold tokL;simp
theorem tokL_get (xs:List TokV) (i:Nat) (hi:i<xs.length) (j:Nat) (hj:j<5):(tokL xs)[i * 5+j]? = (tokC xs[i])[j]?:=by
 induction xs generalizing i with
 | nil=>simp at hi
 | cons x xs ih =>
  have e:tokL (x :: xs)=(tokC x).toList++tokL xs:=rfl
  have e5:(tokC x).toList.length=5:=rfl
  rw [e]
  cases i with
  | zero =>
   rw [List.getElem?_append_left (by omega),Nat.zero_mul,Nat.zero_add]
   simp
  | succ i =>
   rw [List.getElem?_append_right (by omega),e5]
   have:(i+1) * 5+j - 5=i * 5+j:=by omega
   rw [this,ih i (by simpa using hi)]
   simp
def OwnT (w:World) (B:Nat) (v:Value) (xs:List TokV):Prop:=w.ownsRow B 92 5 v xs.length (tokL xs)
def RdT (w:World) (A:Option Addr) (xs:List TokV):Prop :=
 0<xs.length→∃ g,A=some ⟨g,0,none⟩∧g<w.heap.size∧∀ i (h:i<xs.length) j,j<5→w.cell? ⟨g,i * 5+j,none⟩=(tokC xs[i])[j]?
theorem OwnT.nil_ (w:World) (B:Nat):OwnT w B (.slice none 0 0) []:=World.ownsRow_nil w B _ _
theorem OwnT.alloc {w:World} {B:Nat} {v:Value} {xs:List TokV} (h:OwnT w B v xs) (o:Obj):OwnT (w.alloc o) B v xs:=World.ownsRow.alloc h o
theorem OwnT.less {w:World} {B B':Nat} {v:Value} {xs:List TokV} (h:OwnT w B v xs) (hB:B'≤B):OwnT w B' v xs:=by
 obtain ⟨h1,h2⟩:=h
 refine ⟨h1,?_⟩
 rcases h2 with h2 | ⟨g,cap,cur,hv,hg,r⟩
 ·exact .inl h2
 ·exact .inr ⟨g,cap,cur,hv,by omega,r⟩
theorem OwnT.oth {w w':World} {B b:Nat} {v:Value} {xs:List TokV} (h:OwnT w B v xs) (ho:Oth b w w') (hb:b<B):OwnT w' B v xs:=by
 obtain ⟨h1,h2⟩:=h
 refine ⟨h1,?_⟩
 rcases h2 with h2 | ⟨g,cap,cur,hv,hg,hh,r⟩
 ·exact .inl h2
 ·refine .inr ⟨g,cap,cur,hv,hg,?_,r⟩
  rw [ho.block g ?_ (by omega)];exact hh
  rcases Nat.lt_or_ge g w.heap.size with h | h
  ·exact h
  ·rw [Array.getElem?_eq_none h] at hh;cases hh
theorem OwnT.nx {w w':World} {B:Nat} {v:Value} {xs:List TokV} (h:OwnT w B v xs) (ho:Nx w w'):OwnT w' B v xs:=by
 obtain ⟨h1,h2⟩:=h
 refine ⟨h1,?_⟩
 rcases h2 with h2 | ⟨g,cap,cur,hv,hg,hh,r⟩
 ·exact .inl h2
 ·refine .inr ⟨g,cap,cur,hv,hg,?_,r⟩
  rw [ho.block g ?_];exact hh
  rcases Nat.lt_or_ge g w.heap.size with h | h
  ·exact h
  ·rw [Array.getElem?_eq_none h] at hh;cases hh
theorem OwnT.sl {w:World} {B:Nat} {v:Value} {xs:List TokV} (h:OwnT w B v xs):∃ A c,v = .slice A xs.length c∧xs.length≤c∧c≤maxLen∧RdT w A xs:=by
 obtain ⟨h1,h2⟩:=h
 rcases h2 with ⟨rfl,h0⟩ | ⟨g,cap,cur,rfl,hg,hh,hn,hm,hs,ht⟩
 ·have:xs=[]:=List.eq_nil_of_length_eq_zero h0
  subst this
  exact ⟨none,0,rfl,Nat.le_refl _,Nat.zero_le _,fun h=>by simp at h⟩
 ·refine ⟨_,cap,rfl,hn,hm,fun _=>⟨g,rfl,?_,fun i hi j hj=>?_⟩⟩
  ·rcases Nat.lt_or_ge g w.heap.size with h | h
   ·exact h
   ·rw [Array.getElem?_eq_none h] at hh;cases hh
  ·rw [cell_of_row w g (i * 5+j) cur _ (0,0) hh,← tokL_get xs i hi j hj,← ht,List.getElem?_take,if_pos (by omega)]
   simp
theorem RdT.nx {w w':World} {A:Option Addr} {xs:List TokV} (h:RdT w A xs) (hn:Nx w w'):RdT w' A xs:=fun h0=>by
 obtain ⟨g,e,hg,hc⟩:=h h0
 refine ⟨g,e,Nat.lt_of_lt_of_le hg hn.size,fun i hi j hj=>?_⟩
 rw [← hc i hi j hj]
 unfold World.cell?
 simp only
 rw [hn.block g hg]
theorem RdT.at_ {w:World} {A:Option Addr} {xs:List TokV} (h:RdT w A xs) (i:Nat) (hi:i<xs.length):∃ g,A=some ⟨g,0,none⟩∧g<w.heap.size ∧
  w.cell? ⟨g,i * 5+0,none⟩=some (.int .i64 (xs[i].k:Nat))∧w.cell? ⟨g,i * 5+1,none⟩=some (.string ⟨xs[i].t.toArray⟩)∧w.cell? ⟨g,i * 5+2,none⟩=some (.int .i64 xs[i].n) ∧
  w.cell? ⟨g,i * 5+3,none⟩=some (.int .u64 (xs[i].d:Nat))∧w.cell? ⟨g,i * 5+4,none⟩=some (.int .i64 (xs[i].p:Nat)):=by
 obtain ⟨g,e,hg,hc⟩:=h (by omega)
 exact ⟨g,e,hg,hc i hi 0 (by decide),hc i hi 1 (by decide),hc i hi 2 (by decide),hc i hi 3 (by decide),hc i hi 4 (by decide)⟩
theorem info_tok:(Tryz.prog.info? 92).map (fun i=>(i.zero,i.size,i.bytes))=some (some (.agg #[.int .i64 0,.string ⟨#[]⟩,.int .i64 0,.int .u64 0,.int .i64 0]),5,48):=by kernel_rfl
section
variable (w:World) {ops:Array Oper} {rest:List Oper} {o:Oper} {a:Act} {Q:Exit→Act→World→Prop}
theorem wpList_appT (hgd:o.guard=none) (s x:Operand) (ho:o.op = .call { callee:=.builtin .append,args:=#[s,x],argTypes:=#[85,85] })
  (B:Nat) (v:Value) (xs:List TokV) (y:TokV) (hs:a.eval s=v) (hown:OwnT w B v xs) (g:Nat) (hx:a.eval x = .slice (some ⟨g,0,none⟩) 1 1)
  (hy:∀ j,j<5→w.cell? ⟨g,j,none⟩=(tokC y)[j]?) (h63:(xs.length:Int)≤100000) (hB:B≤w.heap.size)
  (h:∀ v' w',OwnT w' B v' (xs++[y])→Below B w w'→(∀ k,k<w.heap.size→v.ownBlock≠some k→w'.heap[k]? = w.heap[k]?)→wpList Tryz.prog ops Q rest (a.put o.dst v') w'):wpList Tryz.prog ops Q (o :: rest) a w:=by
 refine wpList_plain hgd fun K hK=>?_
 obtain ⟨i,hi,hz,h1,h2⟩:=info_parts info_tok
 have hcells:∀ j u,((tokC y).toList)[j]? = some u→w.cell? ((⟨g,0,none⟩:Addr).add j)=some u:=by
  intro j u hu
  have hj:j<5:=by
   rcases Nat.lt_or_ge j 5 with h | h
   ·exact h
   ·rw [List.getElem?_eq_none (by simpa [tokC] using h)] at hu;cases hu
  rw [Addr.add_lit,Nat.zero_add,hy j hj]
  rw [← hu];simp
 have hone:∀ u ∈ (tokC y).toList,u.oneCell'=true:=by
  intro u hu
  simp [tokC] at hu
  rcases hu with rfl | rfl | rfl | rfl | rfl <;> rfl
 obtain ⟨v',w',hrun,ho',hg,_⟩:=run_append_own_at (P:=Tryz.prog) w B 85 o.type 92 i _ 5 48 Tryz.underlying85 hi hz h1 h2 rfl (by decide) v xs.length (tokL xs) hown ⟨g,0,none⟩ 1 1 (tokC y).toList rfl hcells hone (by simp [maxLen];omega) (by omega) hB
 have hbel:Below B w w':=(Below.refl B w).grown hg hB fun k hk=>(World.ownsRow.lt hown k hk).1
 have hown':OwnT w' B v' (xs++[y]):=by
  unfold OwnT
  rw [List.length_append,tokL_snoc]
  exact ho'
 have:=hK _ _ (h v' w' hown' hbel (fun k hk hne=>hg.block k hk (Ne.symm hne)))
 unfold Oper.wp execOp
 simp only [ho,resolve,invoke,builtin,Sem.run_bind,Sem.run_pure,Result.andThen_ok,List.map_toArray,List.map_cons,List.map_nil,hs,hx,hrun]
 exact this
end
end Go.Proofs.YtpbjkgpdkopgmaaGreatDoor
namespace Go.Proofs.YtpbjkgpdkopgmaaGreatDoor
open Go.RowKit
set_option maxRecDepth 100000 in
set_option maxHeartbeats 800000 in
theorem cutSign_any (s:ByteArray) (l:List UInt8) (w:World) (hl:Tx s l) (hs:(l.length:Int)≤10000) :
  Calls Tryz.prog 246 #[.string s] w fun e w'=>∃ t:ByteArray,e = .returned (.tuple #[.bool (signS l).1,.string t])∧Hid (Tx t (signS l).2)∧Below w.heap.size w w':=by
 cases l with
 | nil =>
  have e1:=hl.nil.1
  have HL:=Lib.hid hl
  clear hl
  go_enter Tryz.func246,Tryz.ntmps246
  go_wp2_with fail
  go_ret2
  exact ⟨s,rfl,HL,Below.refl _ _⟩
 | cons c l =>
  obtain ⟨hp,t,e0,e1,ht,e2,e3⟩:=hl.cons
  have HT:=Lib.hid ht
  have HL:=Lib.hid hl
  clear ht hl
  by_cases c43:c.toNat=43
  ·have b1:((c.toNat:Int) == 43)=true:=by rw [beq_iff_eq];omega
   have b2:((c.toNat:Int) == 45)=false:=by rw [beq_eq_false_iff_ne];omega
   have HC:Hid (signS (c :: l)=(false,l)):=by unfold Hid;simp [signS,c43]
   clear c43
   go_enter Tryz.func246,Tryz.ntmps246
   go_wp2_with fail
   go_quiet (fail)
   go_wp2_with fail
   go_ret2
   rw [HC.out]
   exact ⟨t,rfl,HT,⟨rfl,rfl,rfl,Nat.le_refl _,fun _ _=>rfl⟩⟩
  ·have b1:((c.toNat:Int) == 43)=false:=by rw [beq_eq_false_iff_ne];omega
   by_cases c45:c.toNat=45
   ·have b2:((c.toNat:Int) == 45)=true:=by rw [beq_iff_eq];omega
    have HC:Hid (signS (c :: l)=(true,l)):=by unfold Hid;simp [signS,c45]
    clear c43 c45
    go_enter Tryz.func246,Tryz.ntmps246
    go_wp2_with fail
    go_quiet (fail)
    go_wp2_with fail
    go_ret2
    rw [HC.out]
    exact ⟨t,rfl,HT,⟨rfl,rfl,rfl,Nat.le_refl _,fun _ _=>rfl⟩⟩
   ·have b2:((c.toNat:Int) == 45)=false:=by rw [beq_eq_false_iff_ne];omega
    have HC:Hid (signS (c :: l)=(false,c :: l)):=by unfold Hid;simp [signS,c43,c45]
    clear c43 c45
    go_enter Tryz.func246,Tryz.ntmps246
    go_wp2_with fail
    go_ret2
    rw [HC.out]
    exact ⟨s,rfl,HL,Below.refl _ _⟩
def spanD:List UInt8→List UInt8×List UInt8
 | []=>([],[])
 | c :: s=>if isDig c then (c :: (spanD s).1,(spanD s).2) else ([],c :: s)
theorem spanD_app (l:List UInt8):l=(spanD l).1++(spanD l).2:=by
 induction l with
 | nil=>rfl
 | cons c l ih =>
   unfold spanD;split
   ·simp only [List.cons_append];rw [← ih]
   ·rfl
theorem spanD_is (a b:List UInt8) (ha:∀ c ∈ a,isDig c=true) (hb:b=[]∨∃ c t,b=c :: t∧isDig c=false):spanD (a++b)=(a,b):=by
 induction a with
 | nil =>
  rcases hb with rfl | ⟨c,t,rfl,hc⟩
  ·rfl
  ·simp [spanD,hc]
 | cons c a ih =>
  rw [List.cons_append,spanD,if_pos (ha c (List.mem_cons_self ..)),ih (fun d hd=>ha d (List.mem_cons_of_mem _ hd))]
theorem isDig_iff (c:UInt8):isDig c=true↔48≤c.toNat∧c.toNat≤57:=by unfold isDig;simp
set_option maxRecDepth 100000 in
set_option maxHeartbeats 800000 in
theorem cutDigits_any (s:ByteArray) (l:List UInt8) (w:World) (hl:Tx s l) (hs:(l.length:Int)≤10000) :
  Calls Tryz.prog 247 #[.string s] w fun e w'=>∃ t u:ByteArray,e = .returned (.tuple #[.string t,.string u])∧Hid (Tx t (spanD l).1)∧Hid (Tx u (spanD l).2)∧Below w.heap.size w w':=by
 have HL:=Lib.hid hl
 have hz:(s.size:Int)≤10000:=by rw [hl.size];exact hs
 clear hl
 go_enter Tryz.func247,Tryz.ntmps247
 go_wp2_with fail
 go_loopw [4] (fun v wr=>∃ (n:Nat),v = .int .i64 n∧n≤l.length∧Hid (∀ c ∈ l.take n,isDig c=true)∧Below w.heap.size w wr) (fun v _=>(10000 - intOf v).toNat)
 case atStart=>exact ⟨0,rfl,Nat.zero_le _,by unfold Hid;simp,Below.refl _ _⟩
 case round =>
  obtain ⟨n,rfl,hn,HA,hb⟩:=hrel
  obtain ⟨t,e1,ht⟩:∃ t,s.extract 0 n=t∧Hid (Tx t (l.take n)):=⟨_,rfl,by unfold Hid Tx;rw [Lib.extract_data,show s.data.toList=l from HL.out];simp⟩
  obtain ⟨u,e2,hu⟩:∃ u,s.extract n s.size=u∧Hid (Tx u (l.drop n)):=⟨_,rfl,by unfold Hid Tx;rw [Lib.extract_data,show s.data.toList=l from HL.out,HL.out.size,List.take_of_length_le (by simp)]⟩
  have hfin:(l.drop n=[]∨∃ c v,l.drop n=c :: v∧isDig c=false)→spanD l=(l.take n,l.drop n):=fun h=>by
   have:=spanD_is (l.take n) (l.drop n) HA.out h
   rwa [List.take_append_drop] at this
  have HFIN:=Lib.hid hfin
  clear hfin
  by_cases hlt:n<l.length
  ·obtain ⟨hp,e0⟩:=HL.out.idx n hlt
   obtain ⟨c,hc⟩:∃ c,l[n]=c:=⟨_,rfl⟩
   rw [hc] at e0
   have g1:decide ((n:Int)<(s.size:Int))=true:=decide_eq_true (by omega)
   have hdr:l.drop n=c :: l.drop (n+1):=by rw [← hc];exact List.drop_eq_getElem_cons hlt
   have HDR:=Lib.hid hdr
   have htk:l.take (n+1)=l.take n++[c]:=by rw [← hc];exact (List.take_append_getElem hlt).symm
   have HTK:=Lib.hid htk
   clear hdr htk hc
   by_cases h48:48≤c.toNat
   ·have g2:decide ((48:Int)≤(c.toNat:Int))=true:=decide_eq_true (by omega)
    by_cases h57:c.toNat≤57
    ·have g3:decide ((c.toNat:Int)≤(57:Int))=true:=decide_eq_true (by omega)
     have HD:Hid (isDig c=true):=(isDig_iff c).2 ⟨h48,h57⟩
     clear h48 h57
     go_wp2_with fail
     go_roundw
     case rel =>
      refine ⟨n+1,by go_num,hlt,?_,hb⟩
      unfold Hid
      intro d hd
      rw [HTK.out] at hd
      rcases List.mem_append.1 hd with h | h
      ·exact HA.out d h
      ·rw [List.mem_singleton.1 h];exact HD.out
     case measure=>simp [intOf];omega
    ·have g3:decide ((c.toNat:Int)≤(57:Int))=false:=decide_eq_false (by omega)
     have HD:Hid (isDig c=false):=by unfold Hid;rw [← Bool.not_eq_true,isDig_iff];omega
     clear h48 h57
     go_wp2_with fail
     go_quiet (fail)
     go_wp2_with fail
     go_ret2
     have hf:=HFIN.out (.inr ⟨c,_,HDR.out,HD.out⟩)
     rw [hf]
     exact ⟨t,u,rfl,ht,hu,⟨hb.os,hb.tape,hb.output,hb.size,hb.block⟩⟩
   ·have g2:decide ((48:Int)≤(c.toNat:Int))=false:=decide_eq_false (by omega)
    have HD:Hid (isDig c=false):=by unfold Hid;rw [← Bool.not_eq_true,isDig_iff];omega
    clear h48
    go_wp2_with fail
    go_quiet (fail)
    go_wp2_with fail
    go_ret2
    have hf:=HFIN.out (.inr ⟨c,_,HDR.out,HD.out⟩)
    rw [hf]
    exact ⟨t,u,rfl,ht,hu,⟨hb.os,hb.tape,hb.output,hb.size,hb.block⟩⟩
  ·have g1:¬ n<s.size:=by rw [HL.out.size];omega
   have HDR:Hid (l.drop n=[]):=by unfold Hid;rw [List.drop_eq_nil_iff];omega
   have hle:n≤s.size:=by rw [HL.out.size];omega
   go_wp2_with fail
   go_quiet (fail)
   go_wp2_with fail
   go_ret2
   have hf:=HFIN.out (.inl HDR.out)
   rw [hf]
   exact ⟨t,u,rfl,ht,hu,⟨hb.os,hb.tape,hb.output,hb.size,hb.block⟩⟩
end Go.Proofs.YtpbjkgpdkopgmaaGreatDoor
