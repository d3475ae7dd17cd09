/- A region that draws its order, in which some operations read and others make memory: one walk serves every order, if at each step the operation taken either reads alone (and gives one value however memory has grown) or is the only one that can come up. Plain lemmas over any program. A block that the call made, with the values of its cells. Plain lemmas. Texts as lists of bytes. Plain lemmas. The contracts of dec's cutting of texts: a sign, digits (what is plain of it). The contracts of dec's parts of a text: an exponent, the whole number taken apart (what is plain of it). The contract of dec's taking a number's text apart (what is plain of it). The parts of a text, and the document's parse. Plain lemmas. Numbers without end as lists of 32 bits each: what they are worth, and the one list that has no noughts behind. Plain lemmas. -/
import Derived.Test.YteclejplbphkpaaGreatG00
import Derived.Still
import Derived.Deep.Quiet
import Derived.Deep.QuietTactic
import Derived.Test.YteclejplbphkpaaGreatProg
import Derived.WalkSpells
import Derived.BigQuiet
import Derived.Lib.Strings
import Derived.Laws.Rows
import Derived.Laws.ResultCell
set_option linter.unusedVariables false
set_option linter.unusedSimpArgs false
set_option linter.unnecessarySimpa false
namespace Go.Proofs.YteclejplbphkpaaGreat
open Go.RowKit
def Nx (w w':World):Prop:=Below w.heap.size w w'
theorem Nx.refl (w:World):Nx w w:=Below.refl _ _
theorem Nx.trans {a b c:World} (h:Nx a b) (k:Nx b c):Nx a c:=nx h k
theorem Nx.drawn (w:World):Nx w { w with drawn:=w.drawn+1 }:=⟨rfl,rfl,rfl,Nat.le_refl _,fun _ _=>rfl⟩
theorem Nx.drewN (w:World) (n:Nat):Nx w (w.drewN n):=⟨rfl,rfl,rfl,Nat.le_refl _,fun _ _=>rfl⟩
abbrev Gr (w:World):={ w':World // Nx w w' }
instance grNonempty (w:World):Nonempty (Gr w):=⟨⟨w,Nx.refl w⟩⟩
section
variable {P:Program} {ops:Array Oper} {md:Region.Mode}
def calm (P:Program) (o:Oper) (a:Act) (w:World) (next:Act→Prop):Prop :=
 ∃ v,(∀ x:Gr w,o.quietAt P a (fun w''=>w''=x.1) x.1 v)∧next (a.put o.dst v)
def gOp (P:Program) (ops:Array Oper) (i:Nat) (K:Act→World→Prop) (a:Act) (w:World):Prop :=
 match ops[i]? with
 | none=>K a w
 | some o=>if Region.wanted o (yielded ops a.tmps) then o.wp P a w K (fun _ _ _=>False) else K (a.put o.dst undef) w
def GA (P:Program) (md:Region.Mode) (ops:Array Oper) (Q:Act→World→Prop):Nat→Array Bool→Act→World→Prop
 | 0,listed,a,w=>Region.ready md ops listed=[]∧∀ w1,Nx w w1→Q a w1
 | f+1,listed,a,w=>∀ w1,Nx w w1→(Region.ready md ops listed=[]→Q a w1) ∧
   ∀ i ∈ Region.ready md ops listed,gOp P ops i (fun a' w'=>Nx w1 w'∧GA P md ops Q f (listed.setIfInBounds i true) a' w') a w1
theorem GA.grow {Q:Act→World→Prop} {f:Nat} {listed:Array Bool} {a:Act} {w w1:World} (h:GA P md ops Q f listed a w) (hn:Nx w w1):GA P md ops Q f listed a w1:=by
 cases f with
 | zero=>exact ⟨h.1,fun w2 h2=>h.2 w2 (hn.trans h2)⟩
 | succ f=>exact fun w2 h2=>h w2 (hn.trans h2)
theorem wp_mono_both {o:Oper} {a:Act} {w:World} {K K':Act→World→Prop} {Q:Exit→Act→World→Prop} (h:∀ a w,K a w→K' a w) (hh:o.wp P a w K (fun _ _ _=>False)) (hl:True):o.wp P a w K' Q:=by
 unfold Oper.wp at *
 generalize (execOp a.eval o).run P w=r at *
 cases r with
 | ok n w' =>
  cases n <;> simp only [Oper.upon] at hh ⊢
  case value v=>exact h _ _ hh
  case skip=>exact h _ _ hh
  case defer d=>exact h _ _ hh
  case enter f args =>
   refine hh.mono fun e w'' he=>?_
   cases e with
   | returned v=>exact h _ _ he
   | panicked c=>exact he.elim
   | outgrown=>exact absurd he (by simp [LetsOut])
  case row r args=>exact hh.mono fun v w'' he=>h _ _ he
 | halt x w'=>cases x <;> simp only [Oper.upon] at hh
theorem wpAny_of_GA {Q:Act→World→Prop} {Q':Exit→Act→World→Prop} (hQ:∀ a w,Q a w→Q' .normal a w):∀ (f:Nat) (listed:Array Bool) (a:Act) (w:World),
  GA P md ops Q f listed a w→wpAny P md ops Q' f listed a w
 | 0,_,_,w,h=>⟨h.1,hQ _ _ (h.2 w (Nx.refl w))⟩
 | f+1,listed,a,w,h=>by
  refine ⟨fun h0=>hQ _ _ ((h w (Nx.refl w)).1 h0),fun i hi=>?_⟩
  have:=(h w (Nx.refl w)).2 i hi
  unfold gOp at this
  unfold wpOp
  split
  ·rename_i ho;simp only [ho] at this;exact wpAny_of_GA hQ f _ _ _ this.2
  ·rename_i o ho
   simp only [ho] at this
   split
   ·rename_i hw;simp only [hw,if_true] at this;exact .inl (wp_mono_both (fun a' w' h'=>wpAny_of_GA hQ f _ _ _ h'.2) this trivial)
   ·rename_i hw;simp only [hw] at this;exact wpAny_of_GA hQ f _ _ _ this.2
def YG (P:Program) (ops:Array Oper) (w:World) (o:Oper) (v:Value) (a:Act):Prop :=
 (Region.wanted o (yielded ops a.tmps)=true∧∀ x:Gr w,o.quietAt P a (fun w''=>w''=x.1) x.1 v) ∨
 (Region.wanted o (yielded ops a.tmps)=false∧v=undef)
theorem YG.grow {w w1:World} {o:Oper} {v:Value} {a:Act} (h:YG P ops w o v a) (hn:Nx w w1):YG P ops w1 o v a:=by
 rcases h with ⟨h1,h2⟩ | h
 ·exact .inl ⟨h1,fun x=>h2 ⟨x.1,hn.trans x.2⟩⟩
 ·exact .inr h
theorem YG.gOp {i:Nat} {w:World} {o:Oper} {v:Value} {a:Act} (hi:ops[i]? = some o) (hy:YG P ops w o v a) {K:Act→World→Prop} (h:K (a.put o.dst v) w):gOp P ops i K a w:=by
 unfold Go.Proofs.YteclejplbphkpaaGreat.gOp
 simp only [hi]
 rcases hy with ⟨hw,hv⟩ | ⟨hw,rfl⟩
 ·simp only [hw,if_true]
  have h3:=hv ⟨w,Nx.refl w⟩
  unfold Oper.quietAt at h3
  unfold Oper.wp
  generalize (execOp a.eval o).run P w=r at *
  cases r with
  | ok n w' =>
   cases n <;> simp only [Oper.quietUpon] at h3 <;> simp only [Oper.upon]
   case value u=>obtain ⟨e1,e2⟩:=h3;rw [e1,e2];exact h
   case skip=>obtain ⟨e1,e2⟩:=h3;rw [e1,← e2];exact h
   case enter f args =>
    obtain ⟨e1,hc⟩:=h3
    rw [e1]
    exact hc.mono fun e w'' ⟨he,hw''⟩=>by subst he;rw [hw''];exact h
  | halt x w'=>simp only [Oper.quietUpon] at h3
 ·simp only [hw,Bool.false_eq_true,if_false];exact h
theorem YG.of_same {w:World} {o:Oper} {v:Value} {a a':Act} (hy:YG P ops w o v a) (he:execOp a'.eval o=execOp a.eval o)
  (hw:Region.wanted o (yielded ops a'.tmps)=Region.wanted o (yielded ops a.tmps)):YG P ops w o v a':=by
 unfold YG Oper.quietAt at *
 rw [he,hw]
 exact hy
theorem defers_put (a:Act) (ds:List Deferred) (x:Option Tmp) (v:Value):({ a with defers:=ds }:Act).put x v = { a.put x v with defers:=ds }:=by cases x <;> rfl
theorem gOp_put {j:Nat} {w:World} {oi oj:Oper} {v:Value} (hj:ops[j]? = some oj) (hap:oi.apart ops oj=true)
  (hsi:∀ cs b,oi.op≠.select cs b) (hsj:∀ cs b,oj.op≠.select cs b) {K:Act→World→Prop} {a:Act}
  (hy:YG P ops w oi v a) (h:gOp P ops j K (a.put oi.dst v) w) :
  gOp P ops j (fun a' w'=>YG P ops w oi v a'∧K (a'.put oi.dst v) w') a w:=by
 obtain ⟨h1,h2,h3⟩:=Oper.apart_spec hap
 have keep:∀ u,YG P ops w oi v (a.put oj.dst u):=fun u =>
  hy.of_same (execOp_put oi hsi a oj.dst u h3) (wanted_put oi a oj.dst u h3)
 have pc:∀ u,(a.put oi.dst v).put oj.dst u=(a.put oj.dst u).put oi.dst v:=fun u=>Act.put_comm a v u h2
 unfold Go.Proofs.YteclejplbphkpaaGreat.gOp at *
 simp only [hj] at *
 rw [wanted_put oj a oi.dst v h1] at h
 split
 ·rename_i hw
  simp only [hw,if_true] at h
  unfold Oper.wp at *
  rw [execOp_put oj hsj a oi.dst v h1] at h
  generalize (execOp a.eval oj).run P w=r at *
  cases r with
  | ok n w' =>
   cases n <;> simp only [Oper.upon] at h ⊢
   case value u=>exact ⟨keep u,by rw [← pc];exact h⟩
   case skip=>exact ⟨keep _,by rw [← pc];exact h⟩
   case defer d =>
    have hd:(a.put oi.dst v).defers=a.defers:=by cases oi.dst <;> rfl
    rw [hd,defers_put,pc] at h
    rw [defers_put]
    refine ⟨(keep undef).of_same rfl rfl,?_⟩
    rw [defers_put]
    exact h
   case enter f args =>
    refine h.mono fun e w'' he=>?_
    cases e with
    | returned u=>exact ⟨keep u,by rw [← pc];exact he⟩
    | panicked c=>exact he.elim
    | outgrown=>exact absurd he (by simp [LetsOut])
   case row r args=>exact h.mono fun u w'' he=>⟨keep u,by rw [← pc];exact he⟩
  | halt x w'=>cases x <;> simp only [Oper.upon] at h
 ·rename_i hw
  simp only [hw] at h
  exact ⟨keep _,by rw [← pc];exact h⟩
theorem gOp_mono {i:Nat} {a:Act} {w:World} {K K':Act→World→Prop} (h:∀ a w,K a w→K' a w) (hh:gOp P ops i K a w):gOp P ops i K' a w:=by
 unfold Go.Proofs.YteclejplbphkpaaGreat.gOp at *
 split
 ·exact h _ _ (by simpa [*] using hh)
 ·rename_i o ho
  simp only [ho] at hh
  split
  ·rename_i hw;simp only [hw,if_true] at hh;exact wp_mono_both h hh trivial
  ·rename_i hw;simp only [hw] at hh;exact h _ _ hh
theorem GA_first {Q:Act→World→Prop} {i:Nat} {oi:Oper} {v:Value} (hi:ops[i]? = some oi) (hsel:∀ (j:Nat) (o:Oper) cs b,ops[j]? = some o→o.op≠.select cs b) :
  ∀ (f:Nat) (listed:Array Bool) (a:Act) (w:World),
   (∀ j oj,ops[j]? = some oj→j≠i→listed.getD j true=false→(∀ e ∈ oj.after,Region.binds md e=true→e.on≠i)→oi.apart ops oj=true) →
   i ∈ Region.ready md ops listed→YG P ops w oi v a →
   GA P md ops Q f (listed.setIfInBounds i true) (a.put oi.dst v) w→GA P md ops Q (f+1) listed a w:=by
 intro f
 induction f with
 | zero =>
  intro listed a w _ hr hy H w1 hn
  refine ⟨fun h=>(by rw [h] at hr;cases hr),fun j hj=>?_⟩
  by_cases hji:j=i
  ·subst hji;exact (hy.grow hn).gOp hi ⟨Nx.refl _,H.grow hn⟩
  ·have:=ready_mono hj hji
   rw [H.1] at this
   cases this
 | succ f ih =>
  intro listed a w hfree hr hy H w1 hn
  refine ⟨fun h=>(by rw [h] at hr;cases hr),fun j hj=>?_⟩
  by_cases hji:j=i
  ·subst hji;exact (hy.grow hn).gOp hi ⟨Nx.refl _,H.grow hn⟩
  ·have h1:=(H w1 hn).2 j (ready_mono hj hji)
   obtain ⟨hjun,oj,hoj,hall⟩:=mem_ready.1 hj
   have hnot:∀ e ∈ oj.after,Region.binds md e=true→e.on≠i:=fun e he hb heq=>by
    have h1:=hall e he hb
    have h0:=(mem_ready.1 hr).1
    rw [heq] at h1
    rcases Nat.lt_or_ge i listed.size with h' | h'
    ·simp [h'] at h0 h1;rw [h0] at h1;cases h1
    ·simp [Array.getElem?_eq_none h'] at h1
   have h2:=gOp_put hoj (hfree j oj hoj hji hjun hnot) (fun cs b=>hsel i oi cs b hi) (fun cs b=>hsel j oj cs b hoj) (hy.grow hn) h1
   have hfree':∀ k ok,ops[k]? = some ok→k≠i→(listed.setIfInBounds j true).getD k true=false →
     (∀ e ∈ ok.after,Region.binds md e=true→e.on≠i)→oi.apart ops ok=true:=fun k ok hk hki hun hno=>by
    refine hfree k ok hk hki ?_ hno
    by_cases hjk:j=k
    ·subst hjk;exact hjun
    ·rw [getD_set_ne true hjk] at hun;exact hun
   refine gOp_mono (fun a' w' h3=>⟨h3.2.1,ih (listed.setIfInBounds j true) a' w' hfree' (ready_mono hr (Ne.symm hji)) (h3.1.grow h3.2.1) ?_⟩) h2
   rw [Array.setIfInBounds_comm _ _ hji]
   exact h3.2.2
def wpHyb (P:Program) (ops:Array Oper) (Q:Act→World→Prop):List (Nat×Bool)→Act→World→Prop
 | [],a,w=>∀ w1,Nx w w1→Q a w1
 | (k,true) :: rest,a,w=>match ops[k]? with
  | none=>False
  | some o=>if Region.wanted o (yielded ops a.tmps) then calm P o a w (fun a'=>wpHyb P ops Q rest a' w) else wpHyb P ops Q rest (a.put o.dst undef) w
 | (k,false) :: rest,a,w=>∀ w1,Nx w w1→match ops[k]? with
  | none=>False
  | some o=>if Region.wanted o (yielded ops a.tmps) then o.wp P a w1 (fun a' w'=>Nx w1 w'∧wpHyb P ops Q rest a' w') (fun _ _ _=>False) else wpHyb P ops Q rest (a.put o.dst undef) w1
def hybFrom (md:Region.Mode) (ops:Array Oper):List (Nat×Bool)→Array Bool→Bool
 | [],listed=>(Region.ready md ops listed).isEmpty
 | (k,true) :: rest,listed=>(Region.ready md ops listed).contains k && Region.free md ops listed k && hybFrom md ops rest (listed.setIfInBounds k true)
 | (k,false) :: rest,listed=>Region.ready md ops listed == [k] && hybFrom md ops rest (listed.setIfInBounds k true)
def hybB (md:Region.Mode) (ops:Array Oper) (s:List (Nat×Bool)):Bool:=Region.noSelect ops && s.length == ops.size && hybFrom md ops s (Array.replicate ops.size false)
theorem GA_hyb {Q:Act→World→Prop} (hs:Region.noSelect ops=true):∀ (s:List (Nat×Bool)) (listed:Array Bool) (a:Act) (w:World),
  hybFrom md ops s listed=true→wpHyb P ops Q s a w→GA P md ops Q s.length listed a w
 | [],listed,a,w,hB,h=>⟨by simpa [hybFrom] using hB,h⟩
 | (k,true) :: rest,listed,a,w,hB,h=>by
  simp only [hybFrom,Bool.and_eq_true] at hB
  obtain ⟨⟨hr,hf⟩,hB'⟩:=hB
  have hr':k ∈ Region.ready md ops listed:=by simpa using hr
  obtain ⟨_,o,ho,_⟩:=mem_ready.1 hr'
  simp only [wpHyb,ho] at h
  by_cases hw:Region.wanted o (yielded ops a.tmps)=true
  ·simp only [hw,if_true] at h
   obtain ⟨v,h1,h2⟩:=h
   exact GA_first ho (Region.noSelect_spec hs) rest.length listed a w (Region.free_spec ho hf) hr' (.inl ⟨hw,h1⟩) (GA_hyb hs rest _ _ _ hB' h2)
  ·simp only [hw] at h
   exact GA_first ho (Region.noSelect_spec hs) rest.length listed a w (Region.free_spec ho hf) hr' (.inr ⟨by simpa using hw,rfl⟩) (GA_hyb hs rest _ _ _ hB' h)
 | (k,false) :: rest,listed,a,w,hB,h=>by
  simp only [hybFrom,Bool.and_eq_true,beq_iff_eq] at hB
  obtain ⟨hr,hB'⟩:=hB
  intro w1 hn
  refine ⟨fun h0=>(by rw [hr] at h0;cases h0),fun i hi=>?_⟩
  rw [hr] at hi
  obtain rfl:i=k:=by simpa using hi
  have h:=h w1 hn
  unfold gOp
  cases ho:ops[i]? with
  | none=>rw [ho] at h;exact h.elim
  | some o =>
   rw [ho] at h
   simp only at h ⊢
   by_cases hw:Region.wanted o (yielded ops a.tmps)=true
   ·simp only [hw,if_true] at h ⊢
    exact wp_mono_both (fun a' w' h'=>⟨h'.1,GA_hyb hs rest _ _ _ hB' h'.2⟩) h trivial
   ·simp only [hw] at h ⊢
    exact ⟨Nx.refl _,GA_hyb hs rest _ _ _ hB' h⟩
structure Hyb (P:Program) (ops:Array Oper) (Q:Act→World→Prop) (s:List (Nat×Bool)) (a:Act) (w:World):Prop where
 out:wpHyb P ops Q s a w
theorem wp_region_hyb {id:Nat} {Q:Exit→Act→World→Prop} {a:Act} {w:World} {l:List Oper} (s:List (Nat×Bool)) (hm:P.follows .mixedOrders=true) (hB:hybB .any l.toArray s=true)
  (h:Hyb P l.toArray (fun a w=>Q .normal a w) s a w):(Code.region id l.toArray true).wp P Q a w:=by
 simp only [hybB,Bool.and_eq_true,beq_iff_eq] at hB
 obtain ⟨⟨h1,h2⟩,h3⟩:=hB
 refine wp_region_any hm (wpAny_of_GA (Q:=fun a w=>Q .normal a w) (fun _ _ h=>h) _ _ _ _ ?_)
 have:=GA_hyb (md:=.any) h1 s _ _ _ h3 h.out
 rw [h2] at this
 exact this.grow (Nx.drawn w)
theorem hyb_calm {Q:Act→World→Prop} {k:Nat} {o:Oper} {rest:List (Nat×Bool)} {a:Act} {w:World} (ho:ops[k]? = some o)
  (h:∀ K:Act→Prop,(∀ a,Hyb P ops Q rest a w→K a)→if Region.wanted o (yielded ops a.tmps) then calm P o a w K else K (a.put o.dst undef)):Hyb P ops Q ((k,true) :: rest) a w:=by
 refine ⟨?_⟩
 simp only [wpHyb,ho]
 exact h _ (fun _ h=>h.out)
theorem hyb_alone {Q:Act→World→Prop} {k:Nat} {o:Oper} {rest:List (Nat×Bool)} {a:Act} {w:World} (ho:ops[k]? = some o)
  (h:∀ w1,Nx w w1→∀ K:Act→World→Prop,(∀ a' w',Nx w1 w'→Hyb P ops Q rest a' w'→K a' w')→if Region.wanted o (yielded ops a.tmps) then o.wp P a w1 K (fun _ _ _=>False) else K (a.put o.dst undef) w1):Hyb P ops Q ((k,false) :: rest) a w:=by
 refine ⟨?_⟩
 intro w1 hn
 simp only [ho]
 have:=h w1 hn (fun a' w'=>Nx w1 w'∧wpHyb P ops Q rest a' w') (fun a' w' h1 h2=>⟨h1,h2.out⟩)
 split
 ·rename_i hw;simpa [hw] using this
 ·rename_i hw;simp [hw] at this;exact this.2
theorem hyb_nil {Q:Act→World→Prop} {a:Act} {w:World} (h:∀ w1,Nx w w1→Q a w1):Hyb P ops Q [] a w:=⟨h⟩
end
attribute [go_sem] calm
end Go.Proofs.YteclejplbphkpaaGreat
namespace Go.Proofs.YteclejplbphkpaaGreat
open Go.RowKit
def Blk (w:World) (B g:Nat) (cs:Array Value) (T:TypeId):Prop:=B≤g∧w.heap[g]? = some (.cells cs T (0,0))
theorem Blk.lt {w:World} {B g:Nat} {cs:Array Value} {T:TypeId} (h:Blk w B g cs T):g<w.heap.size:=by
 rcases Nat.lt_or_ge g w.heap.size with h1 | h1
 ·exact h1
 ·have:=h.2;rw [Array.getElem?_eq_none h1] at this;cases this
theorem Blk.new (w:World) (cs:Array Value) (T:TypeId):Blk (w.alloc (.cells cs T)) w.heap.size w.heap.size cs T:=⟨Nat.le_refl _,heap_alloc_new w _⟩
theorem Blk.less {w:World} {B B' g:Nat} {cs:Array Value} {T:TypeId} (h:Blk w B g cs T) (hB:B'≤B):Blk w B' g cs T:=⟨Nat.le_trans hB h.1,h.2⟩
theorem Blk.below {w w':World} {B g:Nat} {cs:Array Value} {T:TypeId} (h:Blk w B g cs T) (hb:Below w.heap.size w w'):Blk w' B g cs T:=⟨h.1,by rw [hb.block g h.lt];exact h.2⟩
theorem Blk.alloc {w:World} {B g:Nat} {cs:Array Value} {T:TypeId} (h:Blk w B g cs T) (o:Obj):Blk (w.alloc o) B g cs T:=h.below (nx0 w o)
theorem Blk.cell {w:World} {B g:Nat} {cs:Array Value} {T:TypeId} (h:Blk w B g cs T) (i:Nat):w.cell? ⟨g,i,none⟩=cs[i]?:=by
 unfold World.cell?;rw [h.2];rfl
theorem Blk.free {w:World} {B g:Nat} {cs:Array Value} {T:TypeId} (h:Blk w B g cs T) (i:Nat):w.frozen? ⟨g,i,none⟩=false:=by
 unfold World.frozen?;rw [h.2];simp
theorem Blk.put {w:World} {B g:Nat} {cs:Array Value} {T:TypeId} (h:Blk w B g cs T) (i:Nat) (v:Value):Blk (w.setCell ⟨g,i,none⟩ v) B g (cs.setIfInBounds i v) T:=by
 refine ⟨h.1,?_⟩
 have hl:=h.lt
 have h2:=h.2
 rw [Array.getElem?_eq_getElem hl] at h2
 simp only [World.setCell]
 rw [Array.getElem?_modify,if_pos rfl,Array.getElem?_eq_getElem hl,Option.some.inj h2]
 rfl
theorem Blk.other {w:World} {B g k:Nat} {cs:Array Value} {T:TypeId} (h:Blk w B g cs T) (hk:k≠g) (i:Nat) (v:Value):Blk (w.setCell ⟨k,i,none⟩ v) B g cs T:=by
 refine ⟨h.1,?_⟩
 simp only [World.setCell]
 rw [Array.getElem?_modify,if_neg hk];exact h.2
theorem Blk.drew {w:World} {B g:Nat} {cs:Array Value} {T:TypeId} (h:Blk w B g cs T) (n:Nat):Blk (w.drewN n) B g cs T:=h
theorem Nx.put {w w':World} {B g:Nat} {cs:Array Value} {T:TypeId} (h:Nx w w') (hk:Blk w' w.heap.size g cs T) (i:Nat) (v:Value):Nx w (w'.setCell ⟨g,i,none⟩ v):=Below.setCell h hk.1 v
theorem Nx.put' {w w':World} {g:Nat} (h:Nx w w') (hk:w.heap.size≤g) (i:Nat) (v:Value):Nx w (w'.setCell ⟨g,i,none⟩ v):=Below.setCell h hk v
theorem Nx.dr {w w':World} (h:Nx w w') (n:Nat):Nx w (w'.drewN n):=⟨h.os,h.tape,h.output,h.size,h.block⟩
theorem Nx.al {w w':World} (h:Nx w w') (o:Obj):Nx w (w'.alloc o):=nxa h o
end Go.Proofs.YteclejplbphkpaaGreat
namespace Go.Proofs.YteclejplbphkpaaGreat
open Go.RowKit
def Tx (s:ByteArray) (l:List UInt8):Prop:=s.data.toList=l
theorem Tx.size {s:ByteArray} {l:List UInt8} (h:Tx s l):s.size=l.length:=by rw [Lib.size_eq,show s.data.toList=l from h]
theorem Tx.eq {s:ByteArray} {l:List UInt8} (h:Tx s l):s=⟨l.toArray⟩:=by rw [← show s.data.toList=l from h,Lib.mk_data]
theorem Tx.toL {s:ByteArray} {l:List UInt8} (h:Tx s l):s.toList=l:=by rw [Lib.toList_data];exact h
theorem Tx.of (l:List UInt8):Tx ⟨l.toArray⟩ l:=by unfold Tx;rfl
theorem Tx.nil {s:ByteArray} (h:Tx s []):s.toList=[]∧s.size=0:=⟨h.toL,h.size⟩
theorem Tx.cons {s:ByteArray} {c:UInt8} {l:List UInt8} (h:Tx s (c :: l)):∃ (hp:0<s.size) (t:ByteArray),s[0]'hp=c∧s.extract 1 s.size=t∧Tx t l∧¬ s.toList=[]∧s.toList.isEmpty=false:=by
 have hz:s.size=l.length+1:=by rw [h.size];rfl
 refine ⟨by omega,s.extract 1 s.size,?_,rfl,?_,by rw [h.toL];simp,by rw [h.toL];rfl⟩
 ·obtain ⟨⟨d⟩⟩:=s
  obtain rfl:d=c :: l:=h
  rfl
 ·unfold Tx
  rw [Lib.extract_data,show s.data.toList=c :: l from h,hz]
  simp
theorem Tx.idx {s:ByteArray} {l:List UInt8} (h:Tx s l) (i:Nat) (hi:i<l.length):∃ hp:i<s.size,s[i]'hp=l[i]:=by
 refine ⟨by rw [h.size];exact hi,?_⟩
 obtain ⟨⟨d⟩⟩:=s
 obtain rfl:d=l:=h
 rfl
theorem Tx.from_ {s:ByteArray} {l:List UInt8} (h:Tx s l) (n:Nat):∃ u,s.extract n s.size=u∧Hid (Tx u (l.drop n)) :=
 ⟨_,rfl,by unfold Hid Tx;rw [Lib.extract_data,show s.data.toList=l from h,h.size,List.take_of_length_le (by simp)]⟩
theorem Tx.upto {s:ByteArray} {l:List UInt8} (h:Tx s l) (n:Nat):∃ u,s.extract 0 n=u∧Hid (Tx u (l.take n)) :=
 ⟨_,rfl,by unfold Hid Tx;rw [Lib.extract_data,show s.data.toList=l from h];simp⟩
theorem Tx.mid {s:ByteArray} {l:List UInt8} (h:Tx s l) (a n:Nat):∃ u,s.extract a n=u∧Hid (Tx u ((l.take n).drop a)) :=
 ⟨_,rfl,by unfold Hid Tx;rw [Lib.extract_data,show s.data.toList=l from h,List.drop_take]⟩
end Go.Proofs.YteclejplbphkpaaGreat
namespace Go.Proofs.YteclejplbphkpaaGreat
open Go.RowKit
def spanD:List UInt8→List UInt8×List UInt8
 | []=>([],[])
 | c :: s=>if isDig c then (c :: (spanD s).1,(spanD s).2) else ([],c :: s)
theorem spanD_app (l:List UInt8):l=(spanD l).1++(spanD l).2:=by
 induction l with
 | nil=>rfl
 | cons c l ih =>
   unfold spanD;split
   ·simp only [List.cons_append];rw [← ih]
   ·rfl
theorem spanD_is (a b:List UInt8) (ha:∀ c ∈ a,isDig c=true) (hb:b=[]∨∃ c t,b=c :: t∧isDig c=false):spanD (a++b)=(a,b):=by
 induction a with
 | nil =>
  rcases hb with rfl | ⟨c,t,rfl,hc⟩
  ·rfl
  ·simp [spanD,hc]
 | cons c a ih =>
  rw [List.cons_append,spanD,if_pos (ha c (List.mem_cons_self ..)),ih (fun d hd=>ha d (List.mem_cons_of_mem _ hd))]
theorem isDig_iff (c:UInt8):isDig c=true↔48≤c.toNat∧c.toNat≤57:=by unfold isDig;simp
end Go.Proofs.YteclejplbphkpaaGreat
namespace Go.Proofs.YteclejplbphkpaaGreat
open Go.RowKit
def capF:List UInt8→Nat→Nat
 | [],v=>v
 | c :: l,v=>capF l (min (10 * v+digV c) 401)
def digs (l:List UInt8):Prop:=∀ c ∈ l,isDig c=true
theorem spanD_digs (l:List UInt8):digs (spanD l).1:=by
 induction l with
 | nil=>intro c hc;cases hc
 | cons a l ih =>
  unfold spanD
  split
  ·rename_i h
   intro c hc
   rcases List.mem_cons.1 hc with rfl | h'
   ·exact h
   ·exact ih c h'
  ·intro c hc;cases hc
theorem spanD_len (l:List UInt8):(spanD l).1.length+(spanD l).2.length=l.length:=by
 conv=>rhs;rw [spanD_app l,List.length_append]
theorem signS_len (l:List UInt8):(signS l).2.length≤l.length:=by
 cases l with
 | nil=>simp [signS]
 | cons c l =>
   unfold signS;dsimp only;split
   ·simp
   ·split <;> simp
theorem capF_take (l:List UInt8) (n:Nat) (h:n<l.length):∀ v,capF (l.take (n+1)) v=min (10 * capF (l.take n) v+digV l[n]) 401:=by
 induction l generalizing n with
 | nil=>simp at h
 | cons a l ih =>
  intro v
  cases n with
  | zero=>simp [capF]
  | succ n =>
   simp only [List.take_succ_cons,capF,List.getElem_cons_succ]
   exact ih n (by simpa using h) _
theorem capF_le (l:List UInt8):∀ v,v≤401→capF l v≤401:=by
 induction l with
 | nil=>intro v h;exact h
 | cons a l ih=>intro v _;exact ih _ (Nat.min_le_right _ _)
def expD:List UInt8→Int×Bool
 | []=>(0,false)
 | c :: l =>
  if c.toNat=101∨c.toNat=69 then
   (if (signS l).1 then -((capF (spanD (signS l).2).1 0:Nat):Int) else ((capF (spanD (signS l).2).1 0:Nat):Int),!(spanD (signS l).2).1.isEmpty && (spanD (signS l).2).2.isEmpty)
  else (0,false)
end Go.Proofs.YteclejplbphkpaaGreat
namespace Go.Proofs.YteclejplbphkpaaGreat
open Go.RowKit
def stopS:List UInt8→Bool×List UInt8
 | []=>(false,[])
 | c :: t=>if c=46 then (true,t) else (false,c :: t)
theorem stop_cut (l:List UInt8):Lib.hasPrefix l [46]=(stopS l).1∧Lib.trimPrefix l [46]=(stopS l).2:=by
 cases l with
 | nil=>exact ⟨rfl,rfl⟩
 | cons c t =>
  by_cases h:c=46
  ·subst h;exact ⟨rfl,rfl⟩
  ·have h1:Lib.hasPrefix (c :: t) [46]=false:=by
    unfold Lib.hasPrefix;simp [List.isPrefixOf];exact fun e=>h e.symm
   unfold Lib.trimPrefix
   rw [h1]
   simp [stopS,h]
theorem stopS_len (l:List UInt8):(stopS l).2.length≤l.length:=by
 cases l with
 | nil=>simp [stopS]
 | cons c t=>unfold stopS;dsimp only;split <;> simp
theorem results_cell_tmp_row {P:Program} {fn:Func} {p u:Tmp} {ty:TypeId} (h:fn.results=#[.cell p ty,.tmp u]) (tmps:Array Value) (w:World) (g:Nat) (t:TypeId) (cs:Array Value) (fr:Nat×Nat) (d:TypeDesc)
  (hp:tmps.getD p undef = .pointer (some ⟨g,0,none⟩)) (hg:w.heap[g]? = some (.cells cs t fr))
  (hu:P.underlying ty=some d) (hd:(match d with | .struct _ | .array _ _=>true | _=>false)=true) (hi:(P.info? ty).map (·.size)=some cs.size) :
  (results fn tmps).run P w = .ok (.tuple #[.agg cs,tmps.getD u undef]) w:=by
 rw [results_cell_tmp h,hp]
 simp [asAddr,run_loadVar_row w g t ty cs fr d hg hu hd hi,Result.andThen]
def TakeD (l:List UInt8) (sg:Int) (wv fv:ByteArray) (ev:Int) (ok:Bool):Prop :=
 if (if (stopS (spanD (signS l).2).2).1 then (spanD (stopS (spanD (signS l).2).2).2).1 else [])=[]∧((stopS (spanD (signS l).2).2).1=true∨(spanD (signS l).2).1=[]) then ok=false
 else sg=(if (signS l).1 then 9223372036854775808 else 0)∧Tx wv (spanD (signS l).2).1∧Tx fv (if (stopS (spanD (signS l).2).2).1 then (spanD (stopS (spanD (signS l).2).2).2).1 else []) ∧
  if (if (stopS (spanD (signS l).2).2).1 then (spanD (stopS (spanD (signS l).2).2).2).2 else (stopS (spanD (signS l).2).2).2)=[] then ev=0∧ok=true
  else ev=(expD (if (stopS (spanD (signS l).2).2).1 then (spanD (stopS (spanD (signS l).2).2).2).2 else (stopS (spanD (signS l).2).2).2)).1∧ok=(expD (if (stopS (spanD (signS l).2).2).1 then (spanD (stopS (spanD (signS l).2).2).2).2 else (stopS (spanD (signS l).2).2).2)).2
end Go.Proofs.YteclejplbphkpaaGreat
namespace Go.Proofs.YteclejplbphkpaaGreat
open Go.RowKit
theorem scan_true (t:List UInt8):scanS true t=((spanD t).1,(spanD t).1.length,true,(spanD t).2):=by
 induction t with
 | nil=>rfl
 | cons c t ih =>
  unfold scanS spanD
  by_cases h:isDig c=true
  ·simp [h,ih]
  ·simp [h]
theorem scan_false (t:List UInt8):scanS false t =
  if (stopS (spanD t).2).1 then ((spanD t).1++(spanD (stopS (spanD t).2).2).1,(spanD (stopS (spanD t).2).2).1.length,true,(spanD (stopS (spanD t).2).2).2)
  else ((spanD t).1,0,false,(stopS (spanD t).2).2):=by
 induction t with
 | nil=>rfl
 | cons c t ih =>
  unfold scanS
  by_cases h:isDig c=true
  ·rw [if_pos h,ih]
   have hs:spanD (c :: t)=(c :: (spanD t).1,(spanD t).2):=by rw [spanD,if_pos h]
   rw [hs]
   dsimp only
   split <;> simp
  ·rw [if_neg h]
   have hs:spanD (c :: t)=([],c :: t):=by rw [spanD,if_neg h]
   rw [hs]
   dsimp only
   by_cases h46:c=46
   ·subst h46
    rw [if_pos ⟨rfl,rfl⟩,scan_true]
    simp [stopS]
   ·have h2:¬ (c.toNat=46∧false=false):=fun e=>h46 (UInt8.toNat_inj.1 (by rw [e.1];rfl))
    rw [if_neg h2]
    simp [stopS,h46]
def bigF:List UInt8→Nat→Nat
 | [],v=>v
 | c :: l,v=>bigF l (min (v * 10+digV c) 100000)
theorem expDigits_all (l:List UInt8) (h:digs l):∀ v,expDigits l v=some (bigF l v):=by
 induction l with
 | nil=>intro v;rfl
 | cons c l ih =>
  intro v
  rw [expDigits,if_pos (h c (List.mem_cons_self ..)),ih (fun d hd=>h d (List.mem_cons_of_mem _ hd))]
  rfl
theorem expDigits_some (l:List UInt8):(spanD l).2≠[]→∀ v,expDigits l v=none:=by
 induction l with
 | nil=>intro h;exact absurd rfl h
 | cons c l ih =>
  intro h v
  unfold expDigits
  by_cases hc:isDig c=true
  ·rw [if_pos hc]
   apply ih
   rw [spanD,if_pos hc] at h
   exact h
  ·rw [if_neg hc]
theorem cap_big (l:List UInt8):∀ v u,min v 401=min u 401→u≤401→min (bigF l v) 401=min (capF l u) 401:=by
 induction l with
 | nil=>intro v u h _;exact h
 | cons c l ih =>
  intro v u h hu
  unfold bigF capF
  refine ih _ _ ?_ (Nat.min_le_right _ _)
  omega
theorem expS_is (c:UInt8) (l:List UInt8):((expD (c :: l)).2=false∧expS (c :: l)=none) ∨
  ((expD (c :: l)).2=true∧∃ v:Nat,expS (c :: l)=some (if (signS l).1 then -(v:Int) else (v:Int),decide (400<v))∧(if 400<v then (400<(expD (c :: l)).1∨(expD (c :: l)).1 < -400) else (expD (c :: l)).1=if (signS l).1 then -(v:Int) else (v:Int))):=by
 by_cases he:c.toNat=101∨c.toNat=69
 ·have h1:expD (c :: l)=(if (signS l).1 then -((capF (spanD (signS l).2).1 0:Nat):Int) else ((capF (spanD (signS l).2).1 0:Nat):Int),!(spanD (signS l).2).1.isEmpty && (spanD (signS l).2).2.isEmpty):=by simp only [expD,if_pos he]
  rw [h1]
  simp only [expS,if_pos he]
  generalize (signS l).1=neg
  generalize (signS l).2=r
  by_cases hr:r=[]
  ·subst hr
   left;exact ⟨rfl,if_pos rfl⟩
  ·rw [if_neg hr]
   by_cases hrest:(spanD r).2=[]
   ·right
    have hall:(spanD r).1=r:=by have:=spanD_app r;rw [hrest,List.append_nil] at this;exact this.symm
    have hd:digs r:=by rw [← hall];exact spanD_digs r
    rw [hrest,hall,expDigits_all r hd]
    refine ⟨by cases r with
     | nil=>exact absurd rfl hr
     | cons=>rfl,bigF r 0,rfl,?_⟩
    have hcb:=cap_big r 0 0 rfl (by decide)
    have hc:=capF_le r 0 (by decide)
    try dsimp only
    split
    ·rename_i h
     have:capF r 0=401:=by omega
     rw [this]
     cases neg
     ·left;decide
     ·right;decide
    ·rename_i h
     have:capF r 0=bigF r 0:=by omega
     rw [this]
   ·left
    rw [expDigits_some r hrest]
    refine ⟨?_,rfl⟩
    cases hq:(spanD r).2 with
    | nil=>exact absurd hq hrest
    | cons=>simp
 ·left
  exact ⟨by simp only [expD,if_neg he],by simp only [expS,if_neg he]⟩
theorem parse_take (l:List UInt8) (sg:Int) (wv fv:ByteArray) (ev:Int) (ok:Bool) (h:TakeD l sg wv fv ev ok) :
  (ok=false→parseS l=(0,2))∧(ok=true→∃ W F,Tx wv W∧Tx fv F∧digs W∧digs F∧W.length+F.length≤l.length∧∃ S:Nat,sg=(S:Int)∧(S=0∨S=9223372036854775808) ∧
   parseS l=if 60<W.length+F.length then (0,4) else if 400<ev∨ev < -400 then (0,5) else if numS (valS (W++F)) (ev - F.length)<LIM then (S+numS (valS (W++F)) (ev - F.length),0) else (0,5)):=by
 unfold TakeD at h
 have hp:parseS l=(if (scanS false (signS l).2).1=[]∨(scanS false (signS l).2).2.2.1=true∧(scanS false (signS l).2).2.1=0 then (0,2)
  else match expS (scanS false (signS l).2).2.2.2 with
  | none=>(0,2)
  | some (v,big) =>
   if 60<(scanS false (signS l).2).1.length then (0,4)
   else if big then (0,5)
   else if numS (valS (scanS false (signS l).2).1) (v - (scanS false (signS l).2).2.1)<LIM then ((if (signS l).1 then 9223372036854775808 else 0)+numS (valS (scanS false (signS l).2).1) (v - (scanS false (signS l).2).2.1),0)
   else (0,5)):=rfl
 rw [scan_false] at hp
 have g1:=signS_len l
 have g2:=spanD_len (signS l).2
 have g3:=stopS_len (spanD (signS l).2).2
 have g4:=spanD_len (stopS (spanD (signS l).2).2).2
 generalize hneg:(signS l).1=neg at *
 generalize (signS l).2=r1 at *
 have hW:=spanD_digs r1
 generalize (spanD r1).1=W at *
 generalize (spanD r1).2=r2 at *
 generalize (stopS r2).1=stop at *
 generalize (stopS r2).2=r3 at *
 have hF:=spanD_digs r3
 generalize (spanD r3).1=F at *
 generalize (spanD r3).2=r4 at *
 have hS:∃ S:Nat,(if neg=true then (9223372036854775808:Int) else 0)=(S:Int)∧(S=0∨S=9223372036854775808)∧(if neg=true then 9223372036854775808 else 0)=S:=by
  cases neg
  ·exact ⟨0,rfl,.inl rfl,rfl⟩
  ·exact ⟨9223372036854775808,rfl,.inr rfl,rfl⟩
 obtain ⟨S,hS1,hS2,hS3⟩:=hS
 rw [hS3] at hp
 rw [hS1] at h
 obtain ⟨G,rest,hG,hrest,hgd,hgl⟩:∃ G rest,(if stop=true then F else [])=G∧(if stop=true then r4 else r3)=rest∧digs G∧W.length+G.length≤l.length:=by
  refine ⟨_,_,rfl,rfl,?_,?_⟩
  ·cases stop
   ·intro c hc;cases hc
   ·exact hF
  ·cases stop
   ·simp;omega
   ·simp;omega
 rw [hG,hrest] at h
 have hp2:parseS l=(if G=[]∧(stop=true∨W=[]) then (0,2)
  else match expS rest with
  | none=>(0,2)
  | some (v,big) =>
   if 60<(W++G).length then (0,4)
   else if big then (0,5)
   else if numS (valS (W++G)) (v - G.length)<LIM then (S+numS (valS (W++G)) (v - G.length),0)
   else (0,5)):=by
  rw [hp]
  cases stop
  ·simp at hG hrest
   subst hG hrest
   simp
  ·simp at hG hrest
   subst hG hrest
   have e:(W++F=[]∨True∧F.length=0)↔(F=[]∧(True∨W=[])):=by
    rw [List.append_eq_nil_iff,List.length_eq_zero_iff]
    constructor
    ·rintro (⟨_,h⟩ | ⟨_,h⟩) <;> exact ⟨h,.inl trivial⟩
    ·rintro ⟨h,_⟩;exact .inr ⟨trivial,h⟩
   simp only [if_true,e]
 by_cases hf:G=[]∧(stop=true∨W=[])
 ·rw [if_pos hf] at h hp2
  exact ⟨fun _=>hp2,fun h'=>(by rw [h] at h';cases h')⟩
 ·rw [if_neg hf] at h hp2
  obtain ⟨h1,h2,h3,h4⟩:=h
  cases rest with
  | nil =>
   rw [if_pos rfl] at h4
   obtain ⟨rfl,rfl⟩:=h4
   refine ⟨fun h=>(by cases h),fun _=>⟨W,G,h2,h3,hW,hgd,hgl,S,h1,hS2,?_⟩⟩
   rw [hp2,show expS []=some (0,false) from rfl]
   simp
  | cons c m =>
   rw [if_neg (by simp)] at h4
   obtain ⟨rfl,rfl⟩:=h4
   rcases expS_is c m with ⟨e1,e2⟩ | ⟨e1,v,e2,e3⟩
   ·rw [e2] at hp2
    exact ⟨fun _=>hp2,fun h'=>(by rw [e1] at h';cases h')⟩
   ·rw [e2] at hp2
    refine ⟨fun h'=>(by rw [e1] at h';cases h'),fun _=>⟨W,G,h2,h3,hW,hgd,hgl,S,h1,hS2,?_⟩⟩
    rw [hp2,List.length_append]
    dsimp only
    by_cases hb:400<v
    ·rw [if_pos hb] at e3
     rw [if_pos e3]
     simp [hb]
    ·rw [if_neg hb] at e3
     have hv:¬ (400<(expD (c :: m)).1∨(expD (c :: m)).1 < -400):=by
      rw [e3];split <;> omega
     rw [if_neg hv,e3]
     simp [hb]
end Go.Proofs.YteclejplbphkpaaGreat
namespace Go.Proofs.YteclejplbphkpaaGreat
open Go.RowKit
def uv (x:UInt32):Value:=.int .u32 (x.toNat:Int)
theorem uv_one (x:UInt32):(uv x).oneCell'=true:=rfl
theorem uv_ofNat (n:Nat) (k:Int) (h:k=((n % 4294967296:Nat):Int)):Value.int .u32 k=uv (UInt32.ofNat n):=by
 subst h;simp [uv,UInt32.toNat_ofNat]
def val:List UInt32→Nat
 | []=>0
 | x :: l=>x.toNat+4294967296 * val l
theorem val_cons (x:UInt32) (l:List UInt32):val (x :: l)=x.toNat+4294967296 * val l:=rfl
theorem val_append (l m:List UInt32):val (l++m)=val l+4294967296 ^ l.length * val m:=by
 induction l with
 | nil=>simp [val]
 | cons x l ih =>
  rw [List.cons_append,val_cons,ih,val_cons,List.length_cons,Nat.pow_succ,Nat.mul_add,Nat.mul_comm (4294967296 ^ l.length) 4294967296,Nat.mul_assoc]
  omega
theorem val_lt (l:List UInt32):val l<4294967296 ^ l.length:=by
 induction l with
 | nil=>simp [val]
 | cons x l ih =>
  have hx:x.toNat<4294967296:=x.toNat_lt
  rw [val_cons,List.length_cons,Nat.pow_succ]
  generalize 4294967296 ^ l.length=P at *
  omega
theorem val_zeros (n:Nat):val (List.replicate n 0)=0:=by
 induction n with
 | zero=>rfl
 | succ n ih=>rw [List.replicate_succ,val_cons,ih];rfl
theorem val_entry (l:List UInt32) (i:Nat):(l.getD i 0).toNat=val l / 4294967296 ^ i % 4294967296:=by
 induction l generalizing i with
 | nil=>simp [val]
 | cons x l ih =>
  have hx:x.toNat<4294967296:=x.toNat_lt
  cases i with
  | zero=>rw [val_cons];simp
  | succ i =>
   rw [val_cons,Nat.pow_succ,Nat.mul_comm (4294967296 ^ i),← Nat.div_div_eq_div_mul]
   have:(x.toNat+4294967296 * val l) / 4294967296=val l:=by omega
   rw [this,← ih];rfl
def Canon (l:List UInt32):Prop:=∀ h:l≠[],l.getLast h≠0
theorem canon_nil:Canon []:=fun h=>absurd rfl h
theorem canon_tail {x:UInt32} {l:List UInt32} (h:Canon (x :: l)):Canon l:=fun hl=>by
 have:=h (by simp)
 rwa [List.getLast_cons hl] at this
theorem canon_zero {l:List UInt32} (h:Canon l) (h0:val l=0):l=[]:=by
 induction l with
 | nil=>rfl
 | cons x l ih =>
  rw [val_cons] at h0
  have h1:=ih (canon_tail h) (by omega)
  subst h1
  exfalso
  apply h (by simp)
  have hx:x.toNat=0:=by omega
  exact UInt32.toNat_inj.1 hx
theorem canon_one:∀ (l m:List UInt32),Canon l→Canon m→val l=val m→l=m
 | [],m,_,hm,h=>(canon_zero hm h.symm).symm
 | l,[],hl,_,h=>canon_zero hl h
 | x :: l,y :: m,hl,hm,h=>by
  have hx:x.toNat<4294967296:=x.toNat_lt
  have hy:y.toNat<4294967296:=y.toNat_lt
  rw [val_cons,val_cons] at h
  have h1:x.toNat=y.toNat:=by omega
  rw [UInt32.toNat_inj.1 h1,canon_one l m (canon_tail hl) (canon_tail hm) (by omega)]
def limbsF:Nat→Nat→List UInt32
 | 0,_=>[]
 | f+1,n=>if n=0 then [] else UInt32.ofNat n :: limbsF f (n / 4294967296)
def limbs (n:Nat):List UInt32:=limbsF n n
theorem limbsF_spec (f n:Nat) (h:n≤f):val (limbsF f n)=n∧Canon (limbsF f n):=by
 induction f generalizing n with
 | zero =>
   obtain rfl:n=0:=by omega
   exact ⟨rfl,canon_nil⟩
 | succ f ih =>
  unfold limbsF
  by_cases h0:n=0
  ·rw [if_pos h0];exact ⟨h0.symm,canon_nil⟩
  ·rw [if_neg h0]
   obtain ⟨h1,h2⟩:=ih (n / 4294967296) (by omega)
   have hn:(UInt32.ofNat n).toNat=n % 4294967296:=UInt32.toNat_ofNat'
   refine ⟨by rw [val_cons,h1,hn];omega,fun hne=>?_⟩
   by_cases hl:limbsF f (n / 4294967296)=[]
   ·simp only [hl,List.getLast_singleton]
    rw [hl] at h1
    have h1':n / 4294967296=0:=h1.symm
    intro e
    have:=congrArg UInt32.toNat e
    rw [hn] at this
    have:n % 4294967296=0:=this
    omega
   ·rw [List.getLast_cons hl];exact h2 hl
theorem val_limbs (n:Nat):val (limbs n)=n:=(limbsF_spec n n (Nat.le_refl _)).1
theorem canon_limbs (n:Nat):Canon (limbs n):=(limbsF_spec n n (Nat.le_refl _)).2
theorem limbs_val {l:List UInt32} (h:Canon l):l=limbs (val l):=canon_one _ _ h (canon_limbs _) (val_limbs _).symm
theorem limbs_zero:limbs 0=[]:=rfl
theorem take_limbs (l:List UInt32) (n:Nat) (hn:n≤l.length) (hz:∀ j,n≤j→l.getD j 0=0) (hl:n=0∨l.getD (n - 1) 0≠0):l.take n=limbs (val l):=by
 have hv:val (l.take n)=val l:=by
  have h1:l=l.take n++l.drop n:=(List.take_append_drop n l).symm
  have h2:l.drop n=List.replicate (l.length - n) 0:=by
   apply List.ext_getElem
   ·simp
   ·intro i h3 h4
    rw [List.getElem_drop,List.getElem_replicate]
    have:=hz (n+i) (by omega)
    rw [List.length_drop] at h3
    rw [List.getD,List.getElem?_eq_getElem (by omega)] at this
    exact this
  rw [h2] at h1
  have h3:=congrArg val h1
  rw [val_append,val_zeros] at h3
  omega
 rw [← hv]
 refine limbs_val fun hne=>?_
 rcases hl with rfl | hl
 ·simp at hne
 ·have h0:0<n:=by
   rcases Nat.eq_zero_or_pos n with h | h
   ·subst h;simp at hne
   ·exact h
  rw [List.getLast_eq_getElem,List.getElem_take]
  rw [List.getD,List.getElem?_eq_getElem (by omega)] at hl
  simpa [List.length_take,Nat.min_eq_left hn] using hl
theorem limbs_len (n k:Nat) (h:n<4294967296 ^ k):(limbs n).length≤k:=by
 rcases Nat.lt_or_ge k (limbs n).length with hlt | hge
 ·exfalso
  have hne:limbs n≠[]:=by intro e;rw [e] at hlt;simp at hlt
  have hc:=canon_limbs n hne
  have he:=val_entry (limbs n) ((limbs n).length - 1)
  rw [val_limbs,List.getD,List.getElem?_eq_getElem (by omega)] at he
  have hp:n / 4294967296 ^ ((limbs n).length - 1)=0:=Nat.div_eq_of_lt (Nat.lt_of_lt_of_le h (Nat.pow_le_pow_right (by decide) (by omega)))
  rw [hp] at he
  apply hc
  rw [List.getLast_eq_getElem]
  have he':((limbs n)[(limbs n).length - 1]'(by omega)).toNat=0:=he
  exact UInt32.toNat_inj.1 he'
 ·exact hge
end Go.Proofs.YteclejplbphkpaaGreat
