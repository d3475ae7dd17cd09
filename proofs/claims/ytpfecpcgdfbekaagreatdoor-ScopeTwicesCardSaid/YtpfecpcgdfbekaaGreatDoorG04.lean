/- A region that draws its order, holds calls that make memory, and ends in a store: the walk of Hyb, the store aside. Plain. The contracts of dec's numbers over one another (what is plain of it). The contracts of dec's numbers over one another: less than one, the logarithm of 2, the nearest number (what is plain of it). The contracts of dec: the nearest binary64 to a fraction, to an integer; the number that bits are (what is plain of it). The contract of dec's digits as a number (what is plain of it). The contract of dec.Parse: the document's parse (what is plain of it). The contracts of token's numbers and first words (what is plain of it). The contract of token's first word (what is plain of it). The contracts of token's cursor (what is plain of it). The contract of token.Lex (what is plain of it). The longest number ahead, in the document's steps. Plain lemmas. What the document's lexer sees in a number. Plain lemmas. What is asked of the document's lexer at a text's numbers, and of a text's lexing. -/
import Derived.Test.YtpfecpcgdfbekaaGreatDoorG00
import Derived.Test.YtpfecpcgdfbekaaGreatDoorG03
import Derived.Laws.Rows
import Derived.Test.YtpfecpcgdfbekaaGreatDoorG02
import Derived.Test.YtpfecpcgdfbekaaGreatDoorG01
set_option linter.unusedVariables false
set_option linter.unusedSimpArgs false
set_option linter.unnecessarySimpa false
namespace Go.Proofs.YtpfecpcgdfbekaaGreatDoor
open Go.RowKit
def NoU (cs:Array Value):Prop:=∀ (i:Nat) (x:UInt32),cs[i]?≠some (uv x)
theorem NoU.put {cs:Array Value} (h:NoU cs) (i:Nat) (v:Value) (hv:∀ x,v≠uv x):NoU (cs.setIfInBounds i v):=by
 intro j x hj
 rw [Array.getElem?_setIfInBounds] at hj
 split at hj
 ·split at hj
  ·exact hv x (Option.some.inj hj)
  ·cases hj
 ·exact h j x hj
theorem IsNum.put {w:World} {v:Value} {n:Nat} (hn:IsNum w v n) {B e:Nat} {cs:Array Value} {T:TypeId} (hb:Blk w B e cs T) (hc:NoU cs) (i:Nat) (u:Value):IsNum (w.setCell ⟨e,i,none⟩ u) v n:=by
 obtain ⟨A,c,ys,h1,h2,h3,h4,h5⟩:=hn
 refine ⟨A,c,ys,h1,fun hy=>?_,h3,h4,h5⟩
 obtain ⟨b,off,e1,e2,e3⟩:=h2 hy
 have hne:b≠e:=by
  rintro rfl
  have:=e3 0 hy
  rw [hb.cell] at this
  exact hc _ _ this
 refine ⟨b,off,e1,by simpa [World.setCell] using e2,fun j hj=>?_⟩
 rw [← e3 j hj]
 unfold World.cell?
 rw [Below.heap_setCell _ _ _ _ hne]
namespace E
section
variable {st:Nat} {P:Program} {ops:Array Oper} {md:Region.Mode}
def GA (st:Nat) (P:Program) (md:Region.Mode) (ops:Array Oper) (Q:Act→World→Prop):Nat→Array Bool→Act→World→Prop
 | 0,listed,a,w=>Region.ready md ops listed=[]∧∀ w1,Nx w w1→Q a w1
 | f+1,listed,a,w=>∀ w1,Nx w w1→(Region.ready md ops listed=[]→Q a w1) ∧
   ∀ i ∈ Region.ready md ops listed,gOp P ops i (fun a' w'=>(i=st∨Nx w1 w')∧GA st P md ops Q f (listed.setIfInBounds i true) a' w') a w1
theorem GA.grow {Q:Act→World→Prop} {f:Nat} {listed:Array Bool} {a:Act} {w w1:World} (h:GA st P md ops Q f listed a w) (hn:Nx w w1):GA st P md ops Q f listed a w1:=by
 cases f with
 | zero=>exact ⟨h.1,fun w2 h2=>h.2 w2 (hn.trans h2)⟩
 | succ f=>exact fun w2 h2=>h w2 (hn.trans h2)
theorem wpAny_of_GA {Q:Act→World→Prop} {Q':Exit→Act→World→Prop} (hQ:∀ a w,Q a w→Q' .normal a w):∀ (f:Nat) (listed:Array Bool) (a:Act) (w:World),
  GA st P md ops Q f listed a w→wpAny P md ops Q' f listed a w
 | 0,_,_,w,h=>⟨h.1,hQ _ _ (h.2 w (Nx.refl w))⟩
 | f+1,listed,a,w,h=>by
  refine ⟨fun h0=>hQ _ _ ((h w (Nx.refl w)).1 h0),fun i hi=>?_⟩
  have:=(h w (Nx.refl w)).2 i hi
  unfold gOp at this
  unfold wpOp
  split
  ·rename_i ho;simp only [ho] at this;exact wpAny_of_GA hQ f _ _ _ this.2
  ·rename_i o ho
   simp only [ho] at this
   split
   ·rename_i hw;simp only [hw,if_true] at this;exact .inl (wp_mono_both (fun a' w' h'=>wpAny_of_GA hQ f _ _ _ h'.2) this trivial)
   ·rename_i hw;simp only [hw] at this;exact wpAny_of_GA hQ f _ _ _ this.2
theorem GA_first {Q:Act→World→Prop} {i:Nat} {oi:Oper} {v:Value} (hi:ops[i]? = some oi) (hsel:∀ (j:Nat) (o:Oper) cs b,ops[j]? = some o→o.op≠.select cs b)
  (hst:∀ o,ops[st]? = some o→∃ e ∈ o.after,Region.binds md e=true∧e.on=i) :
  ∀ (f:Nat) (listed:Array Bool) (a:Act) (w:World),
   (∀ j oj,ops[j]? = some oj→j≠i→listed.getD j true=false→(∀ e ∈ oj.after,Region.binds md e=true→e.on≠i)→oi.apart ops oj=true) →
   i ∈ Region.ready md ops listed→YG P ops w oi v a →
   GA st P md ops Q f (listed.setIfInBounds i true) (a.put oi.dst v) w→GA st P md ops Q (f+1) listed a w:=by
 intro f
 induction f with
 | zero =>
  intro listed a w _ hr hy H w1 hn
  refine ⟨fun h=>(by rw [h] at hr;cases hr),fun j hj=>?_⟩
  by_cases hji:j=i
  ·subst hji;exact (hy.grow hn).gOp hi ⟨.inr (Nx.refl _),H.grow hn⟩
  ·have:=ready_mono hj hji
   rw [H.1] at this
   cases this
 | succ f ih =>
  intro listed a w hfree hr hy H w1 hn
  refine ⟨fun h=>(by rw [h] at hr;cases hr),fun j hj=>?_⟩
  by_cases hji:j=i
  ·subst hji;exact (hy.grow hn).gOp hi ⟨.inr (Nx.refl _),H.grow hn⟩
  ·have h1:=(H w1 hn).2 j (ready_mono hj hji)
   obtain ⟨hjun,oj,hoj,hall⟩:=mem_ready.1 hj
   have hnot:∀ e ∈ oj.after,Region.binds md e=true→e.on≠i:=fun e he hb heq=>by
    have h1:=hall e he hb
    have h0:=(mem_ready.1 hr).1
    rw [heq] at h1
    rcases Nat.lt_or_ge i listed.size with h' | h'
    ·simp [h'] at h0 h1;rw [h0] at h1;cases h1
    ·simp [Array.getElem?_eq_none h'] at h1
   have h2:=gOp_put hoj (hfree j oj hoj hji hjun hnot) (fun cs b=>hsel i oi cs b hi) (fun cs b=>hsel j oj cs b hoj) (hy.grow hn) h1
   have hfree':∀ k ok,ops[k]? = some ok→k≠i→(listed.setIfInBounds j true).getD k true=false →
     (∀ e ∈ ok.after,Region.binds md e=true→e.on≠i)→oi.apart ops ok=true:=fun k ok hk hki hun hno=>by
    refine hfree k ok hk hki ?_ hno
    by_cases hjk:j=k
    ·subst hjk;exact hjun
    ·rw [getD_set_ne true hjk] at hun;exact hun
   have hjst:j≠st:=by
    rintro rfl
    obtain ⟨e,he,hb,heq⟩:=hst oj hoj
    exact hnot e he hb heq
   refine gOp_mono (fun a' w' h3=>have hN:=h3.2.1.resolve_left hjst;⟨.inr hN,ih (listed.setIfInBounds j true) a' w' hfree' (ready_mono hr (Ne.symm hji)) (h3.1.grow hN) ?_⟩) h2
   rw [Array.setIfInBounds_comm _ _ hji]
   exact h3.2.2
def wpHyb (st:Nat) (P:Program) (ops:Array Oper) (Q:Act→World→Prop):List (Nat×Bool)→Act→World→Prop
 | [],a,w=>∀ w1,Nx w w1→Q a w1
 | (k,true) :: rest,a,w=>match ops[k]? with
  | none=>False
  | some o=>if Region.wanted o (yielded ops a.tmps) then calm P o a w (fun a'=>wpHyb st P ops Q rest a' w) else wpHyb st P ops Q rest (a.put o.dst undef) w
 | (k,false) :: rest,a,w=>∀ w1,Nx w w1→match ops[k]? with
  | none=>False
  | some o=>if Region.wanted o (yielded ops a.tmps) then o.wp P a w1 (fun a' w'=>(k=st∨Nx w1 w')∧wpHyb st P ops Q rest a' w') (fun _ _ _=>False) else wpHyb st P ops Q rest (a.put o.dst undef) w1
def edge (st:Nat) (md:Region.Mode) (ops:Array Oper) (k:Nat):Bool:=match ops[st]? with
 | some o=>o.after.any (fun e=>Region.binds md e && e.on == k)
 | none=>true
theorem edge_spec {st k:Nat} (h:edge st md ops k=true):∀ o,ops[st]? = some o→∃ e ∈ o.after,Region.binds md e=true∧e.on=k:=by
 intro o ho
 unfold edge at h
 rw [ho] at h
 obtain ⟨e,he,hb⟩:=Array.any_eq_true'.1 h
 simp only [Bool.and_eq_true,beq_iff_eq] at hb
 exact ⟨e,he,hb.1,hb.2⟩
def hybFrom (st:Nat) (md:Region.Mode) (ops:Array Oper):List (Nat×Bool)→Array Bool→Bool
 | [],listed=>(Region.ready md ops listed).isEmpty
 | (k,true) :: rest,listed=>(Region.ready md ops listed).contains k && Region.free md ops listed k && edge st md ops k && hybFrom st md ops rest (listed.setIfInBounds k true)
 | (k,false) :: rest,listed=>Region.ready md ops listed == [k] && hybFrom st md ops rest (listed.setIfInBounds k true)
def hybB (st:Nat) (md:Region.Mode) (ops:Array Oper) (s:List (Nat×Bool)):Bool:=Region.noSelect ops && s.length == ops.size && hybFrom st md ops s (Array.replicate ops.size false)
theorem GA_hyb {Q:Act→World→Prop} (hs:Region.noSelect ops=true):∀ (s:List (Nat×Bool)) (listed:Array Bool) (a:Act) (w:World),
  hybFrom st md ops s listed=true→wpHyb st P ops Q s a w→GA st P md ops Q s.length listed a w
 | [],listed,a,w,hB,h=>⟨by simpa [hybFrom] using hB,h⟩
 | (k,true) :: rest,listed,a,w,hB,h=>by
  simp only [hybFrom,Bool.and_eq_true] at hB
  obtain ⟨⟨⟨hr,hf⟩,hed⟩,hB'⟩:=hB
  have hr':k ∈ Region.ready md ops listed:=by simpa using hr
  obtain ⟨_,o,ho,_⟩:=mem_ready.1 hr'
  simp only [wpHyb,ho] at h
  by_cases hw:Region.wanted o (yielded ops a.tmps)=true
  ·simp only [hw,if_true] at h
   obtain ⟨v,h1,h2⟩:=h
   exact GA_first ho (Region.noSelect_spec hs) (edge_spec hed) rest.length listed a w (Region.free_spec ho hf) hr' (.inl ⟨hw,h1⟩) (GA_hyb hs rest _ _ _ hB' h2)
  ·simp only [hw] at h
   exact GA_first ho (Region.noSelect_spec hs) (edge_spec hed) rest.length listed a w (Region.free_spec ho hf) hr' (.inr ⟨by simpa using hw,rfl⟩) (GA_hyb hs rest _ _ _ hB' h)
 | (k,false) :: rest,listed,a,w,hB,h=>by
  simp only [hybFrom,Bool.and_eq_true,beq_iff_eq] at hB
  obtain ⟨hr,hB'⟩:=hB
  intro w1 hn
  refine ⟨fun h0=>(by rw [hr] at h0;cases h0),fun i hi=>?_⟩
  rw [hr] at hi
  obtain rfl:i=k:=by simpa using hi
  have h:=h w1 hn
  unfold gOp
  cases ho:ops[i]? with
  | none=>rw [ho] at h;exact h.elim
  | some o =>
   rw [ho] at h
   simp only at h ⊢
   by_cases hw:Region.wanted o (yielded ops a.tmps)=true
   ·simp only [hw,if_true] at h ⊢
    exact wp_mono_both (fun a' w' h'=>⟨h'.1,GA_hyb hs rest _ _ _ hB' h'.2⟩) h trivial
   ·simp only [hw] at h ⊢
    exact ⟨.inr (Nx.refl _),GA_hyb hs rest _ _ _ hB' h⟩
structure Hyb (st:Nat) (P:Program) (ops:Array Oper) (Q:Act→World→Prop) (s:List (Nat×Bool)) (a:Act) (w:World):Prop where
 out:wpHyb st P ops Q s a w
theorem wp_region_hyb {id:Nat} {Q:Exit→Act→World→Prop} {a:Act} {w:World} {l:List Oper} (s:List (Nat×Bool)) (hm:P.follows .mixedOrders=true) (hB:hybB st .any l.toArray s=true)
  (h:Hyb st P l.toArray (fun a w=>Q .normal a w) s a w):(Code.region id l.toArray true).wp P Q a w:=by
 simp only [hybB,Bool.and_eq_true,beq_iff_eq] at hB
 obtain ⟨⟨h1,h2⟩,h3⟩:=hB
 refine wp_region_any hm (wpAny_of_GA (st:=st) (Q:=fun a w=>Q .normal a w) (fun _ _ h=>h) _ _ _ _ ?_)
 have:=GA_hyb (st:=st) (md:=.any) h1 s _ _ _ h3 h.out
 rw [h2] at this
 exact this.grow (Nx.drawn w)
theorem hyb_calm {Q:Act→World→Prop} {k:Nat} {o:Oper} {rest:List (Nat×Bool)} {a:Act} {w:World} (ho:ops[k]? = some o)
  (h:∀ K:Act→Prop,(∀ a,Hyb st P ops Q rest a w→K a)→if Region.wanted o (yielded ops a.tmps) then calm P o a w K else K (a.put o.dst undef)):Hyb st P ops Q ((k,true) :: rest) a w:=by
 refine ⟨?_⟩
 simp only [wpHyb,ho]
 exact h _ (fun _ h=>h.out)
theorem hyb_alone {Q:Act→World→Prop} {k:Nat} {o:Oper} {rest:List (Nat×Bool)} {a:Act} {w:World} (ho:ops[k]? = some o)
  (h:∀ w1,Nx w w1→∀ K:Act→World→Prop,(∀ a' w',(k=st∨Nx w1 w')→Hyb st P ops Q rest a' w'→K a' w')→if Region.wanted o (yielded ops a.tmps) then o.wp P a w1 K (fun _ _ _=>False) else K (a.put o.dst undef) w1):Hyb st P ops Q ((k,false) :: rest) a w:=by
 refine ⟨?_⟩
 intro w1 hn
 simp only [ho]
 have:=h w1 hn (fun a' w'=>(k=st∨Nx w1 w')∧wpHyb st P ops Q rest a' w') (fun a' w' h1 h2=>⟨h1,h2.out⟩)
 split
 ·rename_i hw;simpa [hw] using this
 ·rename_i hw;simp [hw] at this;exact this.2
theorem hyb_nil {Q:Act→World→Prop} {a:Act} {w:World} (h:∀ w1,Nx w w1→Q a w1):Hyb st P ops Q [] a w:=⟨h⟩
end
end E
end Go.Proofs.YtpfecpcgdfbekaaGreatDoor
namespace Go.Proofs.YtpfecpcgdfbekaaGreatDoor
open Go.RowKit
def KB:Nat:=4800
theorem pow_KB (j:Nat) (hj:j≤150000):2 ^ j≤4294967296 ^ KB:=by
 have hk:KB=4800:=rfl
 generalize KB=K at *
 rw [show (4294967296:Nat)=2 ^ 32 from rfl,← Nat.pow_mul]
 exact Nat.pow_le_pow_right (by decide) (by omega)
theorem IsNum.few {w:World} {v:Value} {n j:Nat} (h:IsNum w v n) (hn:n<2 ^ j) (hj:j≤150000):Num w v n KB :=
 h.num (Nat.lt_of_lt_of_le hn (pow_KB j hj))
theorem IsNum.sl {w:World} {v:Value} {n:Nat} (h:IsNum w v n):∃ A l c,v = .slice A l c:=by
 obtain ⟨A,c,ys,h1,_⟩:=h
 exact ⟨A,_,c,h1⟩
def Ra (w:World) (r:Value) (x y j:Nat):Prop:=∃ v u,r = .agg #[v,u]∧IsNum w v x∧IsNum w u y∧x<2 ^ j∧y<2 ^ j
theorem Ra.below {w w':World} {r:Value} {x y j:Nat} (h:Ra w r x y j) (hb:Below w.heap.size w w'):Ra w' r x y j:=by
 obtain ⟨v,u,h1,h2,h3,h4,h5⟩:=h
 exact ⟨v,u,h1,h2.below hb,h3.below hb,h4,h5⟩
end Go.Proofs.YtpfecpcgdfbekaaGreatDoor
namespace Go.Proofs.YtpfecpcgdfbekaaGreatDoor
open Go.RowKit
end Go.Proofs.YtpfecpcgdfbekaaGreatDoor
namespace Go.Proofs.YtpfecpcgdfbekaaGreatDoor
open Go.RowKit
end Go.Proofs.YtpfecpcgdfbekaaGreatDoor
namespace Go.Proofs.YtpfecpcgdfbekaaGreatDoor
open Go.RowKit
end Go.Proofs.YtpfecpcgdfbekaaGreatDoor
namespace Go.Proofs.YtpfecpcgdfbekaaGreatDoor
open Go.RowKit
end Go.Proofs.YtpfecpcgdfbekaaGreatDoor
namespace Go.Proofs.YtpfecpcgdfbekaaGreatDoor
open Go.RowKit
theorem hexN_le (l:List UInt8):hexN l≤l.length∧(hexN l≠0→3≤hexN l)∧(∀ c ∈ (l.take (hexN l)).drop 2,isHexS c=true):=by
 cases l with
 | nil=>exact ⟨Nat.le_refl _,fun h=>absurd rfl h,fun c h=>by simp [hexN] at h⟩
 | cons c r=>cases r with
  | nil=>exact ⟨Nat.zero_le _,fun h=>absurd rfl h,fun c h=>by simp [hexN] at h⟩
  | cons d r =>
   unfold hexN
   dsimp only
   split
   ·rename_i h
    have:=spanN_le isHexS r
    refine ⟨by simp;omega,fun _=>by omega,fun e he=>?_⟩
    rw [Nat.add_comm,List.take_succ_cons,List.take_succ_cons] at he
    exact spanN_take isHexS r e he
   ·exact ⟨Nat.zero_le _,fun h=>absurd rfl h,fun c h=>by simp at h⟩
theorem decN_le (l:List UInt8):decN l≤l.length:=by
 unfold decN
 dsimp only
 have h1:=(sgnN_le l).1
 have h2:=digN_le (l.drop (sgnN l))
 have h3:=fracN_le (l.drop (sgnN l+digN (l.drop (sgnN l))))
 split
 ·omega
 ·have h4:=expN_le (l.drop (sgnN l+(digN (l.drop (sgnN l))+fracN (l.drop (sgnN l+digN (l.drop (sgnN l)))))))
  simp at h2 h3 h4
  omega
end Go.Proofs.YtpfecpcgdfbekaaGreatDoor
namespace Go.Proofs.YtpfecpcgdfbekaaGreatDoor
open Go.RowKit
end Go.Proofs.YtpfecpcgdfbekaaGreatDoor
namespace Go.Proofs.YtpfecpcgdfbekaaGreatDoor
open Go.RowKit
theorem nameS_len (l:List UInt8):(nameS l).2.2≤l.length:=by
 have:=spanN_le isNmS l
 unfold nameS
 split
 ·exact Nat.zero_le _
 ·split
  ·exact Nat.zero_le _
  ·exact this
theorem numberS_len (l:List UInt8):(numberS l).2.2≤l.length:=by
 have h1:=(hexN_le l).1
 have h2:=decN_le l
 unfold numberS
 split
 ·exact h1
 ·split
  ·exact Nat.zero_le _
  ·split <;> exact h2
theorem quotedS_len (q:UInt8) (r:List UInt8):(quotedS q r).2.2≤r.length+1:=by
 have h1:=spanN_le (fun c=>decide (c≠q)) r
 have h2:quoteN q r≤r.length:=h1
 unfold quotedS
 split
 ·exact Nat.zero_le _
 ·rename_i h
  dsimp only
  omega
theorem first_len (l:List UInt8):(firstS l).2.2≤l.length:=by
 cases l with
 | nil=>exact Nat.le_refl _
 | cons c r =>
  rw [show firstS (c :: r)=if isLetS c || decide (c.toNat=95) then nameS (c :: r)
   else if isDig c || decide (c.toNat=43) || decide (c.toNat=45) || decide (c.toNat=46) then numberS (c :: r)
   else if c.toNat=34∨c.toNat=39 then quotedS c r
   else if signsL.contains c then (0,⟨5,[c],0,0,0⟩,1) else (2,tok0,0) from rfl]
  split
  ·exact nameS_len _
  ·split
   ·exact numberS_len _
   ·split
    ·have:=quotedS_len c r;simp;omega
    ·split
     ·simp
     ·exact Nat.zero_le _
end Go.Proofs.YtpfecpcgdfbekaaGreatDoor
namespace Go.Proofs.YtpfecpcgdfbekaaGreatDoor
open Go.RowKit
theorem first_pos (l:List UInt8) (h:(firstS l).1=0) (h6:(firstS l).2.1.k≠6):1≤(firstS l).2.2:=by
 cases l with
 | nil=>exact absurd rfl h6
 | cons c r =>
  have e:firstS (c :: r)=if isLetS c || decide (c.toNat=95) then nameS (c :: r)
   else if isDig c || decide (c.toNat=43) || decide (c.toNat=45) || decide (c.toNat=46) then numberS (c :: r)
   else if c.toNat=34∨c.toNat=39 then quotedS c r
   else if signsL.contains c then (0,⟨5,[c],0,0,0⟩,1) else (2,tok0,0):=rfl
  rw [e] at h ⊢
  split at h
  ·rename_i h1
   rw [if_pos h1]
   have h2:1≤spanN isNmS (c :: r):=by
    unfold spanN
    rw [if_pos]
    ·omega
    ·unfold isNmS
     simp at h1 ⊢
     rcases h1 with h1 | h1
     ·simp [h1]
     ·simp [h1]
   unfold nameS at h ⊢
   split at h
   ·cases h
   ·rename_i h3
    rw [if_neg h3]
    split at h
    ·cases h
    ·rename_i h4
     rw [if_neg h4]
     exact h2
  ·rename_i h1
   rw [if_neg h1]
   split at h
   ·rename_i h2
    rw [if_pos h2]
    have h3:=(hexN_le (c :: r)).2.1
    unfold numberS at h ⊢
    split at h
    ·rename_i h4
     rw [if_pos h4]
     have:=h3 h4
     dsimp only
     omega
    ·rename_i h4
     rw [if_neg h4]
     split at h
     ·cases h
     ·rename_i h5
      rw [if_neg h5]
      split
      ·dsimp only;omega
      ·dsimp only;omega
   ·rename_i h2
    rw [if_neg h2]
    split at h
    ·rename_i h3
     rw [if_pos h3]
     unfold quotedS at h ⊢
     split at h
     ·cases h
     ·rename_i h4
      rw [if_neg h4]
      dsimp only;omega
    ·rename_i h3
     rw [if_neg h3]
     split at h
     ·rename_i h4
      rw [if_pos h4]
      exact Nat.le_refl _
     ·cases h
theorem word_ok (l:List UInt8) (h:(wordS l).1=0):wordS l=(0,0,(firstS l).2.1,(firstS l).2.2)∧(firstS l).1=0:=by
 unfold wordS at h ⊢
 split at h
 ·rename_i h1;exact absurd h h1
 ·rename_i h1
  rw [if_neg h1]
  split at h
  ·cases h
  ·rename_i h2
   rw [if_neg h2]
   exact ⟨rfl,by simpa using h1⟩
theorem next_len (o:Nat) (l:List UInt8) (h:(nextS o l).1=0):(nextS o l).2.2.2≤l.length∧((nextS o l).2.2.1.k≠6→1≤(nextS o l).2.2.2)∧(nextS o l).2.1=0:=by
 have hs:=skipS_le l
 unfold nextS at h ⊢
 split at h
 ·cases h
 ·rename_i h1
  rw [if_neg h1]
  split at h
  ·rename_i h2;exact absurd h h2
  ·rename_i h2
   rw [if_neg h2]
   have hw:=word_ok (l.drop (skipS l).1) (by simpa using h2)
   have hl:=first_len (l.drop (skipS l).1)
   rw [hw.1]
   dsimp only
   refine ⟨by simp at hl;omega,fun h6=>?_,rfl⟩
   have:=first_pos _ hw.2 h6
   omega
def cat (acc:List TokV) (r:List TokV×Nat×Nat):List TokV×Nat×Nat:=if r.2.1≠0 then r else (acc++r.1,0,0)
theorem cat_nil (r:List TokV×Nat×Nat) (h:r.2.1=0→r.2.2=0):cat [] r=r:=by
 unfold cat
 split
 ·rfl
 ·rename_i h1
  obtain ⟨a,b,c⟩:=r
  have hb:b=0:=by simpa using h1
  subst hb
  have:=h rfl
  dsimp only at this
  subst this
  rfl
theorem lexF_zero (f o:Nat) (l:List UInt8):(lexF f o l).2.1=0→(lexF f o l).2.2=0:=by
 induction f generalizing o l with
 | zero=>intro _;rfl
 | succ f ih =>
  unfold lexF
  split
  ·rename_i h;intro h2;exact absurd h2 h
  ·split
   ·intro _;rfl
   ·split
    ·intro h2;rename_i h3;exact absurd h2 h3
    ·intro _;rfl
theorem lexF_err (f o:Nat) (l:List UInt8) (h:(nextS o l).1≠0):lexF (f+1) o l=([],(nextS o l).1,(nextS o l).2.1):=by
 conv=>lhs;unfold lexF
 rw [if_pos h]
theorem lexF_end (f o:Nat) (l:List UInt8) (h:(nextS o l).1=0) (h6:(nextS o l).2.2.1.k=6):lexF (f+1) o l=([(nextS o l).2.2.1],0,0):=by
 conv=>lhs;unfold lexF
 rw [if_neg (by simpa using h),if_pos h6]
theorem lexF_more (f o:Nat) (l:List UInt8) (h:(nextS o l).1=0) (h6:(nextS o l).2.2.1.k≠6) (acc:List TokV) :
  cat acc (lexF (f+1) o l)=cat (acc++[(nextS o l).2.2.1]) (lexF f (o+(nextS o l).2.2.2) (l.drop (nextS o l).2.2.2)):=by
 conv=>lhs;unfold lexF
 rw [if_neg (by simpa using h),if_neg h6]
 generalize lexF f (o+(nextS o l).2.2.2) (l.drop (nextS o l).2.2.2)=r
 unfold cat
 by_cases h0:r.2.1≠0
 ·simp [h0]
 ·rw [if_neg h0,if_neg h0]
  simp
theorem cell_newT {w:World} {cs:Array Value} {T:TypeId} {g j:Nat} (hg:g=w.heap.size):(w.alloc (.cells cs T)).cell? ⟨g,j,none⟩=cs[j]?:=by
 subst hg;exact (Blk.new w cs T).cell j
theorem own_ne {w:World} {B:Nat} {v:Value} {xs:List TokV} (h:OwnT w B v xs):v.ownBlock≠some w.heap.size:=fun e=>by
 have:=World.ownsRow.lt h _ e
 omega
theorem Oth.bel {b B:Nat} {x y z:World} (h:Oth b x y) (hz:x.heap.size≤B) (hb:Below B y z):Oth b x z :=
 ⟨hb.os.trans h.os,hb.tape.trans h.tape,hb.output.trans h.output,Nat.le_trans h.size hb.size,fun k hk hkb=>(hb.block k (Nat.lt_of_lt_of_le hk hz)).trans (h.block k hk hkb)⟩
theorem Blk.bel {w w':World} {C B g:Nat} {cs:Array Value} {T:TypeId} (h:Blk w B g cs T) (hb:Below C w w') (hg:g<C):Blk w' B g cs T:=⟨h.1,by rw [hb.block g hg];exact h.2⟩
end Go.Proofs.YtpfecpcgdfbekaaGreatDoor
namespace Go.Proofs.YtpfecpcgdfbekaaGreatDoor
open Go.RowKit
theorem sgnN_take (l:List UInt8) (n:Nat) (h:1≤n):sgnN (l.take n)=sgnN l:=by
 cases l with
 | nil=>simp
 | cons c r=>cases n with
  | zero=>omega
  | succ n=>rfl
theorem digN_cut (l:List UInt8) (n:Nat):digN (l.take n)=min (digN l) n:=spanN_cut isDig l n
structure Parts (l:List UInt8) (S D F X:Nat):Prop where
 s:sgnN l=S
 d:digN (l.drop S)=D
 f:fracN (l.drop (S+D))=F
 x:expN (l.drop (S+(D+F)))=X
 pos:D+F≠0
theorem Parts.len {l:List UInt8} {S D F X:Nat} (h:Parts l S D F X):decN l=S+(D+F)+X∧S+(D+F)+X≤l.length:=by
 have e:decN l=S+(D+F)+X:=by
  unfold decN
  dsimp only
  rw [h.s,h.d,h.f,if_neg h.pos,h.x]
 refine ⟨e,?_⟩
 rw [← e];exact decN_le l
theorem parts_of (l:List UInt8) (h:decN l≠0):∃ S D F X,Parts l S D F X:=by
 refine ⟨_,_,_,_,rfl,rfl,rfl,rfl,fun h0=>h ?_⟩
 unfold decN
 dsimp only
 rw [if_pos h0]
theorem Parts.whole {l:List UInt8} {S D F X:Nat} (h:Parts l S D F X):wholeB (l.take (decN l))=(decide (F=0) && decide (X=0)):=by
 obtain ⟨e,hl⟩:=h.len
 have hp:=h.pos
 have hD:=h.d
 unfold wholeB
 rw [e,sgnN_take l _ (by omega),h.s,List.drop_take,digN_cut,hD,List.length_take,Bool.eq_iff_iff]
 simp
 omega
def numW (l:List UInt8):Nat×Nat×TokV×Nat :=
 if (numberS l).1≠0 then ((numberS l).1,0,tok0,0) else if gosR (l.drop (numberS l).2.2) then (2,(numberS l).2.2,tok0,0) else (0,0,(numberS l).2.1,(numberS l).2.2)
theorem numW_dec (l:List UInt8) (h:hexN l=0) (hd:decN l≠0):numW l =
    (if (if wholeB (l.take (decN l)) then (wholeS (l.take (decN l))).2 else (parseS (l.take (decN l))).2)≠0 then ((if wholeB (l.take (decN l)) then (wholeS (l.take (decN l))).2 else (parseS (l.take (decN l))).2),0,tok0,0)
     else if gosR (l.drop (decN l)) then (2,decN l,tok0,0) else (0,0,(if wholeB (l.take (decN l)) then ⟨2,[],(wholeS (l.take (decN l))).1,0,0⟩ else ⟨3,[],0,(parseS (l.take (decN l))).1,0⟩),decN l)):=by
  have e:numberS l=if wholeB (l.take (decN l)) then ((wholeS (l.take (decN l))).2,⟨2,[],(wholeS (l.take (decN l))).1,0,0⟩,decN l)
      else ((parseS (l.take (decN l))).2,⟨3,[],0,(parseS (l.take (decN l))).1,0⟩,decN l):=by
    unfold numberS
    rw [if_neg (show ¬ hexN l≠0 by simpa using h),if_neg hd]
  unfold numW
  rw [e]
  cases wholeB (l.take (decN l)) <;> rfl
theorem expN_parts (c:UInt8) (r:List UInt8):expN (c :: r)=if (c.toNat=101∨c.toNat=69)∧hasD (r.drop (sgnN r))=true then 1+sgnN r+digN (r.drop (sgnN r)) else 0:=by
 unfold expN
 dsimp only
 rw [hasD_iff]
 simp
theorem fracN_parts (c:UInt8) (r:List UInt8):fracN (c :: r)=if c.toNat=46∧hasD r=true then 1+digN r else 0:=by
 unfold fracN
 dsimp only
 rw [hasD_iff]
 simp [Nat.add_comm]
end Go.Proofs.YtpfecpcgdfbekaaGreatDoor
namespace Go.Proofs.YtpfecpcgdfbekaaGreatDoor
open Go.RowKit
theorem hex_starts (l:List UInt8):(hexN l≠0)↔((l.head? = some 48∧(l.drop 1).head? = some 120)∧∃ c t,l.drop 2=c :: t∧isHexS c=true):=by
 match l with
 | []=>simp [hexN]
 | [x]=>simp [hexN]
 | [x,y]=>simp [hexN,spanN]
 | x :: y :: c :: t =>
  unfold hexN
  dsimp only
  have hs:spanN isHexS (c :: t)≠0↔isHexS c=true:=by
   unfold spanN
   cases isHexS c <;> simp
  by_cases h:x=48∧y=120∧spanN isHexS (c :: t)≠0
  ·rw [if_pos h]
   obtain ⟨rfl,rfl,h3⟩:=h
   simp [hs.1 h3]
  ·rw [if_neg h]
   simp only [ne_eq,not_true_eq_false,false_iff]
   rintro ⟨⟨h1,h2⟩,c',t',h3,h4⟩
   simp at h1 h2 h3
   obtain ⟨rfl,rfl⟩:=h3
   exact h ⟨h1,h2,hs.2 h4⟩
theorem sign_case (c:UInt8) (r:List UInt8):(c.toNat=43∧sgnN (c :: r)=1)∨(c.toNat≠43∧c.toNat=45∧sgnN (c :: r)=1)∨(c.toNat≠43∧c.toNat≠45∧sgnN (c :: r)=0):=by
 unfold sgnN
 by_cases h1:c.toNat=43
 ·exact .inl ⟨h1,by simp [h1]⟩
 ·by_cases h2:c.toNat=45
  ·exact .inr (.inl ⟨h1,h2,by simp [h2]⟩)
  ·exact .inr (.inr ⟨h1,h2,by simp [h1,h2]⟩)
theorem hex_case (s:ByteArray) (l:List UInt8) (o:Nat) (hl:Tx s l) (ho:(o:Int)≤7000) :
    (decide ((l.drop o).head? = some 48∧((l.drop o).drop 1).head? = some 120)=false∧decide (hexN (l.drop o)≠0)=false) ∨
    (decide ((l.drop o).head? = some 48∧((l.drop o).drop 1).head? = some 120)=true ∧
      ((decide ((o:Int)+2<(l.length:Int))=false∧¬ o+2<l.length∧decide (hexN (l.drop o)≠0)=false) ∨
       (∃ (c:UInt8) (K:Nat) (hp:K<s.size),o+2=K∧decide ((o:Int)+2<(l.length:Int))=true∧o+2<l.length∧(o:Int)+2=(K:Int)∧(K:Int)<(s.size:Int)∧IntKind.i64.wrap (K:Int)=(K:Int)∧K<l.length∧s[K]'hp=c∧decide (hexN (l.drop o)≠0)=isHexS c))):=by
  have hx:=hex_starts (l.drop o)
  by_cases h:(l.drop o).head? = some 48∧((l.drop o).drop 1).head? = some 120
  · right
    refine ⟨decide_eq_true h,?_⟩
    by_cases h2:o+2<l.length
    · right
      have hd:=List.drop_eq_getElem_cons h2
      have hdd:(l.drop o).drop 2=l[o+2] :: l.drop (o+2+1):=by rw [List.drop_drop];exact hd
      obtain ⟨h1,hp,e⟩:=hl.byte (o+2) l[o+2] _ hd
      have hz:s.size=l.length:=hl.size
      refine ⟨l[o+2],o+2,hp,rfl,decide_eq_true (by omega),h2,by omega,by omega,?_,h2,e,?_⟩
      · rw [IntKind.wrap_i64];omega
      · rw [Bool.eq_iff_iff,decide_eq_true_iff,hx]
        constructor
        · rintro ⟨-,c,t,h3,h4⟩
          rw [hdd] at h3
          injection h3 with h3 _
          rw [h3];exact h4
        · intro h4
          exact ⟨h,_,_,hdd,h4⟩
    · left
      refine ⟨decide_eq_false (by omega),h2,?_⟩
      rw [decide_eq_false_iff_not,hx]
      rintro ⟨-,c,t,h3,-⟩
      rw [List.drop_drop,List.drop_eq_nil_iff.2 (by omega)] at h3
      cases h3
  · left
    refine ⟨decide_eq_false h,?_⟩
    rw [decide_eq_false_iff_not,hx]
    exact fun h'=>h h'.1
theorem frac_case (s:ByteArray) (l:List UInt8) (A:Nat) (hl:Tx s l) (hA:A≤l.length) :
  (decide ((A:Int)<(l.length:Int))=false∧¬ A<l.length∧fracN (l.drop A)=0) ∨
  (∃ (c:UInt8) (hp:A<s.size),decide ((A:Int)<(l.length:Int))=true∧A<l.length∧(A:Int)<(s.size:Int)∧s[A]'hp=c ∧
   ((((c.toNat:Int) == 46)=false∧fracN (l.drop A)=0)∨(((c.toNat:Int) == 46)=true∧((hasD (l.drop (A+1))=false∧fracN (l.drop A)=0)∨(hasD (l.drop (A+1))=true∧fracN (l.drop A)=1+digN (l.drop (A+1))))))):=by
 have hz:s.size=l.length:=hl.size
 by_cases h:A<l.length
 ·right
  have hd:=List.drop_eq_getElem_cons h
  obtain ⟨h1,hp,e⟩:=hl.byte A l[A] _ hd
  refine ⟨l[A],hp,decide_eq_true (by omega),h,by omega,e,?_⟩
  rw [hd,fracN_parts]
  by_cases h46:l[A].toNat=46
  ·right
   refine ⟨by rw [beq_iff_eq];omega,?_⟩
   cases hh:hasD (l.drop (A+1))
   ·exact .inl ⟨rfl,by rw [if_neg (by simp)]⟩
   ·exact .inr ⟨rfl,by rw [if_pos ⟨h46,rfl⟩]⟩
  ·left
   exact ⟨by rw [beq_eq_false_iff_ne];omega,by rw [if_neg (fun h=>h46 h.1)]⟩
 ·left
  refine ⟨decide_eq_false (by omega),h,?_⟩
  rw [List.drop_eq_nil_iff.2 (by omega)];rfl
def isE:List UInt8→Bool
 | []=>false
 | c :: _=>decide (c.toNat=101) || decide (c.toNat=69)
theorem expN_isE (l:List UInt8) (A:Nat):(isE (l.drop A)=false→expN (l.drop A)=0) ∧
  (isE (l.drop A)=true→A<l.length∧expN (l.drop A)=if hasD ((l.drop (A+1)).drop (sgnN (l.drop (A+1))))=true then 1+sgnN (l.drop (A+1))+digN ((l.drop (A+1)).drop (sgnN (l.drop (A+1)))) else 0):=by
 by_cases h:A<l.length
 ·rw [List.drop_eq_getElem_cons h,expN_parts]
  unfold isE
  dsimp only
  constructor
  ·intro h1
   rw [if_neg]
   simp at h1
   rintro ⟨h2 | h2,-⟩
   ·exact h1.1 h2
   ·exact h1.2 h2
  ·intro h1
   refine ⟨h,?_⟩
   simp at h1
   cases hasD ((l.drop (A+1)).drop (sgnN (l.drop (A+1)))) <;> simp [h1]
 ·rw [List.drop_eq_nil_iff.2 (by omega)]
  exact ⟨fun _=>rfl,fun h=>by cases h⟩
theorem exp_case (s:ByteArray) (l:List UInt8) (A:Nat) (hl:Tx s l) (hA:A≤l.length) :
  (decide ((A:Int)<(l.length:Int))=false∧¬ A<l.length∧isE (l.drop A)=false) ∨
  (∃ (c:UInt8) (hp:A<s.size),decide ((A:Int)<(l.length:Int))=true∧A<l.length∧(A:Int)<(s.size:Int)∧s[A]'hp=c ∧
   ((((c.toNat:Int) == 101)=false∧((c.toNat:Int) == 69)=false∧isE (l.drop A)=false)∨(((c.toNat:Int) == 101)=true∧isE (l.drop A)=true)∨(((c.toNat:Int) == 101)=false∧((c.toNat:Int) == 69)=true∧isE (l.drop A)=true))):=by
 have hz:s.size=l.length:=hl.size
 by_cases h:A<l.length
 ·right
  have hd:=List.drop_eq_getElem_cons h
  obtain ⟨h1,hp,e⟩:=hl.byte A l[A] _ hd
  refine ⟨l[A],hp,decide_eq_true (by omega),h,by omega,e,?_⟩
  rw [hd]
  unfold isE
  dsimp only
  by_cases h1:l[A].toNat=101
  ·right;left
   exact ⟨by rw [beq_iff_eq];omega,by simp [h1]⟩
  ·by_cases h2:l[A].toNat=69
   ·right;right
    exact ⟨by rw [beq_eq_false_iff_ne];omega,by rw [beq_iff_eq];omega,by simp [h2]⟩
   ·left
    exact ⟨by rw [beq_eq_false_iff_ne];omega,by rw [beq_eq_false_iff_ne];omega,by simp [h1,h2]⟩
 ·left
  refine ⟨decide_eq_false (by omega),h,?_⟩
  rw [List.drop_eq_nil_iff.2 (by omega)];rfl
theorem numW_fin {W:Nat×Nat×TokV×Nat} {E0 K A o:Nat} {V0:TokV} {G:Bool} (hW:W=if E0≠0 then (E0,0,tok0,0) else if G then (2,K,tok0,0) else (0,0,V0,K)) (hA:A=o+K) :
  (if E0≠0 then E0 else if G then 2 else 0)=W.1∧(if E0≠0 then o else if G then A else 0)=(if W.1=0 then 0 else o+W.2.1)∧(W.1=0→E0=0∧W.2.2.1=V0∧W.2.2.2=K):=by
 subst hW
 subst hA
 by_cases h:E0=0
 ·subst h
  cases G
  ·exact ⟨rfl,rfl,fun _=>⟨rfl,rfl,rfl⟩⟩
  ·exact ⟨rfl,rfl,fun h=>by cases h⟩
 ·rw [if_pos h,if_pos h,if_pos h]
  refine ⟨rfl,?_,fun h'=>absurd h' h⟩
  dsimp only
  rw [if_neg h,Nat.add_zero]
def decE (T:List UInt8):Nat:=if wholeB T then (wholeS T).2 else (parseS T).2
def decV (T:List UInt8):TokV:=if wholeB T then ⟨2,[],(wholeS T).1,0,0⟩ else ⟨3,[],0,(parseS T).1,0⟩
theorem numW_tens (l:List UInt8) (h:hexN l=0) (hd:decN l≠0) (K:Nat) (hK:decN l=K) (T:List UInt8) (hT:l.take K=T) :
  numW l=if decE T≠0 then (decE T,0,tok0,0) else if gosR (l.drop K) then (2,K,tok0,0) else (0,0,decV T,K):=by
 subst hK;subst hT
 exact numW_dec l h hd
theorem tokC_dec (T:List UInt8) (o:Nat) (k n:Int) (d:Nat) (h:k=((decV T).k:Nat)∧n=(decV T).n∧d=(decV T).d) :
  #[.int .i64 k,.string ⟨#[]⟩,.int .i64 n,.int .u64 ((d:Nat):Int),.int .i64 (o:Int)]=tokC { decV T with p:=o }:=by
 obtain ⟨rfl,rfl,rfl⟩:=h
 unfold tokC decV
 cases wholeB T <;> rfl
theorem whole_digits (l:List UInt8) (h:wholeB l=true):∀ c ∈ l.drop (sgnN l),isDig c=true:=by
 unfold wholeB at h
 have h:=of_decide_eq_true h
 have:=spanN_take isDig (l.drop (sgnN l))
 rw [List.take_of_length_le] at this
 ·exact this
 ·rw [List.length_drop]
  unfold digN at h
  omega
end Go.Proofs.YtpfecpcgdfbekaaGreatDoor
namespace Go.Proofs.YtpfecpcgdfbekaaGreatDoor
open Go.RowKit
def NumOk (s:ByteArray) (l:List UInt8):Prop:=∀ (b o:Nat) (w:World),Lxb w b s o 0 0→o<l.length→decN (l.drop o)≠0 →
  Calls Tryz.prog 96 #[.pointer (some ⟨b,0,none⟩)] w fun e' w'=>WordR e' b s o (numW (l.drop o)) w w'
def LexOk (l:List UInt8):Prop:=∀ (s:ByteArray),Tx s l→∀ (w:World),
  Calls Tryz.prog 50 #[.string s] w fun e w'=>∃ v,e = .returned (.tuple #[v,.int .i64 ((lexS l).2.1:Nat),.int .i64 ((lexS l).2.2:Nat)])∧OwnT w' w.heap.size v (lexS l).1∧Nx w w'
end Go.Proofs.YtpfecpcgdfbekaaGreatDoor
