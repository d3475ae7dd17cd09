/- A region that draws its order, holds calls that make memory, and ends in a store: the walk of Hyb, the store aside. Plain. The contracts of dec's numbers over one another. The contracts of dec's numbers over one another: less than one, the logarithm of 2, the nearest number. -/
import Derived.Test.YtpbjkgpdkopgmaaGreatDoorG01
import Derived.Test.YtpbjkgpdkopgmaaGreatDoorG05
import Derived.Test.YtpbjkgpdkopgmaaGreatDoorG08
import Derived.Laws.Rows
import Derived.Test.YtpbjkgpdkopgmaaGreatDoorG00
set_option linter.unusedVariables false
set_option linter.unusedSimpArgs false
set_option linter.unnecessarySimpa false
namespace Go.Proofs.YtpbjkgpdkopgmaaGreatDoor
open Go.RowKit
def NoU (cs:Array Value):Prop:=∀ (i:Nat) (x:UInt32),cs[i]?≠some (uv x)
theorem NoU.put {cs:Array Value} (h:NoU cs) (i:Nat) (v:Value) (hv:∀ x,v≠uv x):NoU (cs.setIfInBounds i v):=by
 intro j x hj
 rw [Array.getElem?_setIfInBounds] at hj
 split at hj
 ·split at hj
  ·exact hv x (Option.some.inj hj)
  ·cases hj
 ·exact h j x hj
theorem IsNum.put {w:World} {v:Value} {n:Nat} (hn:IsNum w v n) {B e:Nat} {cs:Array Value} {T:TypeId} (hb:Blk w B e cs T) (hc:NoU cs) (i:Nat) (u:Value):IsNum (w.setCell ⟨e,i,none⟩ u) v n:=by
 obtain ⟨A,c,ys,h1,h2,h3,h4,h5⟩:=hn
 refine ⟨A,c,ys,h1,fun hy=>?_,h3,h4,h5⟩
 obtain ⟨b,off,e1,e2,e3⟩:=h2 hy
 have hne:b≠e:=by
  rintro rfl
  have:=e3 0 hy
  rw [hb.cell] at this
  exact hc _ _ this
 refine ⟨b,off,e1,by simpa [World.setCell] using e2,fun j hj=>?_⟩
 rw [← e3 j hj]
 unfold World.cell?
 rw [Below.heap_setCell _ _ _ _ hne]
theorem two_slices (A:Option Addr) (l c:Nat) (A':Option Addr) (l' c':Nat):NoU #[.slice A l c,.slice A' l' c']:=by
 intro i x h
 rcases i with _ | _ | i
 ·cases h
 ·cases h
 ·simp at h
namespace E
section
variable {st:Nat} {P:Program} {ops:Array Oper} {md:Region.Mode}
def GA (st:Nat) (P:Program) (md:Region.Mode) (ops:Array Oper) (Q:Act→World→Prop):Nat→Array Bool→Act→World→Prop
 | 0,listed,a,w=>Region.ready md ops listed=[]∧∀ w1,Nx w w1→Q a w1
 | f+1,listed,a,w=>∀ w1,Nx w w1→(Region.ready md ops listed=[]→Q a w1) ∧
   ∀ i ∈ Region.ready md ops listed,gOp P ops i (fun a' w'=>(i=st∨Nx w1 w')∧GA st P md ops Q f (listed.setIfInBounds i true) a' w') a w1
theorem GA.grow {Q:Act→World→Prop} {f:Nat} {listed:Array Bool} {a:Act} {w w1:World} (h:GA st P md ops Q f listed a w) (hn:Nx w w1):GA st P md ops Q f listed a w1:=by
 cases f with
 | zero=>exact ⟨h.1,fun w2 h2=>h.2 w2 (hn.trans h2)⟩
 | succ f=>exact fun w2 h2=>h w2 (hn.trans h2)
theorem wpAny_of_GA {Q:Act→World→Prop} {Q':Exit→Act→World→Prop} (hQ:∀ a w,Q a w→Q' .normal a w):∀ (f:Nat) (listed:Array Bool) (a:Act) (w:World),
  GA st P md ops Q f listed a w→wpAny P md ops Q' f listed a w
 | 0,_,_,w,h=>⟨h.1,hQ _ _ (h.2 w (Nx.refl w))⟩
 | f+1,listed,a,w,h=>by
  refine ⟨fun h0=>hQ _ _ ((h w (Nx.refl w)).1 h0),fun i hi=>?_⟩
  have:=(h w (Nx.refl w)).2 i hi
  unfold gOp at this
  unfold wpOp
  split
  ·rename_i ho;simp only [ho] at this;exact wpAny_of_GA hQ f _ _ _ this.2
  ·rename_i o ho
   simp only [ho] at this
   split
   ·rename_i hw;simp only [hw,if_true] at this;exact .inl (wp_mono_both (fun a' w' h'=>wpAny_of_GA hQ f _ _ _ h'.2) this trivial)
   ·rename_i hw;simp only [hw] at this;exact wpAny_of_GA hQ f _ _ _ this.2
theorem GA_first {Q:Act→World→Prop} {i:Nat} {oi:Oper} {v:Value} (hi:ops[i]? = some oi) (hsel:∀ (j:Nat) (o:Oper) cs b,ops[j]? = some o→o.op≠.select cs b)
  (hst:∀ o,ops[st]? = some o→∃ e ∈ o.after,Region.binds md e=true∧e.on=i) :
  ∀ (f:Nat) (listed:Array Bool) (a:Act) (w:World),
   (∀ j oj,ops[j]? = some oj→j≠i→listed.getD j true=false→(∀ e ∈ oj.after,Region.binds md e=true→e.on≠i)→oi.apart ops oj=true) →
   i ∈ Region.ready md ops listed→YG P ops w oi v a →
   GA st P md ops Q f (listed.setIfInBounds i true) (a.put oi.dst v) w→GA st P md ops Q (f+1) listed a w:=by
 intro f
 induction f with
 | zero =>
  intro listed a w _ hr hy H w1 hn
  refine ⟨fun h=>(by rw [h] at hr;cases hr),fun j hj=>?_⟩
  by_cases hji:j=i
  ·subst hji;exact (hy.grow hn).gOp hi ⟨.inr (Nx.refl _),H.grow hn⟩
  ·have:=ready_mono hj hji
   rw [H.1] at this
   cases this
 | succ f ih =>
  intro listed a w hfree hr hy H w1 hn
  refine ⟨fun h=>(by rw [h] at hr;cases hr),fun j hj=>?_⟩
  by_cases hji:j=i
  ·subst hji;exact (hy.grow hn).gOp hi ⟨.inr (Nx.refl _),H.grow hn⟩
  ·have h1:=(H w1 hn).2 j (ready_mono hj hji)
   obtain ⟨hjun,oj,hoj,hall⟩:=mem_ready.1 hj
   have hnot:∀ e ∈ oj.after,Region.binds md e=true→e.on≠i:=fun e he hb heq=>by
    have h1:=hall e he hb
    have h0:=(mem_ready.1 hr).1
    rw [heq] at h1
    rcases Nat.lt_or_ge i listed.size with h' | h'
    ·simp [h'] at h0 h1;rw [h0] at h1;cases h1
    ·simp [Array.getElem?_eq_none h'] at h1
   have h2:=gOp_put hoj (hfree j oj hoj hji hjun hnot) (fun cs b=>hsel i oi cs b hi) (fun cs b=>hsel j oj cs b hoj) (hy.grow hn) h1
   have hfree':∀ k ok,ops[k]? = some ok→k≠i→(listed.setIfInBounds j true).getD k true=false →
     (∀ e ∈ ok.after,Region.binds md e=true→e.on≠i)→oi.apart ops ok=true:=fun k ok hk hki hun hno=>by
    refine hfree k ok hk hki ?_ hno
    by_cases hjk:j=k
    ·subst hjk;exact hjun
    ·rw [getD_set_ne true hjk] at hun;exact hun
   have hjst:j≠st:=by
    rintro rfl
    obtain ⟨e,he,hb,heq⟩:=hst oj hoj
    exact hnot e he hb heq
   refine gOp_mono (fun a' w' h3=>have hN:=h3.2.1.resolve_left hjst;⟨.inr hN,ih (listed.setIfInBounds j true) a' w' hfree' (ready_mono hr (Ne.symm hji)) (h3.1.grow hN) ?_⟩) h2
   rw [Array.setIfInBounds_comm _ _ hji]
   exact h3.2.2
def wpHyb (st:Nat) (P:Program) (ops:Array Oper) (Q:Act→World→Prop):List (Nat×Bool)→Act→World→Prop
 | [],a,w=>∀ w1,Nx w w1→Q a w1
 | (k,true) :: rest,a,w=>match ops[k]? with
  | none=>False
  | some o=>if Region.wanted o (yielded ops a.tmps) then calm P o a w (fun a'=>wpHyb st P ops Q rest a' w) else wpHyb st P ops Q rest (a.put o.dst undef) w
 | (k,false) :: rest,a,w=>∀ w1,Nx w w1→match ops[k]? with
  | none=>False
  | some o=>if Region.wanted o (yielded ops a.tmps) then o.wp P a w1 (fun a' w'=>(k=st∨Nx w1 w')∧wpHyb st P ops Q rest a' w') (fun _ _ _=>False) else wpHyb st P ops Q rest (a.put o.dst undef) w1
def edge (st:Nat) (md:Region.Mode) (ops:Array Oper) (k:Nat):Bool:=match ops[st]? with
 | some o=>o.after.any (fun e=>Region.binds md e && e.on == k)
 | none=>true
theorem edge_spec {st k:Nat} (h:edge st md ops k=true):∀ o,ops[st]? = some o→∃ e ∈ o.after,Region.binds md e=true∧e.on=k:=by
 intro o ho
 unfold edge at h
 rw [ho] at h
 obtain ⟨e,he,hb⟩:=Array.any_eq_true'.1 h
 simp only [Bool.and_eq_true,beq_iff_eq] at hb
 exact ⟨e,he,hb.1,hb.2⟩
def hybFrom (st:Nat) (md:Region.Mode) (ops:Array Oper):List (Nat×Bool)→Array Bool→Bool
 | [],listed=>(Region.ready md ops listed).isEmpty
 | (k,true) :: rest,listed=>(Region.ready md ops listed).contains k && Region.free md ops listed k && edge st md ops k && hybFrom st md ops rest (listed.setIfInBounds k true)
 | (k,false) :: rest,listed=>Region.ready md ops listed == [k] && hybFrom st md ops rest (listed.setIfInBounds k true)
def hybB (st:Nat) (md:Region.Mode) (ops:Array Oper) (s:List (Nat×Bool)):Bool:=Region.noSelect ops && s.length == ops.size && hybFrom st md ops s (Array.replicate ops.size false)
theorem GA_hyb {Q:Act→World→Prop} (hs:Region.noSelect ops=true):∀ (s:List (Nat×Bool)) (listed:Array Bool) (a:Act) (w:World),
  hybFrom st md ops s listed=true→wpHyb st P ops Q s a w→GA st P md ops Q s.length listed a w
 | [],listed,a,w,hB,h=>⟨by simpa [hybFrom] using hB,h⟩
 | (k,true) :: rest,listed,a,w,hB,h=>by
  simp only [hybFrom,Bool.and_eq_true] at hB
  obtain ⟨⟨⟨hr,hf⟩,hed⟩,hB'⟩:=hB
  have hr':k ∈ Region.ready md ops listed:=by simpa using hr
  obtain ⟨_,o,ho,_⟩:=mem_ready.1 hr'
  simp only [wpHyb,ho] at h
  by_cases hw:Region.wanted o (yielded ops a.tmps)=true
  ·simp only [hw,if_true] at h
   obtain ⟨v,h1,h2⟩:=h
   exact GA_first ho (Region.noSelect_spec hs) (edge_spec hed) rest.length listed a w (Region.free_spec ho hf) hr' (.inl ⟨hw,h1⟩) (GA_hyb hs rest _ _ _ hB' h2)
  ·simp only [hw] at h
   exact GA_first ho (Region.noSelect_spec hs) (edge_spec hed) rest.length listed a w (Region.free_spec ho hf) hr' (.inr ⟨by simpa using hw,rfl⟩) (GA_hyb hs rest _ _ _ hB' h)
 | (k,false) :: rest,listed,a,w,hB,h=>by
  simp only [hybFrom,Bool.and_eq_true,beq_iff_eq] at hB
  obtain ⟨hr,hB'⟩:=hB
  intro w1 hn
  refine ⟨fun h0=>(by rw [hr] at h0;cases h0),fun i hi=>?_⟩
  rw [hr] at hi
  obtain rfl:i=k:=by simpa using hi
  have h:=h w1 hn
  unfold gOp
  cases ho:ops[i]? with
  | none=>rw [ho] at h;exact h.elim
  | some o =>
   rw [ho] at h
   simp only at h ⊢
   by_cases hw:Region.wanted o (yielded ops a.tmps)=true
   ·simp only [hw,if_true] at h ⊢
    exact wp_mono_both (fun a' w' h'=>⟨h'.1,GA_hyb hs rest _ _ _ hB' h'.2⟩) h trivial
   ·simp only [hw] at h ⊢
    exact ⟨.inr (Nx.refl _),GA_hyb hs rest _ _ _ hB' h⟩
structure Hyb (st:Nat) (P:Program) (ops:Array Oper) (Q:Act→World→Prop) (s:List (Nat×Bool)) (a:Act) (w:World):Prop where
 out:wpHyb st P ops Q s a w
theorem wp_region_hyb {id:Nat} {Q:Exit→Act→World→Prop} {a:Act} {w:World} {l:List Oper} (s:List (Nat×Bool)) (hm:P.follows .mixedOrders=true) (hB:hybB st .any l.toArray s=true)
  (h:Hyb st P l.toArray (fun a w=>Q .normal a w) s a w):(Code.region id l.toArray true).wp P Q a w:=by
 simp only [hybB,Bool.and_eq_true,beq_iff_eq] at hB
 obtain ⟨⟨h1,h2⟩,h3⟩:=hB
 refine wp_region_any hm (wpAny_of_GA (st:=st) (Q:=fun a w=>Q .normal a w) (fun _ _ h=>h) _ _ _ _ ?_)
 have:=GA_hyb (st:=st) (md:=.any) h1 s _ _ _ h3 h.out
 rw [h2] at this
 exact this.grow (Nx.drawn w)
theorem hyb_calm {Q:Act→World→Prop} {k:Nat} {o:Oper} {rest:List (Nat×Bool)} {a:Act} {w:World} (ho:ops[k]? = some o)
  (h:∀ K:Act→Prop,(∀ a,Hyb st P ops Q rest a w→K a)→if Region.wanted o (yielded ops a.tmps) then calm P o a w K else K (a.put o.dst undef)):Hyb st P ops Q ((k,true) :: rest) a w:=by
 refine ⟨?_⟩
 simp only [wpHyb,ho]
 exact h _ (fun _ h=>h.out)
theorem hyb_alone {Q:Act→World→Prop} {k:Nat} {o:Oper} {rest:List (Nat×Bool)} {a:Act} {w:World} (ho:ops[k]? = some o)
  (h:∀ w1,Nx w w1→∀ K:Act→World→Prop,(∀ a' w',(k=st∨Nx w1 w')→Hyb st P ops Q rest a' w'→K a' w')→if Region.wanted o (yielded ops a.tmps) then o.wp P a w1 K (fun _ _ _=>False) else K (a.put o.dst undef) w1):Hyb st P ops Q ((k,false) :: rest) a w:=by
 refine ⟨?_⟩
 intro w1 hn
 simp only [ho]
 have:=h w1 hn (fun a' w'=>(k=st∨Nx w1 w')∧wpHyb st P ops Q rest a' w') (fun a' w' h1 h2=>⟨h1,h2.out⟩)
 split
 ·rename_i hw;simpa [hw] using this
 ·rename_i hw;simp [hw] at this;exact this.2
theorem hyb_nil {Q:Act→World→Prop} {a:Act} {w:World} (h:∀ w1,Nx w w1→Q a w1):Hyb st P ops Q [] a w:=⟨h⟩
end
end E
end Go.Proofs.YtpbjkgpdkopgmaaGreatDoor
namespace Go.Proofs.YtpbjkgpdkopgmaaGreatDoor
open Go.RowKit
def KB:Nat:=4800
theorem KB_le:(KB:Int)≤5000:=by decide
theorem pow_KB (j:Nat) (hj:j≤150000):2 ^ j≤4294967296 ^ KB:=by
 have hk:KB=4800:=rfl
 generalize KB=K at *
 rw [show (4294967296:Nat)=2 ^ 32 from rfl,← Nat.pow_mul]
 exact Nat.pow_le_pow_right (by decide) (by omega)
theorem IsNum.few {w:World} {v:Value} {n j:Nat} (h:IsNum w v n) (hn:n<2 ^ j) (hj:j≤150000):Num w v n KB :=
 h.num (Nat.lt_of_lt_of_le hn (pow_KB j hj))
theorem IsNum.sl {w:World} {v:Value} {n:Nat} (h:IsNum w v n):∃ A l c,v = .slice A l c:=by
 obtain ⟨A,c,ys,h1,_⟩:=h
 exact ⟨A,_,c,h1⟩
def Ra (w:World) (r:Value) (x y j:Nat):Prop:=∃ v u,r = .agg #[v,u]∧IsNum w v x∧IsNum w u y∧x<2 ^ j∧y<2 ^ j
theorem Ra.below {w w':World} {r:Value} {x y j:Nat} (h:Ra w r x y j) (hb:Below w.heap.size w w'):Ra w' r x y j:=by
 obtain ⟨v,u,h1,h2,h3,h4,h5⟩:=h
 exact ⟨v,u,h1,h2.below hb,h3.below hb,h4,h5⟩
theorem wrap64 (x:Int) (h1 : -9223372036854775808≤x) (h2:x≤9223372036854775807):IntKind.i64.wrap x=x:=by
 rw [IntKind.wrap_i64];omega
theorem ten_two (k:Nat):10 ^ k≤2 ^ (4 * k):=by
 rw [Nat.pow_mul];exact Nat.pow_le_pow_left (by decide) k
theorem ten_two' (x j k:Nat) (h:x<2 ^ j):x * 10 ^ k<2 ^ (j+4 * k):=by
 rw [Nat.pow_add]
 exact Nat.lt_of_lt_of_le (Nat.mul_lt_mul_of_pos_right h (Nat.pow_pos (by decide))) (Nat.mul_le_mul_left _ (ten_two k))
theorem two_two' (x j k:Nat) (h:x<2 ^ j):x * 2 ^ k<2 ^ (j+k):=by
 rw [Nat.pow_add]
 exact Nat.mul_lt_mul_of_pos_right h (Nat.pow_pos (by decide))
theorem more_two (x j k:Nat) (h:x<2 ^ j):x<2 ^ (j+k):=Nat.lt_of_lt_of_le h (Nat.pow_le_pow_right (by decide) (by omega))
set_option maxRecDepth 100000 in
set_option maxHeartbeats 1600000 in
theorem timesTen_any (r:Value) (x y j:Nat) (n:Int) (w:World) (h:Ra w r x y j) (hj:j≤100000) (hn1 : -1000≤n) (hn2:n≤1000) :
  Calls Tryz.prog 227 #[r,.int .i64 n] w fun e w'=>∃ r',e = .returned r'∧Ra w' r' (x * 10 ^ n.toNat) (y * 10 ^ (-n).toNat) (j+4 * n.natAbs)∧Nx w w':=by
 obtain ⟨v,u,rfl,hv,hu,hx,hy⟩:=h
 obtain ⟨Av,lv,cv,rfl⟩:=hv.sl
 obtain ⟨Au,lu,cu,rfl⟩:=hu.sl
 by_cases hneg:n<0
 ·have b1:decide (n<0)=true:=decide_eq_true hneg
  obtain ⟨k,hk,hk2⟩:∃ k:Nat,-n=(k:Int)∧n.natAbs=k:=⟨n.natAbs,by omega,rfl⟩
  have hk1:(k:Int)≤1000:=by omega
  have hwr:IntKind.i64.wrap (k:Int)=(k:Int):=wrap64 _ (by omega) (by omega)
  have HK:=Lib.hid hk2
  have hres:Hid (n.toNat=0∧(-n).toNat=k):=⟨by omega,by omega⟩
  clear hk2 hneg
  obtain ⟨g,hg⟩:∃ g,w.heap.size=g:=⟨_,rfl⟩
  go_enter Tryz.func227,Tryz.ntmps227
  go_wp2_with fail
  generalize hW:((w.alloc (Obj.cells #[.slice Av lv cv,.slice Au lu cu] _)).alloc _)=W
  have hN:Nx w W:=by rw [← hW];exact Nx.al (nx0 _ _) _
  have hB1:Blk W g g #[.slice Av lv cv,.slice Au lu cu] 265:=by rw [← hW,← hg];exact (Blk.new w _ _).alloc _
  have hB2:Blk W g (g+1) #[.slice none 0 0,.slice none 0 0] 265:=by
   rw [← hW,← hg]
   exact ⟨by simp,by rw [show w.heap.size+1=(w.alloc (Obj.cells #[.slice Av lv cv,.slice Au lu cu] 265)).heap.size from by simp];exact heap_alloc_new _ _⟩
  have q0:∀ x:Gr W,x.1.cell? ⟨g,0,none⟩=some (.slice Av lv cv):=fun x=>(hB1.below x.2).cell 0
  have q1:∀ x:Gr W,x.1.cell? ⟨g,1,none⟩=some (.slice Au lu cu):=fun x=>(hB1.below x.2).cell 1
  refine E.wp_region_hyb (st:=9) [(0,true),(1,true),(2,true),(3,true),(4,true),(5,true),(6,false),(7,false),(8,true),(9,false)] rfl (by kernel_rfl) ?_
  iterate 6 (refine E.hyb_calm rfl (fun K hK=>?_);go_simp;refine hK _ ?_;clear hK K)
  refine E.hyb_alone rfl (fun w1 hn1 K hK=>?_)
  go_simp
  refine (ten_any k _ (by omega)).mono ?_;rintro e w2 ⟨v2,rfl,hv2,hb2⟩
  refine hK _ _ (.inr hb2) ?_
  clear hK K
  refine E.hyb_alone rfl (fun w3 hn3 K hK=>?_)
  go_simp
  have hb13:Nx W w3:=nx (nx hn1 hb2) hn3
  refine (mul_n _ v2 y (10 ^ k) KB _ ((hu.below (nx hN hb13)).few hy (by omega)) ((hv2.below hn3).few (by rw [← Nat.one_mul (10 ^ k)];exact ten_two' 1 1 k (by decide)) (by omega)) KB_le).mono ?_;rintro e w4 ⟨v4,rfl,hv4,hb4⟩
  obtain ⟨A4,l4,c4,rfl⟩:=hv4.sl
  refine hK _ _ (.inr hb4) ?_
  clear hK K
  iterate 1 (refine E.hyb_calm rfl (fun K hK=>?_);go_simp;refine hK _ ?_;clear hK K)
  refine E.hyb_alone rfl (fun w5 hn5 K hK=>?_)
  have hW5:Nx W w5:=nx (nx hb13 hb4) hn5
  have hB5:=hB2.below hW5
  have c0:w5.cell? ⟨g+1,0,none⟩=some (.slice none 0 0):=hB5.cell 0
  have c1:w5.cell? ⟨g+1,1,none⟩=some (.slice none 0 0):=hB5.cell 1
  have f0:=hB5.free 0
  have f1:=hB5.free 1
  have nu:NoU #[.slice none 0 0,.slice none 0 0]:=two_slices _ _ _ _ _ _
  go_simp
  refine hK _ _ (.inl rfl) ?_
  clear hK K
  have hB6:=(hB5.put 0 (.slice Av lv cv)).put 1 (.slice A4 l4 c4)
  have hN6:Nx w ((w5.setCell ⟨g+1,0,none⟩ (.slice Av lv cv)).setCell ⟨g+1,1,none⟩ (.slice A4 l4 c4)):=((Nx.trans hN hW5).put' (by omega) 0 _).put' (by omega) 1 _
  have hv6:=((hv4.below hn5).put hB5 nu 0 (.slice Av lv cv)).put (hB5.put 0 (.slice Av lv cv)) (two_slices _ _ _ _ _ _) 1 (.slice A4 l4 c4)
  generalize hW6:(w5.setCell ⟨g+1,0,none⟩ (.slice Av lv cv)).setCell ⟨g+1,1,none⟩ (.slice A4 l4 c4)=W6 at *
  refine E.hyb_nil (fun w7 hn7=>?_)
  have hB7:=hB6.below hn7
  clear c0 c1 f0 f1 q0 q1
  go_wp2_with fail
  try simp only [Exit.inBlock,Exit.then]
  refine bodyPost_ret (results_cell_row rfl _ _ (g+1) _ _ _ _ rfl hB7.2 Tryz.underlying265 rfl (by kernel_rfl)) rfl ?_
  refine ⟨_,rfl,⟨_,_,rfl,(hv.below (Nx.trans hN6 hn7)).cast ?_,(hv6.below hn7).cast ?_,?_,?_⟩,Nx.trans hN6 hn7⟩
  ·rw [hres.out.1,Nat.pow_zero,Nat.mul_one]
  ·rw [hres.out.2]
  ·rw [hres.out.1,Nat.pow_zero,Nat.mul_one];exact more_two _ _ _ hx
  ·rw [hres.out.2,HK.out];exact ten_two' _ _ _ hy
 ·have b1:decide (n<0)=false:=decide_eq_false hneg
  obtain ⟨k,rfl⟩:=Int.eq_ofNat_of_zero_le (a:=n) (by omega)
  have HK:Hid ((k:Int).natAbs=k):=Int.natAbs_natCast k
  have hres:Hid ((k:Int).toNat=k∧(-(k:Int)).toNat=0):=⟨by omega,by omega⟩
  clear hneg
  obtain ⟨g,hg⟩:∃ g,w.heap.size=g:=⟨_,rfl⟩
  go_enter Tryz.func227,Tryz.ntmps227
  go_wp2_with fail
  generalize hW:((w.alloc (Obj.cells #[.slice Av lv cv,.slice Au lu cu] _)).alloc _)=W
  have hN:Nx w W:=by rw [← hW];exact Nx.al (nx0 _ _) _
  have hB1:Blk W g g #[.slice Av lv cv,.slice Au lu cu] 265:=by rw [← hW,← hg];exact (Blk.new w _ _).alloc _
  have hB2:Blk W g (g+1) #[.slice none 0 0,.slice none 0 0] 265:=by
   rw [← hW,← hg]
   exact ⟨by simp,by rw [show w.heap.size+1=(w.alloc (Obj.cells #[.slice Av lv cv,.slice Au lu cu] 265)).heap.size from by simp];exact heap_alloc_new _ _⟩
  have q0:∀ x:Gr W,x.1.cell? ⟨g,0,none⟩=some (.slice Av lv cv):=fun x=>(hB1.below x.2).cell 0
  have q1:∀ x:Gr W,x.1.cell? ⟨g,1,none⟩=some (.slice Au lu cu):=fun x=>(hB1.below x.2).cell 1
  refine E.wp_region_hyb (st:=8) [(0,true),(1,true),(2,true),(5,true),(6,true),(3,false),(4,false),(7,true),(8,false)] rfl (by kernel_rfl) ?_
  iterate 5 (refine E.hyb_calm rfl (fun K hK=>?_);go_simp;refine hK _ ?_;clear hK K)
  refine E.hyb_alone rfl (fun w1 hn1 K hK=>?_)
  go_simp
  refine (ten_any k _ (by omega)).mono ?_;rintro e w2 ⟨v2,rfl,hv2,hb2⟩
  refine hK _ _ (.inr hb2) ?_
  clear hK K
  refine E.hyb_alone rfl (fun w3 hn3 K hK=>?_)
  go_simp
  have hb13:Nx W w3:=nx (nx hn1 hb2) hn3
  refine (mul_n _ v2 x (10 ^ k) KB _ ((hv.below (nx hN hb13)).few hx (by omega)) ((hv2.below hn3).few (by rw [← Nat.one_mul (10 ^ k)];exact ten_two' 1 1 k (by decide)) (by omega)) KB_le).mono ?_;rintro e w4 ⟨v4,rfl,hv4,hb4⟩
  obtain ⟨A4,l4,c4,rfl⟩:=hv4.sl
  refine hK _ _ (.inr hb4) ?_
  clear hK K
  iterate 1 (refine E.hyb_calm rfl (fun K hK=>?_);go_simp;refine hK _ ?_;clear hK K)
  refine E.hyb_alone rfl (fun w5 hn5 K hK=>?_)
  have hW5:Nx W w5:=nx (nx hb13 hb4) hn5
  have hB5:=hB2.below hW5
  have c0:w5.cell? ⟨g+1,0,none⟩=some (.slice none 0 0):=hB5.cell 0
  have c1:w5.cell? ⟨g+1,1,none⟩=some (.slice none 0 0):=hB5.cell 1
  have f0:=hB5.free 0
  have f1:=hB5.free 1
  have nu:NoU #[.slice none 0 0,.slice none 0 0]:=two_slices _ _ _ _ _ _
  go_simp
  refine hK _ _ (.inl rfl) ?_
  clear hK K
  have hB6:=(hB5.put 0 (.slice A4 l4 c4)).put 1 (.slice Au lu cu)
  have hN6:Nx w ((w5.setCell ⟨g+1,0,none⟩ (.slice A4 l4 c4)).setCell ⟨g+1,1,none⟩ (.slice Au lu cu)):=((Nx.trans hN hW5).put' (by omega) 0 _).put' (by omega) 1 _
  have hv6:=((hv4.below hn5).put hB5 nu 0 (.slice A4 l4 c4)).put (hB5.put 0 (.slice A4 l4 c4)) (two_slices _ _ _ _ _ _) 1 (.slice Au lu cu)
  generalize hW6:(w5.setCell ⟨g+1,0,none⟩ (.slice A4 l4 c4)).setCell ⟨g+1,1,none⟩ (.slice Au lu cu)=W6 at *
  refine E.hyb_nil (fun w7 hn7=>?_)
  have hB7:=hB6.below hn7
  clear c0 c1 f0 f1 q0 q1
  go_wp2_with fail
  try simp only [Exit.inBlock,Exit.then]
  refine bodyPost_ret (results_cell_row rfl _ _ (g+1) _ _ _ _ rfl hB7.2 Tryz.underlying265 rfl (by kernel_rfl)) rfl ?_
  refine ⟨_,rfl,⟨_,_,rfl,(hv6.below hn7).cast ?_,(hu.below (Nx.trans hN6 hn7)).cast ?_,?_,?_⟩,Nx.trans hN6 hn7⟩
  ·rw [hres.out.1]
  ·rw [hres.out.2,Nat.pow_zero,Nat.mul_one]
  ·rw [hres.out.1,HK.out];exact ten_two' _ _ _ hx
  ·rw [hres.out.2,Nat.pow_zero,Nat.mul_one];exact more_two _ _ _ hy
set_option maxRecDepth 100000 in
set_option maxHeartbeats 1600000 in
theorem timesTwo_any (r:Value) (x y j:Nat) (n:Int) (w:World) (h:Ra w r x y j) (hj:j≤100000) (hn1 : -30000≤n) (hn2:n≤30000) :
  Calls Tryz.prog 254 #[r,.int .i64 n] w fun e w'=>∃ r',e = .returned r'∧Ra w' r' (x * 2 ^ n.toNat) (y * 2 ^ (-n).toNat) (j+n.natAbs)∧Nx w w':=by
 obtain ⟨v,u,rfl,hv,hu,hx,hy⟩:=h
 obtain ⟨Av,lv,cv,rfl⟩:=hv.sl
 obtain ⟨Au,lu,cu,rfl⟩:=hu.sl
 by_cases hneg:n<0
 ·have b1:decide (n<0)=true:=decide_eq_true hneg
  obtain ⟨k,hk,hk2⟩:∃ k:Nat,-n=(k:Int)∧n.natAbs=k:=⟨n.natAbs,by omega,rfl⟩
  have hk1:(k:Int)≤30000:=by omega
  have hwr:IntKind.i64.wrap (k:Int)=(k:Int):=wrap64 _ (by omega) (by omega)
  have HK:=Lib.hid hk2
  have hres:Hid (n.toNat=0∧(-n).toNat=k):=⟨by omega,by omega⟩
  clear hk2 hneg
  obtain ⟨g,hg⟩:∃ g,w.heap.size=g:=⟨_,rfl⟩
  go_enter Tryz.func254,Tryz.ntmps254
  go_wp2_with fail
  generalize hW:((w.alloc (Obj.cells #[.slice Av lv cv,.slice Au lu cu] _)).alloc _)=W
  have hN:Nx w W:=by rw [← hW];exact Nx.al (nx0 _ _) _
  have hB1:Blk W g g #[.slice Av lv cv,.slice Au lu cu] 265:=by rw [← hW,← hg];exact (Blk.new w _ _).alloc _
  have hB2:Blk W g (g+1) #[.slice none 0 0,.slice none 0 0] 265:=by
   rw [← hW,← hg]
   exact ⟨by simp,by rw [show w.heap.size+1=(w.alloc (Obj.cells #[.slice Av lv cv,.slice Au lu cu] 265)).heap.size from by simp];exact heap_alloc_new _ _⟩
  have q0:∀ x:Gr W,x.1.cell? ⟨g,0,none⟩=some (.slice Av lv cv):=fun x=>(hB1.below x.2).cell 0
  have q1:∀ x:Gr W,x.1.cell? ⟨g,1,none⟩=some (.slice Au lu cu):=fun x=>(hB1.below x.2).cell 1
  refine E.wp_region_hyb (st:=8) [(0,true),(1,true),(2,true),(3,true),(4,true),(5,true),(6,false),(7,true),(8,false)] rfl (by kernel_rfl) ?_
  iterate 6 (refine E.hyb_calm rfl (fun K hK=>?_);go_simp;refine hK _ ?_;clear hK K)
  refine E.hyb_alone rfl (fun w3 hn3 K hK=>?_)
  go_simp
  have hb13:Nx W w3:=hn3
  refine (shl_n _ y KB (k:Int) _ ((hu.below (nx hN hb13)).few hy (by omega)) KB_le (by omega) (by omega)).mono ?_;rintro e w4 ⟨v4,rfl,hv4,hb4⟩
  have hv4:=hv4.cast (show shV y (k:Int)=y * 2 ^ k from by unfold shV;rw [if_pos (by omega),Int.toNat_natCast])
  obtain ⟨A4,l4,c4,rfl⟩:=hv4.sl
  refine hK _ _ (.inr hb4) ?_
  clear hK K
  iterate 1 (refine E.hyb_calm rfl (fun K hK=>?_);go_simp;refine hK _ ?_;clear hK K)
  refine E.hyb_alone rfl (fun w5 hn5 K hK=>?_)
  have hW5:Nx W w5:=nx (nx hb13 hb4) hn5
  have hB5:=hB2.below hW5
  have c0:w5.cell? ⟨g+1,0,none⟩=some (.slice none 0 0):=hB5.cell 0
  have c1:w5.cell? ⟨g+1,1,none⟩=some (.slice none 0 0):=hB5.cell 1
  have f0:=hB5.free 0
  have f1:=hB5.free 1
  have nu:NoU #[.slice none 0 0,.slice none 0 0]:=two_slices _ _ _ _ _ _
  go_simp
  refine hK _ _ (.inl rfl) ?_
  clear hK K
  have hB6:=(hB5.put 0 (.slice Av lv cv)).put 1 (.slice A4 l4 c4)
  have hN6:Nx w ((w5.setCell ⟨g+1,0,none⟩ (.slice Av lv cv)).setCell ⟨g+1,1,none⟩ (.slice A4 l4 c4)):=((Nx.trans hN hW5).put' (by omega) 0 _).put' (by omega) 1 _
  have hv6:=((hv4.below hn5).put hB5 nu 0 (.slice Av lv cv)).put (hB5.put 0 (.slice Av lv cv)) (two_slices _ _ _ _ _ _) 1 (.slice A4 l4 c4)
  generalize hW6:(w5.setCell ⟨g+1,0,none⟩ (.slice Av lv cv)).setCell ⟨g+1,1,none⟩ (.slice A4 l4 c4)=W6 at *
  refine E.hyb_nil (fun w7 hn7=>?_)
  have hB7:=hB6.below hn7
  clear c0 c1 f0 f1 q0 q1
  go_wp2_with fail
  try simp only [Exit.inBlock,Exit.then]
  refine bodyPost_ret (results_cell_row rfl _ _ (g+1) _ _ _ _ rfl hB7.2 Tryz.underlying265 rfl (by kernel_rfl)) rfl ?_
  refine ⟨_,rfl,⟨_,_,rfl,(hv.below (Nx.trans hN6 hn7)).cast ?_,(hv6.below hn7).cast ?_,?_,?_⟩,Nx.trans hN6 hn7⟩
  ·rw [hres.out.1,Nat.pow_zero,Nat.mul_one]
  ·rw [hres.out.2]
  ·rw [hres.out.1,Nat.pow_zero,Nat.mul_one];exact more_two _ _ _ hx
  ·rw [hres.out.2,HK.out];exact two_two' _ _ _ hy
 ·have b1:decide (n<0)=false:=decide_eq_false hneg
  obtain ⟨k,rfl⟩:=Int.eq_ofNat_of_zero_le (a:=n) (by omega)
  have HK:Hid ((k:Int).natAbs=k):=Int.natAbs_natCast k
  have hres:Hid ((k:Int).toNat=k∧(-(k:Int)).toNat=0):=⟨by omega,by omega⟩
  clear hneg
  obtain ⟨g,hg⟩:∃ g,w.heap.size=g:=⟨_,rfl⟩
  go_enter Tryz.func254,Tryz.ntmps254
  go_wp2_with fail
  generalize hW:((w.alloc (Obj.cells #[.slice Av lv cv,.slice Au lu cu] _)).alloc _)=W
  have hN:Nx w W:=by rw [← hW];exact Nx.al (nx0 _ _) _
  have hB1:Blk W g g #[.slice Av lv cv,.slice Au lu cu] 265:=by rw [← hW,← hg];exact (Blk.new w _ _).alloc _
  have hB2:Blk W g (g+1) #[.slice none 0 0,.slice none 0 0] 265:=by
   rw [← hW,← hg]
   exact ⟨by simp,by rw [show w.heap.size+1=(w.alloc (Obj.cells #[.slice Av lv cv,.slice Au lu cu] 265)).heap.size from by simp];exact heap_alloc_new _ _⟩
  have q0:∀ x:Gr W,x.1.cell? ⟨g,0,none⟩=some (.slice Av lv cv):=fun x=>(hB1.below x.2).cell 0
  have q1:∀ x:Gr W,x.1.cell? ⟨g,1,none⟩=some (.slice Au lu cu):=fun x=>(hB1.below x.2).cell 1
  refine E.wp_region_hyb (st:=7) [(0,true),(1,true),(2,true),(4,true),(5,true),(3,false),(6,true),(7,false)] rfl (by kernel_rfl) ?_
  iterate 5 (refine E.hyb_calm rfl (fun K hK=>?_);go_simp;refine hK _ ?_;clear hK K)
  refine E.hyb_alone rfl (fun w3 hn3 K hK=>?_)
  go_simp
  have hb13:Nx W w3:=hn3
  refine (shl_n _ x KB (k:Int) _ ((hv.below (nx hN hb13)).few hx (by omega)) KB_le (by omega) (by omega)).mono ?_;rintro e w4 ⟨v4,rfl,hv4,hb4⟩
  have hv4:=hv4.cast (show shV x (k:Int)=x * 2 ^ k from by unfold shV;rw [if_pos (by omega),Int.toNat_natCast])
  obtain ⟨A4,l4,c4,rfl⟩:=hv4.sl
  refine hK _ _ (.inr hb4) ?_
  clear hK K
  iterate 1 (refine E.hyb_calm rfl (fun K hK=>?_);go_simp;refine hK _ ?_;clear hK K)
  refine E.hyb_alone rfl (fun w5 hn5 K hK=>?_)
  have hW5:Nx W w5:=nx (nx hb13 hb4) hn5
  have hB5:=hB2.below hW5
  have c0:w5.cell? ⟨g+1,0,none⟩=some (.slice none 0 0):=hB5.cell 0
  have c1:w5.cell? ⟨g+1,1,none⟩=some (.slice none 0 0):=hB5.cell 1
  have f0:=hB5.free 0
  have f1:=hB5.free 1
  have nu:NoU #[.slice none 0 0,.slice none 0 0]:=two_slices _ _ _ _ _ _
  go_simp
  refine hK _ _ (.inl rfl) ?_
  clear hK K
  have hB6:=(hB5.put 0 (.slice A4 l4 c4)).put 1 (.slice Au lu cu)
  have hN6:Nx w ((w5.setCell ⟨g+1,0,none⟩ (.slice A4 l4 c4)).setCell ⟨g+1,1,none⟩ (.slice Au lu cu)):=((Nx.trans hN hW5).put' (by omega) 0 _).put' (by omega) 1 _
  have hv6:=((hv4.below hn5).put hB5 nu 0 (.slice A4 l4 c4)).put (hB5.put 0 (.slice A4 l4 c4)) (two_slices _ _ _ _ _ _) 1 (.slice Au lu cu)
  generalize hW6:(w5.setCell ⟨g+1,0,none⟩ (.slice A4 l4 c4)).setCell ⟨g+1,1,none⟩ (.slice Au lu cu)=W6 at *
  refine E.hyb_nil (fun w7 hn7=>?_)
  have hB7:=hB6.below hn7
  clear c0 c1 f0 f1 q0 q1
  go_wp2_with fail
  try simp only [Exit.inBlock,Exit.then]
  refine bodyPost_ret (results_cell_row rfl _ _ (g+1) _ _ _ _ rfl hB7.2 Tryz.underlying265 rfl (by kernel_rfl)) rfl ?_
  refine ⟨_,rfl,⟨_,_,rfl,(hv6.below hn7).cast ?_,(hu.below (Nx.trans hN6 hn7)).cast ?_,?_,?_⟩,Nx.trans hN6 hn7⟩
  ·rw [hres.out.1]
  ·rw [hres.out.2,Nat.pow_zero,Nat.mul_one]
  ·rw [hres.out.1,HK.out];exact two_two' _ _ _ hx
  ·rw [hres.out.2,Nat.pow_zero,Nat.mul_one];exact more_two _ _ _ hy
end Go.Proofs.YtpbjkgpdkopgmaaGreatDoor
namespace Go.Proofs.YtpbjkgpdkopgmaaGreatDoor
open Go.RowKit
set_option maxRecDepth 100000 in
set_option maxHeartbeats 1600000 in
theorem below1_any (r:Value) (x y j:Nat) (w:World) (h:Ra w r x y j) (hj:j≤150000) :
  Calls Tryz.prog 264 #[r] w fun e w'=>e = .returned (.bool (decide (x<y)))∧Nx w w':=by
 obtain ⟨v,u,rfl,hv,hu,hx,hy⟩:=h
 obtain ⟨Av,lv,cv,rfl⟩:=hv.sl
 obtain ⟨Au,lu,cu,rfl⟩:=hu.sl
 obtain ⟨C,HC⟩:∃ C,Hid (cmpI x y=C):=⟨_,rfl⟩
 have hres:decide (C<0)=decide (x<y):=by
  rw [← HC.out];unfold cmpI
  by_cases h1:x<y
  ·rw [if_pos h1];simp [h1]
  ·rw [if_neg h1];split <;> simp [h1]
 have HR:=Lib.hid hres
 obtain ⟨b,hb⟩:∃ b,decide (C<0)=b:=⟨_,rfl⟩
 rw [← HR.out,hb]
 clear hres
 go_enter Tryz.func264,Tryz.ntmps264
 go_wp2_with fail
 have hn0:=nx0 w (Obj.cells #[Value.slice Av lv cv,Value.slice Au lu cu] 265)
 refine (cmp_n _ _ x y KB _ ((hv.below hn0).few hx hj) ((hu.below hn0).few hy hj) KB_le).mono ?_;rintro e w1 ⟨rfl,hw1⟩
 rw [HC.out]
 go_wp2_with fail
 go_ret
 exact ⟨rfl,nx hn0 hw1⟩
def GE2 (x y:Nat) (p:Int):Prop:=y * 2 ^ p.toNat≤x * 2 ^ (-p).toNat
theorem blen_pos (x:Nat) (h:x≠0):1≤blen x∧2 ^ (blen x - 1)≤x∧x<2 ^ blen x:=by
 unfold blen
 rw [if_neg h]
 exact ⟨by omega,by simpa using Nat.log2_self_le h,(Nat.log2_lt h).1 (by omega)⟩
theorem blen_lt (x j:Nat) (h:x<2 ^ j):blen x≤j:=by
 unfold blen
 split
 ·omega
 ·rename_i h0
  have:=(Nat.log2_lt h0).2 h
  omega
theorem ge2_iff (x y:Nat) (p:Int) (a b:Nat) (h:(a:Int) - b=p):GE2 x y p↔y * 2 ^ a≤x * 2 ^ b:=by
 unfold GE2
 rcases Int.le_total 0 p with h0 | h0
 ·obtain ⟨n,rfl⟩:=Int.eq_ofNat_of_zero_le h0
  obtain rfl:a=b+n:=by omega
  rw [show ((n:Int)).toNat=n from by omega,show (-(n:Int)).toNat=0 from by omega,Nat.pow_zero,Nat.mul_one,Nat.pow_add,Nat.mul_comm (2 ^ b),← Nat.mul_assoc]
  exact (Nat.mul_le_mul_right_iff (Nat.pow_pos (by decide))).symm
 ·obtain ⟨n,hn⟩:=Int.eq_ofNat_of_zero_le (a:=-p) (by omega)
  obtain rfl:b=a+n:=by omega
  rw [show p.toNat=0 from by omega,show (-p).toNat=n from by omega,Nat.pow_zero,Nat.mul_one,Nat.pow_add,Nat.mul_comm (2 ^ a) (2 ^ n),← Nat.mul_assoc]
  exact (Nat.mul_le_mul_right_iff (Nat.pow_pos (by decide))).symm
theorem ge2_len (x y:Nat) (hx:x≠0) (hy:y≠0):GE2 x y ((blen x:Int) - blen y - 1)∧¬ GE2 x y ((blen x:Int) - blen y+1):=by
 obtain ⟨a1,a2,a3⟩:=blen_pos x hx
 obtain ⟨b1,b2,b3⟩:=blen_pos y hy
 constructor
 ·rw [ge2_iff x y _ (blen x - 1) (blen y) (by omega)]
  calc y * 2 ^ (blen x - 1)≤2 ^ blen y * 2 ^ (blen x - 1):=Nat.mul_le_mul_right _ (by omega)
   _=2 ^ (blen x - 1) * 2 ^ blen y:=Nat.mul_comm _ _
   _≤x * 2 ^ blen y:=Nat.mul_le_mul_right _ a2
 ·rw [ge2_iff x y _ (blen x) (blen y - 1) (by omega),Nat.not_le]
  calc x * 2 ^ (blen y - 1)<2 ^ blen x * 2 ^ (blen y - 1):=Nat.mul_lt_mul_of_pos_right a3 (Nat.pow_pos (by decide))
   _=2 ^ (blen y - 1) * 2 ^ blen x:=Nat.mul_comm _ _
   _≤y * 2 ^ blen x:=Nat.mul_le_mul_right _ b2
set_option maxRecDepth 100000 in
set_option maxHeartbeats 1600000 in
theorem log2_any (r:Value) (x y j:Nat) (w:World) (h:Ra w r x y j) (hj:j≤20000) (hx0:x≠0) (hy0:y≠0) :
  Calls Tryz.prog 253 #[r] w fun e w'=>∃ L:Int,e = .returned (.int .i64 L)∧Hid (GE2 x y L∧¬ GE2 x y (L+1))∧-(j:Int) - 1≤L∧L≤j∧Nx w w':=by
 have HX:=Lib.hid h
 obtain ⟨v,u,rfl,hv,hu,hx,hy⟩:=h
 obtain ⟨Av,lv,cv,rfl⟩:=hv.sl
 obtain ⟨Au,lu,cu,rfl⟩:=hu.sl
 obtain ⟨bx,HBX⟩:∃ b,Hid (blen x=b):=⟨_,rfl⟩
 obtain ⟨bYl,HBY⟩:∃ b,Hid (blen y=b):=⟨_,rfl⟩
 have hbx:bx≤j:=by rw [← HBX.out];exact blen_lt _ _ hx
 have hby:bYl≤j:=by rw [← HBY.out];exact blen_lt _ _ hy
 have hlen:=ge2_len x y hx0 hy0
 rw [HBX.out,HBY.out] at hlen
 have HLEN:=Lib.hid hlen
 clear hlen
 obtain ⟨n,hn⟩:∃ n:Int,(bx:Int) - (bYl:Int)=n:=⟨_,rfl⟩
 obtain ⟨m,hm⟩:∃ m:Int,-n=m:=⟨_,rfl⟩
 have hwr:IntKind.i64.wrap m=m:=wrap64 _ (by omega) (by omega)
 have hwn:IntKind.i64.wrap n=n:=wrap64 _ (by omega) (by omega)
 have hn1' : -20000≤n:=by omega
 have hn2':n≤20000:=by omega
 obtain ⟨b,HB⟩:∃ b,Hid (decide (x * 2 ^ m.toNat<y * 2 ^ (-m).toNat)=b):=⟨_,rfl⟩
 have HG:Hid (b=true↔¬ GE2 x y n):=by
  unfold Hid GE2;rw [← HB.out,decide_eq_true_iff,Nat.not_le,← hm,Int.neg_neg]
 have hmb:m.natAbs≤20000:=by omega
 have hbn : -(j:Int)≤n∧n≤j:=by omega
 have HBN:=Lib.hid hbn
 clear hbn
 have HV:=Lib.hid hv
 have HU:=Lib.hid hu
 obtain ⟨g,hg⟩:∃ g,w.heap.size=g:=⟨_,rfl⟩
 go_enter Tryz.func253,Tryz.ntmps253
 go_wp2_with fail
 generalize hW:(w.alloc (Obj.cells #[.slice Av lv cv,.slice Au lu cu] _))=W
 have hN:Nx w W:=by rw [← hW];exact nx0 _ _
 have hB1:Blk W g g #[.slice Av lv cv,.slice Au lu cu] 265:=by rw [← hW,← hg];exact Blk.new w _ _
 have q0:∀ x:Gr W,x.1.cell? ⟨g,0,none⟩=some (.slice Av lv cv):=fun x=>(hB1.below x.2).cell 0
 have q1:∀ x:Gr W,x.1.cell? ⟨g,1,none⟩=some (.slice Au lu cu):=fun x=>(hB1.below x.2).cell 1
 refine wp_region_hyb [(0,true),(1,true),(3,true),(4,true),(2,false),(5,false),(6,true),(7,true)] rfl (by kernel_rfl) ?_
 iterate 4 (refine hyb_calm rfl (fun K hK=>?_);go_simp;refine hK _ ?_;clear hK K)
 refine hyb_alone rfl (fun w1 hn1 K hK=>?_)
 go_simp
 refine (bits_n _ x KB _ ((hv.below (Nx.trans hN hn1)).few hx (by omega)) KB_le).mono ?_;rintro e w' ⟨rfl,rfl⟩
 rw [HBX.out]
 refine hK _ _ (Nx.refl _) ?_
 clear hK K
 refine hyb_alone rfl (fun w2 hn2 K hK=>?_)
 go_simp
 refine (bits_n _ y KB _ ((hu.below (Nx.trans (Nx.trans hN hn1) hn2)).few hy (by omega)) KB_le).mono ?_;rintro e w' ⟨rfl,rfl⟩
 rw [HBY.out]
 refine hK _ _ (Nx.refl _) ?_
 clear hK K
 iterate 2 (refine hyb_calm rfl (fun K hK=>?_);go_simp;refine hK _ ?_;clear hK K)
 refine hyb_nil (fun w3 hn3=>?_)
 have hN3:Nx w w3:=Nx.trans (Nx.trans (Nx.trans hN hn1) hn2) hn3
 have hB3:=hB1.below (Nx.trans (Nx.trans hn1 hn2) hn3)
 have c0:w3.cell? ⟨g,0,none⟩=some (.slice Av lv cv):=hB3.cell 0
 have c1:w3.cell? ⟨g,1,none⟩=some (.slice Au lu cu):=hB3.cell 1
 clear q0 q1
 go_wp2_with fail
 refine (timesTwo_any _ x y j m _ (HX.out.below hN3) (by omega) (by omega) (by omega)).mono ?_;rintro e w4 ⟨r4,rfl,hR4,hw4⟩
 obtain ⟨v4,u4,rfl,hv4,hu4,hx4,hy4⟩:=hR4
 have HR4:=Lib.hid (show Ra w4 (.agg #[v4,u4]) _ _ _ from ⟨v4,u4,rfl,hv4,hu4,hx4,hy4⟩)
 clear hv4 hu4 hx4 hy4
 go_wp2_with fail
 refine (below1_any _ _ _ _ _ HR4.out (by omega)).mono ?_;rintro e w5 ⟨rfl,hw5⟩
 rw [HB.out]
 have hN5:Nx w w5:=Nx.trans (Nx.trans hN3 hw4) hw5
 have hl:=HLEN.out
 rw [hn] at hl
 have HL:=Lib.hid hl
 clear hl hn hm
 cases b
 ·go_wp2_with fail
  go_ret
  refine ⟨n,rfl,⟨?_,HL.out.2⟩,by have:=HBN.out;omega,HBN.out.2,hN5⟩
  have:=HG.out
  simpa using this
 ·go_wp2_with fail
  go_ret
  refine ⟨n - 1,rfl,⟨HL.out.1,?_⟩,by have:=HBN.out;omega,by have:=HBN.out;omega,hN5⟩
  rw [Int.sub_add_cancel]
  have:=HG.out;simpa using this
set_option maxRecDepth 100000 in
set_option maxHeartbeats 1600000 in
theorem rounded_any (r:Value) (x y j:Nat) (w:World) (h:Ra w r x y j) (hj:j≤100000) (hy0:y≠0) (hq:rnd x y<18446744073709551616) :
  Calls Tryz.prog 255 #[r] w fun e w'=>e = .returned (.int .u64 (rnd x y:Nat))∧Nx w w':=by
 obtain ⟨v,u,rfl,hv,hu,hx,hy⟩:=h
 obtain ⟨Av,lv,cv,rfl⟩:=hv.sl
 obtain ⟨Au,lu,cu,rfl⟩:=hu.sl
 obtain ⟨q,HQ⟩:∃ q,Hid (x / y=q):=⟨_,rfl⟩
 obtain ⟨s,HS⟩:∃ q,Hid (x % y=q):=⟨_,rfl⟩
 obtain ⟨C,HC⟩:∃ C,Hid (cmpI (s * 2) y=C):=⟨_,rfl⟩
 have hsx:s<2 ^ j:=Nat.lt_of_le_of_lt (by rw [← HS.out];exact Nat.mod_le _ _) hx
 have hlo:=rnd_lo x y
 rw [HQ.out] at hlo
 have hq64:q<18446744073709551616:=by omega
 have hrn:rnd x y=if C=1∨C=0∧q % 2=1 then q+1 else q:=by
  unfold rnd
  rw [HQ.out,HS.out,← HC.out]
  unfold cmpI
  by_cases h1:s * 2<y
  ·rw [if_pos h1,if_neg (by omega),if_neg (by omega)]
  ·by_cases h2:y<s * 2
   ·rw [if_neg h1,if_pos h2,if_pos (by omega),if_pos (by omega)]
   ·rw [if_neg h1,if_neg h2]
    by_cases h3:q % 2=1
    ·rw [if_pos (by omega),if_pos (by omega)]
    ·rw [if_neg (by omega),if_neg (by omega)]
 have hcv:C=1∨C=0∨C = -1:=by
  rw [← HC.out];unfold cmpI;split
  ·exact .inr (.inr rfl)
  ·split
   ·exact .inl rfl
   ·exact .inr (.inl rfl)
 have HRN:=Lib.hid hrn
 have HQL:=Lib.hid hq
 have hmod:q % 18446744073709551616=q:=Nat.mod_eq_of_lt hq64
 have HM:=Lib.hid hmod
 have hq0:(q:Int)≤18446744073709551615:=by omega
 clear hrn hlo hmod hq hq64
 obtain ⟨g,hg⟩:∃ g,w.heap.size=g:=⟨_,rfl⟩
 go_enter Tryz.func255,Tryz.ntmps255
 go_wp2_with fail
 have hN:Nx w (w.alloc (Obj.cells #[.slice Av lv cv,.slice Au lu cu] 265)):=nx0 _ _
 have hB1:Blk (w.alloc (Obj.cells #[.slice Av lv cv,.slice Au lu cu] 265)) g g #[.slice Av lv cv,.slice Au lu cu] 265:=by rw [← hg];exact Blk.new w _ _
 refine (div_n _ _ x y KB _ ((hv.below hN).few hx (by omega)) ((hu.below hN).few hy (by omega)) KB_le).mono ?_;rintro e w1 ⟨vq,vr,ok,rfl,hdiv,hw1⟩
 unfold DivN at hdiv
 rw [if_neg hy0,HQ.out,HS.out] at hdiv
 obtain ⟨hvq,hvr,rfl⟩:=hdiv
 have hN1:=Nx.trans hN hw1
 have hB2:=hB1.below hw1
 have c0:w1.cell? ⟨g,0,none⟩=some (.slice Av lv cv):=hB2.cell 0
 have c1:w1.cell? ⟨g,1,none⟩=some (.slice Au lu cu):=hB2.cell 1
 obtain ⟨Aq,lq,cq,rfl⟩:=hvq.sl
 obtain ⟨Ar,lr,cr,rfl⟩:=hvr.sl
 go_wp2_with fail
 refine (low_n _ q 2 _ (hvq.num (by omega)) (by decide)).mono ?_;rintro e w' ⟨rfl,rfl⟩
 rw [HM.out]
 go_wp2_with fail
 have q0:∀ x:Gr w1,x.1.cell? ⟨g,0,none⟩=some (.slice Av lv cv):=fun x=>(hB2.below x.2).cell 0
 have q1:∀ x:Gr w1,x.1.cell? ⟨g,1,none⟩=some (.slice Au lu cu):=fun x=>(hB2.below x.2).cell 1
 refine wp_region_hyb [(0,true),(2,true),(3,true),(1,false),(4,false),(5,true)] rfl (by kernel_rfl) ?_
 iterate 3 (refine hyb_calm rfl (fun K hK=>?_);go_simp;refine hK _ ?_;clear hK K)
 refine hyb_alone rfl (fun w2 hn2 K hK=>?_)
 go_simp
 refine (shl_n _ s KB 1 _ ((hvr.below hn2).few hsx (by omega)) KB_le (by decide) (by decide)).mono ?_;rintro e w3 ⟨v3,rfl,hv3,hw3⟩
 have hv3:=hv3.cast (show shV s 1=s * 2 from rfl)
 refine hK _ _ hw3 ?_
 clear hK K
 refine hyb_alone rfl (fun w4 hn4 K hK=>?_)
 go_simp
 have hN4:Nx w w4:=Nx.trans (Nx.trans (Nx.trans hN1 hn2) hw3) hn4
 refine (cmp_n _ _ (s * 2) y KB _ ((hv3.below hn4).few (show s * 2<2 ^ (j+1) by rw [Nat.pow_succ];omega) (by omega)) ((hu.below hN4).few hy (by omega)) KB_le).mono ?_;rintro e w5 ⟨rfl,hw5⟩
 rw [HC.out]
 refine hK _ _ hw5 ?_
 clear hK K
 refine hyb_calm rfl (fun K hK=>?_);go_simp;refine hK _ ?_;clear hK K
 refine hyb_nil (fun w6 hn6=>?_)
 have hN6:Nx w w6:=Nx.trans (Nx.trans hN4 hw5) hn6
 clear q0 q1 c0 c1
 have hup:∀ Q:Nat,rnd x y=Q→(Q:Int)≤18446744073709551615:=fun Q h=>by have:=HQL.out;omega
 have HUP:=Lib.hid hup
 clear hup
 rcases hcv with rfl | rfl | rfl
 ·have hr1:rnd x y=q+1:=by rw [HRN.out,if_pos (.inl rfl)]
  have hq1:=HUP.out _ hr1
  have hq2:(q:Int)≤18446744073709551614:=by omega
  have HR1:=Lib.hid hr1
  clear hr1 hq1
  go_wp2_with fail
  go_ret
  exact ⟨by rw [HR1.out];rfl,hN6⟩
 ·by_cases hodd:q % 2=1
  ·have hr1:rnd x y=q+1:=by rw [HRN.out,if_pos (.inr ⟨rfl,hodd⟩)]
   have hq1:=HUP.out _ hr1
   have hq2:(q:Int)≤18446744073709551614:=by omega
   have b1:((q:Int) % 2 == 1)=true:=by rw [beq_iff_eq];omega
   have HR1:=Lib.hid hr1
   clear hr1 hq1 hodd
   go_wp2_with fail
   go_ret
   exact ⟨by rw [HR1.out];rfl,hN6⟩
  ·have hr1:rnd x y=q:=by rw [HRN.out,if_neg (by omega)]
   have b1:((q:Int) % 2 == 1)=false:=by rw [beq_eq_false_iff_ne];omega
   have HR1:=Lib.hid hr1
   clear hr1 hodd
   go_wp2_with fail
   go_ret
   exact ⟨by rw [HR1.out];rfl,hN6⟩
 ·have hr1:rnd x y=q:=by rw [HRN.out,if_neg (by omega)]
  have HR1:=Lib.hid hr1
  clear hr1
  go_wp2_with fail
  go_ret
  exact ⟨by rw [HR1.out];rfl,hN6⟩
end Go.Proofs.YtpbjkgpdkopgmaaGreatDoor
