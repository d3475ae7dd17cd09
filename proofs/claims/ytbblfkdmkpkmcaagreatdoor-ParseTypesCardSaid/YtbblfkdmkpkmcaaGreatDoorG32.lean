/- The contracts of the document's reading of kinds: Head, Wire, Depth. The laws' test of whether kind does anything yet; and what is shown comes back. KindBack: what is shown has that head, and parts are types in their turn. The contracts of the document's reading of kinds: Depth. KindNests: how deep types may lie. KindNames: names stand in order. A region that draws its order, holds calls that make memory, and ends in a store: the walk of Hyb, the store aside. Plain. The contracts of the document's reading of kinds: Names. KindAll: the program and the document's answer say the same of every text. -/
import Derived.Test.YtbblfkdmkpkmcaaGreatDoorG31
import Derived.Test.YtbblfkdmkpkmcaaGreatDoorG09
import Derived.Test.YtbblfkdmkpkmcaaGreatDoorG02
set_option linter.unusedVariables false
set_option linter.unusedSimpArgs false
set_option linter.unnecessarySimpa false
namespace Go.Proofs.YtbblfkdmkpkmcaaGreatDoor
open Go.RowKit
set_option maxRecDepth 100000 in
set_option maxHeartbeats 6400000 in
theorem rhead_any (w:World) (s:ByteArray) (l:List UInt8) (hl:Tx s l) (hs:(l.length:Int)≤8000) :
  Calls Tryz.prog 22 #[.string s] w fun e w'=>e = .returned (.tuple #[.agg #[.int .i64 ((headW l).1:Nat),.string (bA (headW l).2.1),.string (bA (headW l).2.2.1),.string (bA (headW l).2.2.2)],.int .i64 ((wholeT l).1:Nat)])∧Nx w w':=by
 have hz:(s.size:Int)=(l.length:Int):=by rw [hl.size]
 obtain ⟨g,hg⟩:∃ g,w.heap.size=g:=⟨_,rfl⟩
 have hT0:=Blk.new w #[.int .i64 0,.string ⟨#[]⟩,.string ⟨#[]⟩,.string ⟨#[]⟩] 59
 have hN0:Nx w (w.alloc (Obj.cells #[.int .i64 0,.string ⟨#[]⟩,.string ⟨#[]⟩,.string ⟨#[]⟩] 59)):=nx0 _ _
 have hC0:=Blk.new (w.alloc (Obj.cells #[.int .i64 0,.string ⟨#[]⟩,.string ⟨#[]⟩,.string ⟨#[]⟩] 59)) #[.string s,.int .i64 0,.int .i64 0] 97
 have hT1:=hT0.alloc (.cells #[.string s,.int .i64 0,.int .i64 0] 97)
 have hN1:=hN0.al (.cells #[.string s,.int .i64 0,.int .i64 0] 97)
 have e1:(w.alloc (Obj.cells #[.int .i64 0,.string ⟨#[]⟩,.string ⟨#[]⟩,.string ⟨#[]⟩] 59)).heap.size=g+1:=by simp [← hg]
 rw [e1] at hC0
 rw [hg] at hT1
 obtain ⟨b,hb⟩:∃ b,g+1=b:=⟨_,rfl⟩
 rw [hb] at hC0
 have hgb:g≠b:=by omega
 have hbg:b≠g:=by omega
 have HC1:=Lib.hid hC0
 have HT1:=Lib.hid hT1
 have HN1:=Lib.hid hN1
 have HG:=Lib.hid hg
 have HB:=Lib.hid hb
 have HL:=Lib.hid hl
 have hn:=fun w' (h:TyC w' b s 0 0)=>node_all 12 b s l 0 w' 1 rfl (by decide) h hl (Nat.zero_le _) hs
 rw [List.drop_zero] at hn
 obtain ⟨P,hP⟩:∃ P,Hid (parT 12 l=P):=⟨_,rfl⟩
 have hWT:wholeT l=if P.1≠0 then (P.1,.bs 0) else if P.2.2<l.length then (2,.bs 0) else (0,P.2.1):=by unfold wholeT;rw [hP.out]
 rw [hP.out] at hn
 have HNn:=Lib.hid hn
 have HWT:=Lib.hid hWT
 clear hT0 hN0 hC0 hT1 hN1 e1 hl hn hWT
 go_enter Tryz.func22,Tryz.ntmps22
 go_wp2_with fail
 generalize hW:World.alloc (World.alloc _ _) _=w1
 rw [hW] at HC1 HT1 HN1
 clear hW
 refine (HNn.out w1 ⟨Nat.zero_le _,HC1.out.2⟩).mono ?_;rintro e w3 ⟨k,N,A,B,o',rfl,hC3,-,ho',hO3,hok⟩
 have HC3:=Lib.hid hC3
 have HO3:=Lib.hid hO3
 have HOK:=Lib.hid hok
 have HT3:=Lib.hid (hO3.blk HT1.out hgb)
 clear hC3 hO3 hok hg hb
 obtain ⟨g5,hg5⟩:∃ g5,w3.heap.size=g5:=⟨_,rfl⟩
 have hB4:=Blk.new w3 #[.int .i64 k,.string N,.string A,.string B] 59
 rw [hg5] at hB4
 have HB4:=Lib.hid hB4
 have HC4:Hid (TyC (w3.alloc (.cells #[.int .i64 k,.string N,.string A,.string B] 59)) b s o' P.1):=HC3.out.below (nx0 _ _)
 have HT4:=Lib.hid (HT3.out.alloc (.cells #[.int .i64 k,.string N,.string A,.string B] 59))
 have HO4:Hid (Oth b w1 (w3.alloc (.cells #[.int .i64 k,.string N,.string A,.string B] 59))):=HO3.out.trans (Oth.nx (nx0 _ _))
 have hg5b:g5≠b:=by have:=HC3.out.lt;omega
 have hg5g:g5≠g:=by have:=HT3.out.lt;omega
 have hbg5:=Ne.symm hg5b
 have hgg5:=Ne.symm hg5g
 clear hB4
 go_upto_region 3 with fail
 generalize hW4:World.alloc w3 _=w4
 rw [hW4] at HB4 HC4 HT4 HO4
 clear hW4
 have hNw:Nx w w4:=HO4.out.to HN1.out (by have:=HG.out;have:=HB.out;omega)
 have HNW:=Lib.hid hNw
 have hgw:w.heap.size≤g:=by rw [HG.out];exact Nat.le_refl _
 have hbw:w.heap.size≤b:=by have:=HG.out;have:=HB.out;omega
 have HGW:=Lib.hid hgw
 have HBW:=Lib.hid hbw
 clear hNw hgw hbw
 obtain ⟨c0,c1,c2,f1,f2⟩:=HC4.out.cells
 obtain ⟨n0,n1,n2,n3,m0,m1,m2,m3⟩:=cells4 HT4.out
 obtain ⟨p0,p1,p2,p3,q0,q1,q2,q3⟩:=cells4 HB4.out
 by_cases hp1:P.1=0
 ·obtain ⟨h1,h2⟩:=HOK.out hp1
  rw [Nat.zero_add] at h1
  rw [hp1] at c2
  have c2:w4.cell? ⟨b,2,none⟩=some (.int .i64 0):=c2
  by_cases hlt:P.2.2<l.length
  ·have b3:decide ((o':Int)<(l.length:Int))=true:=decide_eq_true (by omega)
   have b4:o'<l.length:=by omega
   have HR:Hid (wholeT l=(2,.bs 0)):=by unfold Hid;rw [HWT.out,if_neg (by simpa using hp1),if_pos hlt]
   clear hp1 hlt h1 h2
   go_wp2_with fail
   all_goals go_region
   all_goals go_wp2_with fail
   all_goals
    have hB5:=HT4.out.other hbg 2 (.int .i64 2)
    refine bodyPost_ret (results_cell_tmp_rowK rfl _ _ g _ _ _ _ rfl (hB5.put4.drew 1).2 Tryz.underlying59 rfl (by kernel_rfl)) rfl ?_
    refine ⟨?_,(((HNW.out.put' HBW.out 2 _).put4 HGW.out).dr 1)⟩
    unfold headW
    rw [HR.out]
    rfl
  ·have b3:decide ((o':Int)<(l.length:Int))=false:=decide_eq_false (by omega)
   have b4:¬ o'<l.length:=by omega
   have HR:Hid (wholeT l=(0,P.2.1)):=by unfold Hid;rw [HWT.out,if_neg (by simpa using hp1),if_neg hlt]
   have HH:=Lib.hid h2
   clear hp1 hlt h1 h2
   go_wp2_with fail
   refine bodyPost_ret (results_cell_tmp_rowK rfl _ _ g _ _ _ _ rfl HT4.out.put4.2 Tryz.underlying59 rfl (by kernel_rfl)) rfl ?_
   refine ⟨?_,HNW.out.put4 HGW.out⟩
   obtain ⟨h1,h2,h3,h4⟩:=HH.out
   unfold headW
   rw [HR.out,if_neg (by simp)]
   dsimp only
   rw [← h1,← bA_tx h2,← bA_tx h3,← bA_tx h4]
   rfl
 ·have b1:((P.1:Int) == 0)=false:=by rw [beq_eq_false_iff_ne];omega
  have b2:((P.1:Int) != 0)=true:=by rw [bne_iff_ne];omega
  have HR:Hid (wholeT l=(P.1,.bs 0)):=by unfold Hid;rw [HWT.out,if_pos hp1]
  have HP1:=Lib.hid hp1
  clear hp1
  go_wp2_with fail
  all_goals go_region
  all_goals go_wp2_with fail
  all_goals
   refine bodyPost_ret (results_cell_tmp_rowK rfl _ _ g _ _ _ _ rfl (HT4.out.put4.drew 1).2 Tryz.underlying59 rfl (by kernel_rfl)) rfl ?_
   refine ⟨?_,(HNW.out.put4 HGW.out).dr 1⟩
   unfold headW
   rw [HR.out,if_pos HP1.out]
   rfl
end Go.Proofs.YtbblfkdmkpkmcaaGreatDoor
namespace Go.Proofs.YtbblfkdmkpkmcaaGreatDoor
open Go.RowKit
end Go.Proofs.YtbblfkdmkpkmcaaGreatDoor
namespace Go.Proofs.YtbblfkdmkpkmcaaGreatDoor
open Go.RowKit
end Go.Proofs.YtbblfkdmkpkmcaaGreatDoor
namespace Go.Proofs.YtbblfkdmkpkmcaaGreatDoor
open Go.RowKit
theorem headW_show (t:Ty) (h:wfT t) (hd:depthT t≤12):headW (showT t)=headT t:=by
 unfold headW;rw [wholeT_full t h hd,if_neg (by simp)]
def HeadS (w:World) (s:ByteArray) (K:Nat) (N A B:ByteArray) (E:Nat):Prop :=
 Calls Tryz.prog 22 #[.string s] w fun e w'=>e = .returned (.tuple #[.agg #[.int .i64 (K:Int),.string N,.string A,.string B],.int .i64 (E:Int)])∧Nx w w'
theorem rhead_tree (t:Ty) (h:wfT t) (hd:depthT t≤12) (w:World) (s:ByteArray) (hx:Tx s (showT t)) (hs:((showT t).length:Int)≤8000):HeadS w s (headT t).1 (bA (headT t).2.1) (bA (headT t).2.2.1) (bA (headT t).2.2.2) 0:=by
 have:=rhead_any w s (showT t) hx hs
 rw [headW_show t h hd,wholeT_full t h hd] at this
 exact this
theorem show_len (t:Ty):(∀ k a,t = .l1 k a→(showT a).length≤(showT t).length)∧(∀ a b,t = .mp a b→(showT a).length≤(showT t).length∧(showT b).length≤(showT t).length):=by
 constructor
 ·rintro k a rfl;simp [showT];omega
 ·rintro a b rfl;simp [showT];omega
end Go.Proofs.YtbblfkdmkpkmcaaGreatDoor
namespace Go.Proofs.YtbblfkdmkpkmcaaGreatDoor
open Go.RowKit
theorem Tx.app {a b:ByteArray} {la lb:List UInt8} (h:Tx a la) (g:Tx b lb):Tx (a++b) (la++lb):=by
 unfold Tx at *
 rw [← h,← g]
 simp [ByteArray.data_append]
end Go.Proofs.YtbblfkdmkpkmcaaGreatDoor
namespace Go.Proofs.YtbblfkdmkpkmcaaGreatDoor
open Go.RowKit
theorem OwnN.one (w:World) (y:ByteArray) (B:Nat) (hB:B≤w.heap.size):OwnN (w.alloc (.cells #[.string y] 9)) B (.slice (some ⟨w.heap.size,0,none⟩) 1 1) [y] :=
 ⟨rfl,.inr ⟨w.heap.size,1,#[.string y],rfl,hB,heap_alloc_new w _,Nat.le_refl _,by decide,rfl,rfl⟩⟩
theorem Nx.grownBy {w w1 w':World} {v:Value} (hn:Nx w w1) (h:w1.grownBy w' v.ownBlock) (hv:∀ k,v.ownBlock=some k→w.heap.size≤k):Nx w w' :=
 ⟨h.os.trans hn.os,h.tape.trans hn.tape,h.output.trans hn.output,Nat.le_trans hn.size h.size,fun k hk=>(h.block k (Nat.lt_of_lt_of_le hk hn.size) (fun e=>by have:=hv k e.symm;omega)).trans (hn.block k hk)⟩
end Go.Proofs.YtbblfkdmkpkmcaaGreatDoor
namespace Go.Proofs.YtbblfkdmkpkmcaaGreatDoor
open Go.RowKit
namespace EF
section
variable {st:Nat} {P:Program} {ops:Array Oper} {md:Region.Mode}
def GA (st:Nat) (P:Program) (md:Region.Mode) (ops:Array Oper) (Q:Act→World→Prop):Nat→Array Bool→Act→World→Prop
 | 0,listed,a,w=>Region.ready md ops listed=[]∧∀ w1,Nx w w1→Q a w1
 | f+1,listed,a,w=>∀ w1,Nx w w1→(Region.ready md ops listed=[]→Q a w1) ∧
   ∀ i ∈ Region.ready md ops listed,gOp P ops i (fun a' w'=>(i=st∨Nx w1 w')∧GA st P md ops Q f (listed.setIfInBounds i true) a' w') a w1
theorem GA.grow {Q:Act→World→Prop} {f:Nat} {listed:Array Bool} {a:Act} {w w1:World} (h:GA st P md ops Q f listed a w) (hn:Nx w w1):GA st P md ops Q f listed a w1:=by
 cases f with
 | zero=>exact ⟨h.1,fun w2 h2=>h.2 w2 (hn.trans h2)⟩
 | succ f=>exact fun w2 h2=>h w2 (hn.trans h2)
theorem wpAny_of_GA {Q:Act→World→Prop} {Q':Exit→Act→World→Prop} (hQ:∀ a w,Q a w→Q' .normal a w):∀ (f:Nat) (listed:Array Bool) (a:Act) (w:World),
  GA st P md ops Q f listed a w→wpAny P md ops Q' f listed a w
 | 0,_,_,w,h=>⟨h.1,hQ _ _ (h.2 w (Nx.refl w))⟩
 | f+1,listed,a,w,h=>by
  refine ⟨fun h0=>hQ _ _ ((h w (Nx.refl w)).1 h0),fun i hi=>?_⟩
  have:=(h w (Nx.refl w)).2 i hi
  unfold gOp at this
  unfold wpOp
  split
  ·rename_i ho;simp only [ho] at this;exact wpAny_of_GA hQ f _ _ _ this.2
  ·rename_i o ho
   simp only [ho] at this
   split
   ·rename_i hw;simp only [hw,if_true] at this;exact .inl (wp_mono_both (fun a' w' h'=>wpAny_of_GA hQ f _ _ _ h'.2) this trivial)
   ·rename_i hw;simp only [hw] at this;exact wpAny_of_GA hQ f _ _ _ this.2
theorem GA_first {Q:Act→World→Prop} {i:Nat} {oi:Oper} {v:Value} (hi:ops[i]? = some oi) (hsel:∀ (j:Nat) (o:Oper) cs b,ops[j]? = some o→o.op≠.select cs b)
  (D:Nat→Bool) (hD1:D st=true) (hD2:∀ j o,ops[j]? = some o→D j=true→∃ e ∈ o.after,Region.binds md e=true∧(e.on=i∨D e.on=true)) :
  ∀ (f:Nat) (listed:Array Bool) (a:Act) (w:World),
   (∀ j oj,ops[j]? = some oj→j≠i→listed.getD j true=false→(∀ e ∈ oj.after,Region.binds md e=true→e.on≠i)→oi.apart ops oj=true) →
   (∀ j,D j=true→listed.getD j true=false) →
   i ∈ Region.ready md ops listed→YG P ops w oi v a →
   GA st P md ops Q f (listed.setIfInBounds i true) (a.put oi.dst v) w→GA st P md ops Q (f+1) listed a w:=by
 intro f
 induction f with
 | zero =>
  intro listed a w _ _ hr hy H w1 hn
  refine ⟨fun h=>(by rw [h] at hr;cases hr),fun j hj=>?_⟩
  by_cases hji:j=i
  ·subst hji;exact (hy.grow hn).gOp hi ⟨.inr (Nx.refl _),H.grow hn⟩
  ·have:=ready_mono hj hji
   rw [H.1] at this
   cases this
 | succ f ih =>
  intro listed a w hfree hl hr hy H w1 hn
  refine ⟨fun h=>(by rw [h] at hr;cases hr),fun j hj=>?_⟩
  by_cases hji:j=i
  ·subst hji;exact (hy.grow hn).gOp hi ⟨.inr (Nx.refl _),H.grow hn⟩
  ·have h1:=(H w1 hn).2 j (ready_mono hj hji)
   obtain ⟨hjun,oj,hoj,hall⟩:=mem_ready.1 hj
   have hnot:∀ e ∈ oj.after,Region.binds md e=true→e.on≠i:=fun e he hb heq=>by
    have h1:=hall e he hb
    have h0:=(mem_ready.1 hr).1
    rw [heq] at h1
    rcases Nat.lt_or_ge i listed.size with h' | h'
    ·simp [h'] at h0 h1;rw [h0] at h1;cases h1
    ·simp [Array.getElem?_eq_none h'] at h1
   have h2:=gOp_put hoj (hfree j oj hoj hji hjun hnot) (fun cs b=>hsel i oi cs b hi) (fun cs b=>hsel j oj cs b hoj) (hy.grow hn) h1
   have hfree':∀ k ok,ops[k]? = some ok→k≠i→(listed.setIfInBounds j true).getD k true=false →
     (∀ e ∈ ok.after,Region.binds md e=true→e.on≠i)→oi.apart ops ok=true:=fun k ok hk hki hun hno=>by
    refine hfree k ok hk hki ?_ hno
    by_cases hjk:j=k
    ·subst hjk;exact hjun
    ·rw [getD_set_ne true hjk] at hun;exact hun
   have hjD:D j=false:=by
    rw [Bool.eq_false_iff]
    intro hd
    obtain ⟨e,he,hb,heq⟩:=hD2 j oj hoj hd
    rcases heq with heq | heq
    ·exact hnot e he hb heq
    ·have h1:=hall e he hb
     have h0:=hl _ heq
     rcases Nat.lt_or_ge e.on listed.size with h' | h'
     ·simp [h'] at h0 h1;rw [h0] at h1;cases h1
     ·simp [Array.getElem?_eq_none h'] at h1
   have hjst:j≠st:=by
    rintro rfl
    rw [hD1] at hjD;cases hjD
   have hl':∀ k,D k=true→(listed.setIfInBounds j true).getD k true=false:=fun k hk=>by
    have hne:j≠k:=by rintro rfl;rw [hk] at hjD;cases hjD
    rw [getD_set_ne true hne];exact hl k hk
   refine gOp_mono (fun a' w' h3=>have hN:=h3.2.1.resolve_left hjst;⟨.inr hN,ih (listed.setIfInBounds j true) a' w' hfree' hl' (ready_mono hr (Ne.symm hji)) (h3.1.grow hN) ?_⟩) h2
   rw [Array.setIfInBounds_comm _ _ hji]
   exact h3.2.2
def wpHyb (st:Nat) (P:Program) (ops:Array Oper) (Q:Act→World→Prop):List (Nat×Bool)→Act→World→Prop
 | [],a,w=>∀ w1,Nx w w1→Q a w1
 | (k,true) :: rest,a,w=>match ops[k]? with
  | none=>False
  | some o=>if Region.wanted o (yielded ops a.tmps) then calm P o a w (fun a'=>wpHyb st P ops Q rest a' w) else wpHyb st P ops Q rest (a.put o.dst undef) w
 | (k,false) :: rest,a,w=>∀ w1,Nx w w1→match ops[k]? with
  | none=>False
  | some o=>if Region.wanted o (yielded ops a.tmps) then o.wp P a w1 (fun a' w'=>(k=st∨Nx w1 w')∧wpHyb st P ops Q rest a' w') (fun _ _ _=>False) else wpHyb st P ops Q rest (a.put o.dst undef) w1
def dep (md:Region.Mode) (ops:Array Oper) (k:Nat):Nat→Nat→Bool
 | 0,_=>false
 | f+1,j=>match ops[j]? with
  | some o=>o.after.any (fun e=>Region.binds md e && (e.on == k || dep md ops k f e.on))
  | none=>false
def edge (st:Nat) (md:Region.Mode) (ops:Array Oper) (k:Nat) (listed:Array Bool):Bool :=
 dep md ops k ops.size st && (List.range ops.size).all (fun j=>!dep md ops k ops.size j || ((match ops[j]? with | some o=>o.after.any (fun e=>Region.binds md e && (e.on == k || dep md ops k ops.size e.on)) | none=>false) && !listed.getD j true))
theorem edge_spec {st k:Nat} {listed:Array Bool} (h:edge st md ops k listed=true):dep md ops k ops.size st=true∧(∀ j o,ops[j]? = some o→dep md ops k ops.size j=true→∃ e ∈ o.after,Region.binds md e=true∧(e.on=k∨dep md ops k ops.size e.on=true))∧∀ j,dep md ops k ops.size j=true→listed.getD j true=false:=by
 unfold edge at h
 simp only [Bool.and_eq_true,List.all_eq_true,List.mem_range] at h
 obtain ⟨h1,h2⟩:=h
 have hlt:∀ j,dep md ops k ops.size j=true→j<ops.size:=by
  intro j hj
  rcases Nat.lt_or_ge j ops.size with h | h
  ·exact h
  ·exfalso
   generalize ops.size=f at hj
   cases f with
   | zero=>cases hj
   | succ f=>unfold dep at hj;rw [Array.getElem?_eq_none h] at hj;cases hj
 refine ⟨h1,fun j o ho hj=>?_,fun j hj=>?_⟩
 ·have:=h2 j (hlt j hj)
  rw [hj,ho] at this
  simp only [Bool.not_true,Bool.false_or,Bool.and_eq_true] at this
  obtain ⟨e,he,hb⟩:=Array.any_eq_true'.1 this.1
  simp only [Bool.and_eq_true,Bool.or_eq_true,beq_iff_eq] at hb
  exact ⟨e,he,hb.1,hb.2⟩
 ·have:=h2 j (hlt j hj)
  rw [hj] at this
  simp only [Bool.not_true,Bool.false_or,Bool.and_eq_true,Bool.not_eq_true'] at this
  exact this.2
def hybFrom (st:Nat) (md:Region.Mode) (ops:Array Oper):List (Nat×Bool)→Array Bool→Bool
 | [],listed=>(Region.ready md ops listed).isEmpty
 | (k,true) :: rest,listed=>(Region.ready md ops listed).contains k && Region.free md ops listed k && edge st md ops k listed && hybFrom st md ops rest (listed.setIfInBounds k true)
 | (k,false) :: rest,listed=>Region.ready md ops listed == [k] && hybFrom st md ops rest (listed.setIfInBounds k true)
def hybB (st:Nat) (md:Region.Mode) (ops:Array Oper) (s:List (Nat×Bool)):Bool:=Region.noSelect ops && s.length == ops.size && hybFrom st md ops s (Array.replicate ops.size false)
theorem GA_hyb {Q:Act→World→Prop} (hs:Region.noSelect ops=true):∀ (s:List (Nat×Bool)) (listed:Array Bool) (a:Act) (w:World),
  hybFrom st md ops s listed=true→wpHyb st P ops Q s a w→GA st P md ops Q s.length listed a w
 | [],listed,a,w,hB,h=>⟨by simpa [hybFrom] using hB,h⟩
 | (k,true) :: rest,listed,a,w,hB,h=>by
  simp only [hybFrom,Bool.and_eq_true] at hB
  obtain ⟨⟨⟨hr,hf⟩,hed⟩,hB'⟩:=hB
  have hr':k ∈ Region.ready md ops listed:=by simpa using hr
  obtain ⟨_,o,ho,_⟩:=mem_ready.1 hr'
  simp only [wpHyb,ho] at h
  by_cases hw:Region.wanted o (yielded ops a.tmps)=true
  ·simp only [hw,if_true] at h
   obtain ⟨v,h1,h2⟩:=h
   exact GA_first ho (Region.noSelect_spec hs) _ (edge_spec hed).1 (edge_spec hed).2.1 rest.length listed a w (Region.free_spec ho hf) (edge_spec hed).2.2 hr' (.inl ⟨hw,h1⟩) (GA_hyb hs rest _ _ _ hB' h2)
  ·simp only [hw] at h
   exact GA_first ho (Region.noSelect_spec hs) _ (edge_spec hed).1 (edge_spec hed).2.1 rest.length listed a w (Region.free_spec ho hf) (edge_spec hed).2.2 hr' (.inr ⟨by simpa using hw,rfl⟩) (GA_hyb hs rest _ _ _ hB' h)
 | (k,false) :: rest,listed,a,w,hB,h=>by
  simp only [hybFrom,Bool.and_eq_true,beq_iff_eq] at hB
  obtain ⟨hr,hB'⟩:=hB
  intro w1 hn
  refine ⟨fun h0=>(by rw [hr] at h0;cases h0),fun i hi=>?_⟩
  rw [hr] at hi
  obtain rfl:i=k:=by simpa using hi
  have h:=h w1 hn
  unfold gOp
  cases ho:ops[i]? with
  | none=>rw [ho] at h;exact h.elim
  | some o =>
   rw [ho] at h
   simp only at h ⊢
   by_cases hw:Region.wanted o (yielded ops a.tmps)=true
   ·simp only [hw,if_true] at h ⊢
    exact wp_mono_both (fun a' w' h'=>⟨h'.1,GA_hyb hs rest _ _ _ hB' h'.2⟩) h trivial
   ·simp only [hw] at h ⊢
    exact ⟨.inr (Nx.refl _),GA_hyb hs rest _ _ _ hB' h⟩
structure Hyb (st:Nat) (P:Program) (ops:Array Oper) (Q:Act→World→Prop) (s:List (Nat×Bool)) (a:Act) (w:World):Prop where
 out:wpHyb st P ops Q s a w
theorem wp_region_hyb {id:Nat} {Q:Exit→Act→World→Prop} {a:Act} {w:World} {l:List Oper} (s:List (Nat×Bool)) (hm:P.follows .mixedOrders=true) (hB:hybB st .any l.toArray s=true)
  (h:Hyb st P l.toArray (fun a w=>Q .normal a w) s a w):(Code.region id l.toArray true).wp P Q a w:=by
 simp only [hybB,Bool.and_eq_true,beq_iff_eq] at hB
 obtain ⟨⟨h1,h2⟩,h3⟩:=hB
 refine wp_region_any hm (wpAny_of_GA (st:=st) (Q:=fun a w=>Q .normal a w) (fun _ _ h=>h) _ _ _ _ ?_)
 have:=GA_hyb (st:=st) (md:=.any) h1 s _ _ _ h3 h.out
 rw [h2] at this
 exact this.grow (Nx.drawn w)
theorem hyb_calm {Q:Act→World→Prop} {k:Nat} {o:Oper} {rest:List (Nat×Bool)} {a:Act} {w:World} (ho:ops[k]? = some o)
  (h:∀ K:Act→Prop,(∀ a,Hyb st P ops Q rest a w→K a)→if Region.wanted o (yielded ops a.tmps) then calm P o a w K else K (a.put o.dst undef)):Hyb st P ops Q ((k,true) :: rest) a w:=by
 refine ⟨?_⟩
 simp only [wpHyb,ho]
 exact h _ (fun _ h=>h.out)
theorem hyb_alone {Q:Act→World→Prop} {k:Nat} {o:Oper} {rest:List (Nat×Bool)} {a:Act} {w:World} (ho:ops[k]? = some o)
  (h:∀ w1,Nx w w1→∀ K:Act→World→Prop,(∀ a' w',(k=st∨Nx w1 w')→Hyb st P ops Q rest a' w'→K a' w')→if Region.wanted o (yielded ops a.tmps) then o.wp P a w1 K (fun _ _ _=>False) else K (a.put o.dst undef) w1):Hyb st P ops Q ((k,false) :: rest) a w:=by
 refine ⟨?_⟩
 intro w1 hn
 simp only [ho]
 have:=h w1 hn (fun a' w'=>(k=st∨Nx w1 w')∧wpHyb st P ops Q rest a' w') (fun a' w' h1 h2=>⟨h1,h2.out⟩)
 split
 ·rename_i hw;simpa [hw] using this
 ·rename_i hw;simp [hw] at this;exact this.2
theorem hyb_nil {Q:Act→World→Prop} {a:Act} {w:World} (h:∀ w1,Nx w w1→Q a w1):Hyb st P ops Q [] a w:=⟨h⟩
end
end EF
end Go.Proofs.YtbblfkdmkpkmcaaGreatDoor
namespace Go.Proofs.YtbblfkdmkpkmcaaGreatDoor
open Go.RowKit
theorem ite_intro {c:Prop} [Decidable c] {p q:Prop} (hc:c) (h:p):if c then p else q:=by rw [if_pos hc];exact h
theorem op_appNs (w:World) {o:Oper} {a:Act} {K:Act→World→Prop} (s x:Operand)
  (ho:o.op = .call { callee:=.builtin .append,args:=#[s,x],argTypes:=#[23,23] })
  (B:Nat) (v v2:Value) (xs ys:List ByteArray) (hs:a.eval s=v) (hown:OwnN w B v xs) (hx:a.eval x=v2) (hy:OwnN w B v2 ys) (hy0:ys=[]→v2 = .slice none 0 0)
  (h63:(xs.length:Int)+(ys.length:Int)≤100000) (hB:B≤w.heap.size)
  (h:∀ v' w',OwnN w' B v' (xs++ys)→(xs++ys=[]→v' = .slice none 0 0∨xs=[]∧v≠.slice none 0 0)→w.grownBy w' v.ownBlock→K (a.put o.dst v') w'):o.wp Tryz.prog a w K (fun _ _ _=>False):=by
 obtain ⟨i,hi,hz,h1,h2⟩:=info_parts (show (Tryz.prog.info? 9).map (fun i=>(i.zero,i.size,i.bytes))=some (some (.string ⟨#[]⟩),1,16) by kernel_rfl)
 have key:∃ v' w',(Builtin.append_ #[23,23] o.type #[v,v2]).run Tryz.prog w = .ok v' w'∧OwnN w' B v' (xs++ys)∧(xs++ys=[]→v' = .slice none 0 0∨xs=[]∧v≠.slice none 0 0)∧w.grownBy w' v.ownBlock:=by
  rcases Nat.eq_zero_or_pos ys.length with h0 | h0
  ·obtain rfl:=List.eq_nil_of_length_eq_zero h0
   obtain rfl:=hy0 rfl
   rcases hown.2 with ⟨rfl,h3⟩ | ⟨g,cap,cur,rfl,hg,hh,hnc,r⟩
   ·have hx0:xs=[]:=by
     cases xs with
     | nil=>rfl
     | cons y ys=>simp [rowL,strC] at h3
    subst hx0
    refine ⟨.slice none 0 0,w,?_,OwnS.nil_ _ _,fun _=>.inl rfl,⟨rfl,rfl,rfl,Nat.le_refl _,fun _ _ _=>rfl⟩⟩
    simp [Builtin.append_,run_underlying Tryz.underlying23,sizeOf,typeInfo,hi,Builtin.lenOf,Builtin.firstCells,storeCells]
   ·refine ⟨_,w,?_,by rw [List.append_nil];exact ⟨hown.1,.inr ⟨g,cap,cur,rfl,hg,hh,hnc,r⟩⟩,fun h=>.inr ⟨by simpa using h,fun e=>by cases e⟩,⟨rfl,rfl,rfl,Nat.le_refl _,fun _ _ _=>rfl⟩⟩
    simp [Builtin.append_,run_underlying Tryz.underlying23,sizeOf,typeInfo,hi,Builtin.lenOf,Builtin.firstCells,hnc,storeCells]
  ·obtain ⟨A,c,rfl,hc1,hc2,hrd⟩:=OwnS.sl strC_size hy
   obtain ⟨g,rfl,hg,hcell⟩:=hrd h0
   have hl:(rowL strC ys).length=ys.length * 1:=rowL_length strC_size ys
   have hcells:∀ j u,(rowL strC ys)[j]? = some u→w.cell? ((⟨g,0,none⟩:Addr).add j)=some u:=by
    intro j u hu
    have hj:j<ys.length:=by
     rcases Nat.lt_or_ge j ys.length with h | h
     ·exact h
     ·rw [List.getElem?_eq_none (by rw [hl];omega)] at hu;cases hu
    rw [Addr.add_lit,Nat.zero_add]
    have e1:=hcell j hj 0 (by decide)
    have e2:=rowL_get strC_size ys j hj 0 (by decide)
    rw [show j * 1+0=j by omega] at e1 e2
    rw [e1,← e2,hu]
   have hone:∀ u ∈ rowL strC ys,u.oneCell'=true:=by
    intro u hu
    obtain ⟨y,_,hy⟩:=List.mem_flatMap.1 hu
    simp [strC] at hy
    subst hy
    rfl
   obtain ⟨v',w',hrun,ho',hg',_,_⟩:=run_append_own_at (P:=Tryz.prog) w B 23 o.type 9 i _ 1 16 Tryz.underlying23 hi hz h1 h2 rfl (by decide) v xs.length (rowL strC xs) hown ⟨g,0,none⟩ ys.length c (rowL strC ys) hl hcells hone (by simp [maxLen];omega) (by omega) hB
   refine ⟨v',w',hrun,?_,fun h=>?_,hg'⟩
   ·unfold OwnN OwnS
    rw [List.length_append]
    have e:rowL strC (xs++ys)=rowL strC xs++rowL strC ys:=by unfold rowL;simp
    rw [e]
    exact ho'
   ·have:ys=[]:=(List.append_eq_nil_iff.1 h).2
    subst this
    simp at h0
 obtain ⟨v',w',hrun,ho',hv',hg'⟩:=key
 have:=h v' w' ho' hv' hg'
 unfold Oper.wp execOp
 simp only [ho,resolve,invoke,builtin,Sem.run_bind,Sem.run_pure,Result.andThen_ok,List.map_toArray,List.map_cons,List.map_nil,hs,hx,hrun]
 exact this
def NamR (w:World) (xs:List ByteArray) (e:Ending) (w':World):Prop:=∃ v,e = .returned v∧OwnN w' w.heap.size v xs∧(xs=[]→v = .slice none 0 0)∧Nx w w'
set_option maxRecDepth 100000 in
set_option maxHeartbeats 3200000 in
theorem rnames_step (w:World) (s:ByteArray) (K Er:Nat) (N A B:ByteArray) (xa xb:List ByteArray) (hH:HeadS w s K N A B Er) (h63:(xa.length:Int)+(xb.length:Int)≤100000)
  (hA:Er=0→K=13∨K=14∨K=15→∀ w,Calls Tryz.prog 23 #[.string A] w (NamR w xa))
  (hB:Er=0→K=13→∀ w,Calls Tryz.prog 23 #[.string B] w (NamR w xb)) :
  Calls Tryz.prog 23 #[.string s] w (NamR w (if Er=0 then (if K=0 then [N] else if K=13 then xa++xb else if K=14∨K=15 then xa else []) else [])):=by
 have HH:=Lib.hid hH
 have HA:=Lib.hid hA
 have HB:=Lib.hid hB
 obtain ⟨X,hX⟩:∃ X,Hid ((if Er=0 then (if K=0 then [N] else if K=13 then xa++xb else if K=14∨K=15 then xa else []) else [])=X):=⟨_,rfl⟩
 rw [hX.out]
 clear hH hA hB
 go_enter Tryz.func23,Tryz.ntmps23
 go_wp2_with fail
 refine (show Calls _ _ _ _ _ from HH.out).mono ?_;rintro e w1 ⟨rfl,hn1⟩
 obtain ⟨g,hg⟩:∃ g,w1.heap.size=g:=⟨_,rfl⟩
 have hB2:=Blk.new w1 #[.int .i64 (K:Int),.string N,.string A,.string B] 59
 rw [hg] at hB2
 have hN2:=hn1.al (.cells #[.int .i64 (K:Int),.string N,.string A,.string B] 59)
 have HB2:=Lib.hid hB2
 have HN2:=Lib.hid hN2
 clear hB2 hN2 hn1
 go_upto_region 2 with fail
 generalize hW:World.alloc w1 _=w2
 rw [hW] at HB2 HN2
 clear hW hg
 obtain ⟨c0,c1,c2,c3,f0,f1,f2,f3⟩:=cells4 HB2.out
 by_cases hE:Er=0
 ·have z0:((Er:Int) != 0)=false:=by rw [bne_eq_false_iff_eq];omega
  have hx0:=hX.out
  rw [if_pos hE] at hx0
  have HX0:=Lib.hid hx0
  have HA:=Lib.hid (HA.out hE)
  have HB:=Lib.hid (HB.out hE)
  clear hx0 hE
  by_cases hk0:K=0
  ·have e0:((K:Int) == 0)=true:=by rw [beq_iff_eq];omega
   have HX:Hid (X=[N]):=by have:=HX0.out;rw [if_pos hk0] at this;exact this.symm
   clear hk0
   go_wp2_with fail
   go_ret
   rw [HX.out]
   exact ⟨_,rfl,(OwnN.one w2 N w.heap.size HN2.out.size),fun h=>by simp at h,HN2.out.al _⟩
  ·have e0:((K:Int) == 0)=false:=by rw [beq_eq_false_iff_ne];omega
   by_cases h13:K=13
   ·have e13:((K:Int) == 13)=true:=by rw [beq_iff_eq];omega
    have HX:Hid (X=xa++xb):=by have:=HX0.out;rw [if_neg hk0,if_pos h13] at this;exact this.symm
    have HA:=Lib.hid (HA.out (.inl h13))
    have HB:=Lib.hid (HB.out h13)
    have H63:=Lib.hid h63
    clear h13 hk0 h63
    go_wp2_with fail
    clear c0 c1 c2 c3 f0 f1 f2 f3
    have L2:∀ x:Gr w2,x.1.cell? ⟨g,2,none⟩=some (.string A):=fun x=>(HB2.out.below x.2).cell 2
    have L3:∀ x:Gr w2,x.1.cell? ⟨g,3,none⟩=some (.string B):=fun x=>(HB2.out.below x.2).cell 3
    refine EF.wp_region_hyb (st:=6) [(0,true),(1,true),(3,true),(4,true),(2,false),(5,false),(6,false),(7,false)] rfl (by kernel_rfl) ?_
    iterate 4 (refine EF.hyb_calm rfl (fun K hK=>?_);go_simp;refine hK _ ?_;clear hK K)
    clear L2 L3
    refine EF.hyb_alone rfl (fun w3 hn3 K hK=>?_)
    go_simp
    refine (HA.out w3).mono ?_;rintro e w4 ⟨v1,rfl,ho1,hv1,hw4⟩
    refine hK _ _ (.inr hw4) ?_
    clear hK K
    refine EF.hyb_alone rfl (fun w5 hn5 K hK=>?_)
    go_simp
    refine (HB.out w5).mono ?_;rintro e w6 ⟨v2,rfl,ho2,hv2,hw6⟩
    refine hK _ _ (.inr hw6) ?_
    clear hK K
    refine EF.hyb_alone rfl (fun w7 hn7 K hK=>?_)
    refine ite_intro rfl ?_
    have h1:OwnN w7 w2.heap.size v1 xa:=((OwnS.less ho1 hn3.size).nx (hn5.trans (hw6.trans hn7)))
    have h2:OwnN w7 w2.heap.size v2 xb:=(OwnS.less ho2 ((hn3.trans (hw4.trans hn5)).size)).nx hn7
    have h37:=hn3.trans (hw4.trans (hn5.trans (hw6.trans hn7)))
    refine op_appNs w7 _ _ rfl w2.heap.size v1 v2 xa xb rfl h1 rfl h2 hv2 H63.out h37.size ?_
    intro v3 w8 ho3 hv3 hg3
    refine hK _ _ (.inl rfl) ?_
    clear hK K
    have hn8:Nx w2 w8:=Nx.grownBy h37 hg3 (fun k e=>(h1.own k e).1)
    refine EF.hyb_alone rfl (fun w9 hn9 K hK=>?_)
    go_simp
    refine hK _ _ (.inr (Nx.refl _)) ?_
    clear hK K
    refine EF.hyb_nil (fun w10 hn10=>?_)
    go_wp2_with fail
    go_ret
    rw [HX.out]
    refine ⟨v3,rfl,OwnS.less (ho3.nx (hn9.trans hn10)) HN2.out.size,fun h=>?_,HN2.out.trans (hn8.trans (hn9.trans hn10))⟩
    rcases hv3 h with h | ⟨h,h4⟩
    ·exact h
    ·exact absurd (hv1 h) h4
   ·have e13:((K:Int) == 13)=false:=by rw [beq_eq_false_iff_ne];omega
    by_cases h2:K=14∨K=15
    ·have ht:((K:Int) == 15)=true∨((K:Int) == 15)=false∧((K:Int) == 14)=true:=by
      rcases h2 with rfl | rfl
      ·exact .inr ⟨rfl,rfl⟩
      ·exact .inl rfl
     have HX:Hid (X=xa):=by have:=HX0.out;rw [if_neg hk0,if_neg h13,if_pos h2] at this;exact this.symm
     have HA:=Lib.hid (HA.out (.inr h2))
     clear h13 h2 hk0
     rcases ht with t15 | ⟨t15,t14⟩
     all_goals
      go_wp2_with fail
      refine (HA.out w2).mono ?_;rintro e w3 ⟨v,rfl,ho,h0,hn3⟩
      go_wp2_with fail
      go_ret
      rw [HX.out]
      exact ⟨v,rfl,OwnS.less ho HN2.out.size,h0,HN2.out.trans hn3⟩
    ·have t15:((K:Int) == 15)=false:=by rw [beq_eq_false_iff_ne];omega
     have t14:((K:Int) == 14)=false:=by rw [beq_eq_false_iff_ne];omega
     have HX:Hid (X=[]):=by have:=HX0.out;rw [if_neg hk0,if_neg h13,if_neg h2] at this;exact this.symm
     clear h13 h2 hk0
     go_wp2_with fail
     go_ret
     rw [HX.out]
     exact ⟨_,rfl,OwnS.nil_ _ _,fun _=>rfl,HN2.out⟩
 ·have z0:((Er:Int) != 0)=true:=by rw [bne_iff_ne];omega
  have HX:Hid (X=[]):=by have:=hX.out;rw [if_neg hE] at this;exact this.symm
  clear hE
  go_wp2_with fail
  go_ret
  rw [HX.out]
  exact ⟨_,rfl,OwnS.nil_ _ _,fun _=>rfl,HN2.out⟩
end Go.Proofs.YtbblfkdmkpkmcaaGreatDoor
namespace Go.Proofs.YtbblfkdmkpkmcaaGreatDoor
open Go.RowKit
theorem nm_len (t:Ty) (hw:wfT t) (hs:((showT t).length:Int)≤8000):((nmB t).length:Int)≤8000:=by
 have:=names_len t hw
 rw [nmB_len];omega
theorem rnames_tree (t:Ty):∀ (w:World) (s:ByteArray),wfT t→depthT t≤12→Tx s (showT t)→((showT t).length:Int)≤8000 →
  Calls Tryz.prog 23 #[.string s] w (NamR w (nmB t)):=by
 induction t with
 | nm x =>
  intro w s hw hd hx hs
  exact rnames_step w s 0 0 _ _ _ [] [] (rhead_tree _ hw hd w s hx hs) (by decide) (fun _ h=>by omega) (fun _ h=>by omega)
 | bs k =>
  intro w s hw hd hx hs
  have hk:=bs_ne hw
  have:=rnames_step w s k 0 _ _ _ [] [] (rhead_tree _ hw hd w s hx hs) (by decide) (fun _ h=>by omega) (fun _ h=>by omega)
  rw [if_pos rfl,if_neg (by omega),if_neg (by omega),if_neg (by omega)] at this
  exact this
 | l1 k a ih =>
  intro w s hw hd hx hs
  have hl:=(show_len (.l1 k a)).1 k a rfl
  have hda:depthT a≤12:=by simp [depthT] at hd;omega
  have hk:k=14∨k=15:=hw.1
  have hn:=nm_len a hw.2 (by omega)
  have:=rnames_step w s k 0 _ (bA (showT a)) _ (nmB a) [] (rhead_tree _ hw hd w s hx hs) (by simp;omega) (fun _ _ w=>ih w _ hw.2 hda (Tx.of _) (by omega)) (fun _ h=>by omega)
  rw [if_pos rfl,if_neg (by omega),if_neg (by omega),if_pos hk] at this
  exact this
 | mp a b iha ihb =>
  intro w s hw hd hx hs
  have hl:=(show_len (.mp a b)).2 a b rfl
  have hda:depthT a≤12∧depthT b≤12:=by simp [depthT] at hd;omega
  have hn1:=nm_len a hw.1 (by omega)
  have hn2:=nm_len b hw.2 (by omega)
  have:=rnames_step w s 13 0 _ (bA (showT a)) (bA (showT b)) (nmB a) (nmB b) (rhead_tree _ hw hd w s hx hs) (by omega) (fun _ _ w=>iha w _ hw.1 hda.1 (Tx.of _) (by omega)) (fun _ _ w=>ihb w _ hw.2 hda.2 (Tx.of _) (by omega))
  have e:nmB (.mp a b)=nmB a++nmB b:=by unfold nmB;simp [namesT]
  rw [e]
  exact this
theorem rnames_any (w:World) (s:ByteArray) (l:List UInt8) (hl:Tx s l) (hs:(l.length:Int)≤8000) :
  Calls Tryz.prog 23 #[.string s] w (NamR w (namesW l)):=by
 unfold namesW
 by_cases h:(wholeT l).1=0
 ·obtain ⟨h1,h2,h3⟩:=wholeT_show l h
  rw [if_neg (by simpa using h)]
  generalize (wholeT l).2=t at *
  subst h3
  exact rnames_tree t w s h1 h2 hl hs
 ·rw [if_pos h]
  have:=rnames_step w s _ (wholeT l).1 _ _ _ [] [] (rhead_any w s l hl hs) (by decide) (fun h0=>absurd h0 h) (fun h0=>absurd h0 h)
  rw [if_neg h] at this
  exact this
end Go.Proofs.YtbblfkdmkpkmcaaGreatDoor
