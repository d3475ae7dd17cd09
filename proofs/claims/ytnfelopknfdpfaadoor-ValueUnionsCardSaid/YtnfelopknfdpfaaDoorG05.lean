/- Which field values ValueUnions makes, and what is asked of them. Plain. Append of several structs, from any place, onto what the call owns. Two rows of a value grow in one region whose operations come in any order. -/
import Derived.Test.YtnfelopknfdpfaaDoorG00
import Derived.Test.YtnfelopknfdpfaaDoorG04
set_option linter.unusedVariables false
set_option linter.unusedSimpArgs false
set_option linter.unnecessarySimpa false
namespace Go.Proofs.YtnfelopknfdpfaaDoor
def idU (b:UInt8):Int:=((b.toNat % 6:Nat):Int)
def idL (l:List UInt8) (i:Nat):List Int:=(l.take i).map idU
def vsS (i:Nat):List ValS:=(List.range i).map fun (j:Nat)=>leafS 3 (j:Int)
def vsV (i:Nat):List Val:=(List.range i).map fun (j:Nat)=>leafV 3 (j:Int)
def fdU (q:Bool) (j:Nat):FldS:=⟨(j:Int)+1,if q=true∧j=1 then 1 else 0,[105,56],[],false,⟨0,0,[],.slice none 0 0,.slice none 0 0⟩⟩
def fsU (q:Bool) (i:Nat):List FldS:=(List.range i).map (fdU q)
def riseB (ids:List Int):Bool:=decide (∀ x ∈ ids,1≤x∧x≤4) && ascB ids
theorem idL_len (l:List UInt8) (i:Nat) (h:i≤l.length):(idL l i).length=i:=by simp [idL];omega
theorem vsS_len (i:Nat):(vsS i).length=i:=by simp [vsS]
theorem vsV_len (i:Nat):(vsV i).length=i:=by simp [vsV]
theorem fsU_len (q:Bool) (i:Nat):(fsU q i).length=i:=by simp [fsU]
theorem idL_succ (l:List UInt8) (i:Nat) (h:i<l.length):idL l (i+1)=idL l i++[idU l[i]]:=by
 unfold idL;rw [List.take_succ_eq_append_getElem h,List.map_append];rfl
theorem vsS_succ (i:Nat):vsS (i+1)=vsS i++[leafS 3 (i:Int)]:=by unfold vsS;rw [List.range_succ,List.map_append];rfl
theorem fsU_succ (q:Bool) (i:Nat):fsU q (i+1)=fsU q i++[fdU q i]:=by unfold fsU;rw [List.range_succ,List.map_append];rfl
theorem rise_nil:riseB []=true:=rfl
theorem rise_one (x:Int):riseB [x]=(decide (1≤x) && decide (x≤4)):=by
 rw [Bool.eq_iff_iff];simp [riseB,ascB]
theorem rise_snoc (ids:List Int) (x:Int) (h:0<ids.length):riseB (ids++[x])=(riseB ids && (decide (1≤x) && (decide (x≤4) && decide (ids[ids.length - 1]'(by omega)<x)))):=by
 rw [Bool.eq_iff_iff]
 simp only [riseB,ascB,Bool.and_eq_true,decide_eq_true_eq,List.pairwise_append,List.mem_append,List.mem_singleton,List.pairwise_singleton,true_and]
 constructor
 ·rintro ⟨h1,h2,h3⟩
  exact ⟨⟨fun y hy=>h1 y (.inl hy),h2⟩,(h1 x (.inr rfl)).1,(h1 x (.inr rfl)).2,h3 _ (List.getElem_mem _) x rfl⟩
 ·rintro ⟨⟨h1,h2⟩,h3,h4,h5⟩
  refine ⟨fun y hy=>hy.elim (h1 y) (fun e=>by subst e;exact ⟨h3,h4⟩),h2,fun y hy z hz=>?_⟩
  subst hz
  obtain ⟨m,hm,rfl⟩:=List.getElem_of_mem hy
  rcases Nat.lt_or_ge m (ids.length - 1) with g | g
  ·have:=List.pairwise_iff_getElem.1 h2 m (ids.length - 1) hm (by omega) g
   omega
  ·have:m=ids.length - 1:=by omega
   subst this;exact h5
theorem two_snoc (ids:List Int) (x:Int):decide ((2:Int) ∈ ids++[x])=(decide ((2:Int) ∈ ids) || (x == 2)):=by
 rw [Bool.eq_iff_iff]
 simp only [decide_eq_true_eq,Bool.or_eq_true,beq_iff_eq,List.mem_append,List.mem_singleton]
 exact or_congr Iff.rfl eq_comm
theorem one4 (q:Bool) (i:Int) (v:Val):(match ((fsU q 4).map pF).find? (fun f=>decide (f.id=i)) with | some f=>tyB f.ty v | none=>false)=(decide (1≤i∧i≤4) && tyB [105,56] v):=by
 have e:(fsU q 4).map pF=[pF (fdU q 0),pF (fdU q 1),pF (fdU q 2),pF (fdU q 3)]:=rfl
 have i0:(pF (fdU q 0)).id=1:=rfl
 have i1:(pF (fdU q 1)).id=2:=rfl
 have i2:(pF (fdU q 2)).id=3:=rfl
 have i3:(pF (fdU q 3)).id=4:=rfl
 rw [e]
 by_cases h1:i=1
 ·subst h1;rw [List.find?_cons_of_pos (by simp [i0])];rfl
 rw [List.find?_cons_of_neg (by simp [i0];omega)]
 by_cases h2:i=2
 ·subst h2;rw [List.find?_cons_of_pos (by simp [i1])];rfl
 rw [List.find?_cons_of_neg (by simp [i1];omega)]
 by_cases h3:i=3
 ·subst h3;rw [List.find?_cons_of_pos (by simp [i2])];rfl
 rw [List.find?_cons_of_neg (by simp [i2];omega)]
 by_cases h4:i=4
 ·subst h4;rw [List.find?_cons_of_pos (by simp [i3])];rfl
 rw [List.find?_cons_of_neg (by simp [i3];omega),List.find?_nil,decide_eq_false (by omega)];rfl
theorem each4 (q:Bool):∀ (ids:List Int) (vs:List Val),vs.length=ids.length→(∀ v ∈ vs,tyB [105,56] v=true)→eachB ((fsU q 4).map pF) ids vs=decide (∀ x ∈ ids,1≤x∧x≤4)
 | [],[],_,_=>rfl
 | i :: is,v :: vs,hl,hv=>by
  refine (congrArg (· && eachB ((fsU q 4).map pF) is vs) (one4 q i v)).trans ?_
  rw [hv v (by simp),each4 q is vs (by simpa using hl) (fun u hu=>hv u (by simp [hu])),Bool.and_true,Bool.eq_iff_iff]
  simp
 | [],v :: vs,hl,_=>by simp at hl
 | i :: is,[],hl,_=>by simp at hl
theorem vs_ty (n:Nat) (h:n≤5):∀ v ∈ vsV n,tyB [105,56] v=true:=by
 intro v hv
 obtain ⟨j,hj,rfl⟩:=List.mem_map.1 hv
 have:j<n:=List.mem_range.1 hj
 have e:baseT [105,56]=some 3:=rfl
 unfold tyB
 rw [e]
 simp [chkB,leafV,rngB];omega
def kindU (r:Nat):Int:=match r with | 0=>4 | 1=>5 | 2=>6 | _=>8
def wantU (r n:Nat) (ids:List Int):Bool:=riseB ids && (if r=1 then decide (n=1) else if r=3 then decide (n≤1) else decide ((2:Int) ∈ ids))
theorem fld_want (r n:Nat) (hr:r<4) (hn:n≤5) (ids:List Int) (hl:ids.length=n):fldV (kindU r) ((fsU (r % 2 == 0) 4).map pF) (.mk 12 0 [] (vsV n) ids)=wantU r n ids:=by
 unfold wantU
 simp only [fldV]
 rw [each4 _ ids (vsV n) (by rw [vsV_len,hl]) (vs_ty n hn),vsV_len]
 have h4:r=0∨r=1∨r=2∨r=3:=by omega
 have ea:∀ q,((fsU q 4).map pF).all (fun f=>!decide (f.req=1) || decide (f.id ∈ ids))=(!q || decide ((2:Int) ∈ ids)):=by
  intro q
  cases q
  ·rfl
  ·have:((fsU true 4).map pF)=[⟨1,0,[105,56]⟩,⟨2,1,[105,56]⟩,⟨3,0,[105,56]⟩,⟨4,0,[105,56]⟩]:=rfl
   rw [this];simp
 rw [ea,Bool.eq_iff_iff]
 subst hl
 rcases h4 with rfl | rfl | rfl | rfl <;> simp [kindU,riseB,and_assoc,and_comm,and_left_comm]
end Go.Proofs.YtnfelopknfdpfaaDoor
namespace Go.Proofs.YtnfelopknfdpfaaDoor
open Go.RowKit
theorem rowL_app {α:Type} (f:α→Array Value) (xs ys:List α):rowL f (xs++ys)=rowL f xs++rowL f ys:=by unfold rowL;exact List.flatMap_append
section
variable (w:World) {ops:Array Oper} {rest:List Oper} {o:Oper} {a:Act} {Q:Exit→Act→World→Prop} {K:Act→World→Prop} {α:Type} {f:α→Array Value} {k sz:Nat} {T T2:TypeId} {z:Value}
theorem op_appO (hinfo:(Tryd.prog.info? T).map (fun i=>(i.zero,i.size,i.bytes))=some (some z,k,sz)) (hund:Tryd.prog.underlying T2=some (.slice T)) (hzs:z.cells.size=k) (hk:0<k) (hsz:sz≤1000)
  (hf:∀ x,(f x).size=k)
  (s x:Operand) (ho:o.op = .call { callee:=.builtin .append,args:=#[s,x],argTypes:=#[T2,T2] })
  (B:Nat) (v:Value) (xs ys:List α) (hone:∀ y ∈ ys,∀ u ∈ (f y).toList,u.oneCell'=true) (hs:a.eval s=v) (hown:OwnS f k T w B v xs) (g off m c:Nat) (hm:m=ys.length) (hx:a.eval x = .slice (some ⟨g,off,none⟩) m c)
  (hy:∀ i (h:i<ys.length) j,j<k→w.cell? ⟨g,off+i * k+j,none⟩=(f ys[i])[j]?) (h63:(xs.length:Int)+(ys.length:Int)≤100000) (hB:B≤w.heap.size)
  (h:∀ v' w',OwnS f k T w' B v' (xs++ys)→Below B w w'→(∀ k,k<w.heap.size→v.ownBlock≠some k→w'.heap[k]? = w.heap[k]?)→K (a.put o.dst v') w'):o.wp Tryd.prog a w K Q:=by
 obtain ⟨i,hi,hz,h1,h2⟩:=info_parts hinfo
 subst hm
 have hlen:(rowL f ys).length=ys.length * k:=rowL_length hf ys
 have hcells:∀ j u,(rowL f ys)[j]? = some u→w.cell? ((⟨g,off,none⟩:Addr).add j)=some u:=by
  intro j u hu
  have hj:j<ys.length * k:=by
   rcases Nat.lt_or_ge j (ys.length * k) with h | h
   ·exact h
   ·rw [List.getElem?_eq_none (by rw [hlen];exact h)] at hu;cases hu
  have hq:j / k<ys.length:=Nat.div_lt_of_lt_mul (by rw [Nat.mul_comm];exact hj)
  have hr:j % k<k:=Nat.mod_lt _ hk
  have e:j / k * k+j % k=j:=by rw [Nat.mul_comm];exact Nat.div_add_mod j k
  have h3:=hy (j / k) hq (j % k) hr
  rw [Nat.add_assoc,e] at h3
  rw [Addr.add_lit,h3,← rowL_get hf ys (j / k) hq (j % k) hr,e]
  exact hu
 obtain ⟨v',w',hrun,ho',hg,_⟩:=run_append_own_at (P:=Tryd.prog) w B T2 o.type T i _ k sz hund hi hz h1 h2 hzs hk v xs.length (rowL f xs) hown ⟨g,off,none⟩ ys.length c (rowL f ys) hlen hcells (fun u hu=>by
   obtain ⟨y,hm,hy⟩:=List.mem_flatMap.1 hu
   exact hone y hm u hy) (by simp [maxLen];omega)
  (by
    have:(xs.length+ys.length) * sz≤100001 * 1000:=Nat.mul_le_mul (by omega) hsz
    omega) hB
 have hbel:Below B w w':=(Below.refl B w).grown hg hB fun k hk=>(World.ownsRow.lt hown k hk).1
 have hown':OwnS f k T w' B v' (xs++ys):=by
  unfold OwnS
  rw [List.length_append,rowL_app]
  exact ho'
 have:=h v' w' hown' hbel (fun k hk hne=>hg.block k hk (Ne.symm hne))
 unfold Oper.wp execOp
 simp only [ho,resolve,invoke,builtin,Sem.run_bind,Sem.run_pure,Result.andThen_ok,List.map_toArray,List.map_cons,List.map_nil,hs,hx,hrun]
 exact this
theorem wpList_appO (hinfo:(Tryd.prog.info? T).map (fun i=>(i.zero,i.size,i.bytes))=some (some z,k,sz)) (hund:Tryd.prog.underlying T2=some (.slice T)) (hzs:z.cells.size=k) (hk:0<k) (hsz:sz≤1000)
  (hf:∀ x,(f x).size=k)
  (hgd:o.guard=none) (s x:Operand) (ho:o.op = .call { callee:=.builtin .append,args:=#[s,x],argTypes:=#[T2,T2] })
  (B:Nat) (v:Value) (xs ys:List α) (hone:∀ y ∈ ys,∀ u ∈ (f y).toList,u.oneCell'=true) (hs:a.eval s=v) (hown:OwnS f k T w B v xs) (g off m c:Nat) (hm:m=ys.length) (hx:a.eval x = .slice (some ⟨g,off,none⟩) m c)
  (hy:∀ i (h:i<ys.length) j,j<k→w.cell? ⟨g,off+i * k+j,none⟩=(f ys[i])[j]?) (h63:(xs.length:Int)+(ys.length:Int)≤100000) (hB:B≤w.heap.size)
  (h:∀ v' w',OwnS f k T w' B v' (xs++ys)→Below B w w'→(∀ k,k<w.heap.size→v.ownBlock≠some k→w'.heap[k]? = w.heap[k]?)→wpList Tryd.prog ops Q rest (a.put o.dst v') w'):wpList Tryd.prog ops Q (o :: rest) a w:=by
 refine wpList_plain hgd fun K hK=>op_appO w hinfo hund hzs hk hsz hf s x ho B v xs ys hone hs hown g off m c hm hx hy h63 hB fun v' w' h1 h2 h3=>hK _ _ (h v' w' h1 h2 h3)
end
end Go.Proofs.YtnfelopknfdpfaaDoor
namespace Go.Proofs.YtnfelopknfdpfaaDoor
open Go.RowKit
structure Gq (v:Value) (w:World) (v':Value) (w':World):Prop where
 os:w'.os=w.os
 tape:w'.tape=w.tape
 output:w'.output=w.output
 size:w.heap.size≤w'.heap.size
 block:∀ k,k<w.heap.size→v.ownBlock≠some k→w'.heap[k]? = w.heap[k]?
 own:∀ k,v'.ownBlock=some k→v.ownBlock=some k∨w.heap.size≤k
section
variable (w:World) {o:Oper} {a:Act} {Q:Exit→Act→World→Prop} {K:Act→World→Prop} {α:Type} {f:α→Array Value} {k sz:Nat} {T T2:TypeId} {z:Value}
theorem op_appQ (hinfo:(Tryd.prog.info? T).map (fun i=>(i.zero,i.size,i.bytes))=some (some z,k,sz)) (hund:Tryd.prog.underlying T2=some (.slice T)) (hzs:z.cells.size=k) (hk:0<k) (hsz:sz≤1000)
  (hf:∀ x,(f x).size=k)
  (s x:Operand) (ho:o.op = .call { callee:=.builtin .append,args:=#[s,x],argTypes:=#[T2,T2] })
  (B:Nat) (v:Value) (xs:List α) (y:α) (hone:∀ u ∈ (f y).toList,u.oneCell'=true) (hs:a.eval s=v) (hown:OwnS f k T w B v xs) (g:Nat) (hx:a.eval x = .slice (some ⟨g,0,none⟩) 1 1)
  (hy:∀ j,j<k→w.cell? ⟨g,j,none⟩=(f y)[j]?) (h63:(xs.length:Int)≤100000) (hB:B≤w.heap.size)
  (h:∀ v' w',OwnS f k T w' B v' (xs++[y])→Gq v w v' w'→K (a.put o.dst v') w'):o.wp Tryd.prog a w K Q:=by
 obtain ⟨i,hi,hz,h1,h2⟩:=info_parts hinfo
 have hcells:∀ j u,((f y).toList)[j]? = some u→w.cell? ((⟨g,0,none⟩:Addr).add j)=some u:=by
  intro j u hu
  have hj:j<k:=by
   rcases Nat.lt_or_ge j k with h | h
   ·exact h
   ·rw [List.getElem?_eq_none (by rw [Array.length_toList,hf];exact h)] at hu;cases hu
  rw [Addr.add_lit,Nat.zero_add,hy j hj]
  rw [← hu];simp
 obtain ⟨v',w',hrun,ho',hg,_,hob⟩:=run_append_own_at (P:=Tryd.prog) w B T2 o.type T i _ k sz hund hi hz h1 h2 hzs hk v xs.length (rowL f xs) hown ⟨g,0,none⟩ 1 1 (f y).toList (by rw [Array.length_toList,hf,Nat.one_mul]) hcells hone (by simp [maxLen];omega)
  (by
    have:(xs.length+1) * sz≤100001 * 1000:=Nat.mul_le_mul (by omega) hsz
    omega) hB
 have hown':OwnS f k T w' B v' (xs++[y]):=by
  unfold OwnS
  rw [List.length_append,rowL_snoc]
  exact ho'
 have:=h v' w' hown' ⟨hg.os,hg.tape,hg.output,hg.size,fun k hk hv=>hg.block k hk (fun e=>hv e.symm),fun k e=>by
  rcases hob with h | h
  ·exact .inl (h ▸ e)
  ·rw [h] at e;cases e;exact .inr (Nat.le_refl _)⟩
 unfold Oper.wp execOp
 simp only [ho,resolve,invoke,builtin,Sem.run_bind,Sem.run_pure,Result.andThen_ok,List.map_toArray,List.map_cons,List.map_nil,hs,hx,hrun]
 exact this
end
theorem getD_putU (ls:Array Bool) (i j:Nat) (h:j≠i) (d:Bool):(ls.setIfInBounds i true).getD j d=ls.getD j d:=by
 rw [Array.getD_eq_getD_getElem?,Array.getD_eq_getD_getElem?,Array.getElem?_setIfInBounds,if_neg (fun e=>h e.symm)]
theorem getD_putU1 (ls:Array Bool) (i:Nat) (h:i<ls.size) (d:Bool):(ls.setIfInBounds i true).getD i d=true:=by
 rw [Array.getD_eq_getD_getElem?,Array.getElem?_setIfInBounds,if_pos rfl,if_pos h];rfl
section
variable {α:Type} {f:α→Array Value} {k:Nat} {T:TypeId} {w w':World} {B:Nat} {v:Value} {xs:List α}
theorem OwnS.ltU (h:OwnS f k T w B v xs) (g:Nat) (e:v.ownBlock=some g):g<w.heap.size:=(World.ownsRow.lt h g e).2
theorem OwnS.geU (h:OwnS f k T w B v xs) (g:Nat) (e:v.ownBlock=some g):B≤g:=(World.ownsRow.lt h g e).1
theorem OwnS.keepU (h:OwnS f k T w B v xs) (hk:∀ g,v.ownBlock=some g→w'.heap[g]? = w.heap[g]?):OwnS f k T w' B v xs:=by
 obtain ⟨h1,h2⟩:=h
 refine ⟨h1,?_⟩
 rcases h2 with h2 | ⟨g,cap,cur,hv,hg,hh,r⟩
 ·exact .inl h2
 ·refine .inr ⟨g,cap,cur,hv,hg,?_,r⟩
  rw [hk g (by rw [hv];rfl)];exact hh
theorem OwnS.tyU (h:OwnS f k T w B v xs) (b:Nat) (e:v.ownBlock=some b):∃ cur fr,w.heap[b]? = some (.cells cur T fr):=by
 rcases h.2 with ⟨rfl,-⟩ | ⟨g,cap,cur,rfl,hg,hh,-⟩
 ·cases e
 ·cases e
  exact ⟨_,_,hh⟩
end
def inA (n:Int):Array Value:=#[.int .i64 n]
def csU (c3 c4:Value):Array Value:=#[.int .i64 12,.int .i64 0,.string ⟨#[]⟩,c3,c4]
def P9u (wd:World) (LN:Value) (k:Nat):Prop:=LN.ownBlock=some k∨wd.heap.size≤k
def VU {α:Type} (f:α→Array Value) (k:Nat) (T:TypeId) (B:Nat) (wd:World) (LN:Value) (l:List α) (v:Value) (w:World):Prop:=∃ A c,v = .slice A l.length c∧OwnS f k T w B v l∧∀ b,v.ownBlock=some b→P9u wd LN b
structure SU (wd:World) (g:Nat) (IV LV:Value) (li:List Int) (lv:List ValS) (b4 b10 b12 b14:Bool) (w:World):Prop where
 os:w.os=wd.os
 tape:w.tape=wd.tape
 output:w.output=wd.output
 size:wd.heap.size≤w.heap.size
 block:∀ k,k<wd.heap.size→k≠g→(b4=false∨IV.ownBlock≠some k)→(b10=false∨LV.ownBlock≠some k)→w.heap[k]? = wd.heap[k]?
 ex:∃ c3 c4,Blk w g g (csU c3 c4) 41∧(b12=false→c4=IV)∧(b12=true→VU inA 1 3 (g+1) wd IV li c4 w)∧(b14=false→c3=LV)∧(b14=true→VU valA 5 41 (g+1) wd LV lv c3 w)
def RU (g:Nat) (IV LV:Value) (ls:Array Bool) (w1 w2:World):Prop :=
 w1.heap.size≤w2.heap.size∧∀ k,k<w1.heap.size→k≠g→(ls.getD 4 false=true∨IV.ownBlock≠some k)→(ls.getD 10 false=true∨LV.ownBlock≠some k)→w2.heap[k]? = w1.heap[k]?
theorem RU.nx {g:Nat} {IV LV:Value} {ls:Array Bool} {w1 w2:World} (h:Nx w1 w2):RU g IV LV ls w1 w2:=⟨h.size,fun k hk _ _ _=>h.block k hk⟩
section
variable {wd:World} {g:Nat} {IV LV:Value} {li:List Int} {lv:List ValS} {b4 b10 b12 b14:Bool} {w w':World}
theorem VU.nx {α:Type} {f:α→Array Value} {k B:Nat} {T:TypeId} {LN:Value} {l:List α} {v:Value} (h:VU f k T B wd LN l v w) (n:Nx w w'):VU f k T B wd LN l v w':=by
 obtain ⟨A,c,h1,h2,h3⟩:=h
 exact ⟨A,c,h1,h2.nx n,h3⟩
theorem set_blockU {k i:Nat} {u:Value} (h:k≠g):(w.setCell ⟨g,i,none⟩ u).heap[k]? = w.heap[k]?:=by
 simp only [World.setCell];rw [Array.getElem?_modify,if_neg (fun e=>h e.symm)]
theorem VU.put {α:Type} {f:α→Array Value} {k:Nat} {T:TypeId} {LN:Value} {l:List α} {v:Value} (h:VU f k T (g+1) wd LN l v w) (i:Nat) (u:Value):VU f k T (g+1) wd LN l v (w.setCell ⟨g,i,none⟩ u):=by
 obtain ⟨A,c,h1,h2,h3⟩:=h
 exact ⟨A,c,h1,h2.keepU fun k e=>set_blockU (by have:=h2.geU k e;omega),h3⟩
theorem VU.keep {α:Type} {f:α→Array Value} {k B:Nat} {T:TypeId} {LN:Value} {l:List α} {v:Value} (h:VU f k T B wd LN l v w) (hk:∀ b,B≤b→P9u wd LN b→b<w.heap.size→w'.heap[b]? = w.heap[b]?):VU f k T B wd LN l v w':=by
 obtain ⟨A,c,h1,h2,h3⟩:=h
 exact ⟨A,c,h1,h2.keepU fun b e=>hk b (h2.geU b e) (h3 b e) (h2.ltU b e),h3⟩
theorem SU.nx (h:SU wd g IV LV li lv b4 b10 b12 b14 w) (n:Nx w w'):SU wd g IV LV li lv b4 b10 b12 b14 w':=by
 obtain ⟨c3,c4,h1,h2,h3,h4,h5⟩:=h.ex
 exact ⟨n.os.trans h.os,n.tape.trans h.tape,n.output.trans h.output,Nat.le_trans h.size n.size,fun k hk h6 h7 h8=>(n.block k (Nat.lt_of_lt_of_le hk h.size)).trans (h.block k hk h6 h7 h8),
  c3,c4,h1.below n,h2,fun e=>(h3 e).nx n,h4,fun e=>(h5 e).nx n⟩
theorem SU.app4 (h:SU wd g IV LV li lv false b10 false false w) {v:Value} (hg:Gq IV w v w') (hn:IV.ownBlock≠some g):SU wd g IV LV li lv true b10 false false w':=by
 obtain ⟨c3,c4,h1,h2,h3,h4,h5⟩:=h.ex
 refine ⟨hg.os.trans h.os,hg.tape.trans h.tape,hg.output.trans h.output,Nat.le_trans h.size hg.size,fun k hk h6 h7 h8=>?_,c3,c4,⟨h1.1,by rw [hg.block g h1.lt hn];exact h1.2⟩,h2,(fun e=>by cases e),h4,(fun e=>by cases e)⟩
 exact (hg.block k (Nat.lt_of_lt_of_le hk h.size) (h7.resolve_left (by decide))).trans (h.block k hk h6 (.inl rfl) h8)
theorem SU.app10 (h:SU wd g IV LV li lv b4 false false false w) {v:Value} (hg:Gq LV w v w') (hn:LV.ownBlock≠some g):SU wd g IV LV li lv b4 true false false w':=by
 obtain ⟨c3,c4,h1,h2,h3,h4,h5⟩:=h.ex
 refine ⟨hg.os.trans h.os,hg.tape.trans h.tape,hg.output.trans h.output,Nat.le_trans h.size hg.size,fun k hk h6 h7 h8=>?_,c3,c4,⟨h1.1,by rw [hg.block g h1.lt hn];exact h1.2⟩,h2,(fun e=>by cases e),h4,(fun e=>by cases e)⟩
 exact (hg.block k (Nat.lt_of_lt_of_le hk h.size) (h8.resolve_left (by decide))).trans (h.block k hk h6 h7 (.inl rfl))
theorem SU.put12 (h:SU wd g IV LV li lv b4 b10 false false w) {v:Value} (hv:VU inA 1 3 (g+1) wd IV li v w):SU wd g IV LV li lv b4 b10 true false (w.setCell ⟨g,4,none⟩ v):=by
 obtain ⟨c3,c4,h1,h2,h3,h4,h5⟩:=h.ex
 exact ⟨h.os,h.tape,h.output,by simp only [World.setCell,Array.size_modify];exact h.size,fun k hk h6 h7 h8=>(set_blockU h6).trans (h.block k hk h6 h7 h8),
  c3,v,h1.put 4 v,(fun e=>by cases e),fun _=>hv.put _ _,h4,(fun e=>by cases e)⟩
theorem SU.put14 (h:SU wd g IV LV li lv b4 b10 b12 false w) {v:Value} (hv:VU valA 5 41 (g+1) wd LV lv v w):SU wd g IV LV li lv b4 b10 b12 true (w.setCell ⟨g,3,none⟩ v):=by
 obtain ⟨c3,c4,h1,h2,h3,h4,h5⟩:=h.ex
 exact ⟨h.os,h.tape,h.output,by simp only [World.setCell,Array.size_modify];exact h.size,fun k hk h6 h7 h8=>(set_blockU h6).trans (h.block k hk h6 h7 h8),
  v,c4,h1.put 3 v,h2,fun e=>(h3 e).put _ _,(fun e=>by cases e),fun _=>hv.put _ _⟩
end
structure VW (w0:World) (g:Nat) (IV LV:Value) (li:List Int) (lv:List ValS) (w:World):Prop where
 nx:Nx w0 w
 ge:w0.heap.size≤g
 bl:Blk w g g (csU LV IV) 41
 oi:OwnS inA 1 3 w (g+1) IV li
 ol:OwnS valA 5 41 w (g+1) LV lv
theorem VW.next {w0 w w':World} {g:Nat} {IV LV:Value} {li:List Int} {lv:List ValS} (h:VW w0 g IV LV li lv w) (n:Nx w w'):VW w0 g IV LV li lv w':=⟨h.nx.trans n,h.ge,h.bl.below n,h.oi.nx n,h.ol.nx n⟩
theorem VW.ai {w0 w:World} {g:Nat} {IV LV:Value} {li:List Int} {lv:List ValS} (h:VW w0 g IV LV li lv w) (k:Nat) (e:IV.ownBlock=some k):k<w.heap.size∧k≠g∧LV.ownBlock≠some k:=by
 refine ⟨h.oi.ltU k e,by have:=h.oi.geU k e;omega,fun e'=>?_⟩
 obtain ⟨x,y,z⟩:=h.oi.tyU k e
 obtain ⟨x',y',z'⟩:=h.ol.tyU k e'
 rw [z] at z'
 simp only [Option.some.injEq,Obj.cells.injEq] at z'
 exact absurd z'.2.1 (by decide)
theorem VW.al {w0 w:World} {g:Nat} {IV LV:Value} {li:List Int} {lv:List ValS} (h:VW w0 g IV LV li lv w) (k:Nat) (e:LV.ownBlock=some k):k<w.heap.size∧k≠g:=⟨h.ol.ltU k e,by have:=h.ol.geU k e;omega⟩
theorem SU.done {w0 wd w:World} {g:Nat} {IV LV:Value} {li li':List Int} {lv lv':List ValS} (h:SU wd g IV LV li' lv' true true true true w) (h0:VW w0 g IV LV li lv wd) :
  ∃ A c A' c',VW w0 g (.slice A li'.length c) (.slice A' lv'.length c') li' lv' w:=by
 obtain ⟨c3,c4,h1,-,h3,-,h5⟩:=h.ex
 obtain ⟨A,c,rfl,e2,-⟩:=h3 rfl
 obtain ⟨A',c',rfl,e3,-⟩:=h5 rfl
 refine ⟨A,c,A',c',⟨h.os.trans h0.nx.os,h.tape.trans h0.nx.tape,h.output.trans h0.nx.output,Nat.le_trans h0.nx.size h.size,fun k hk=>?_⟩,h0.ge,h1,e2,e3⟩
 have hg:=h0.ge
 exact (h.block k (Nat.lt_of_lt_of_le hk h0.nx.size) (by omega) (.inr fun e=>by have:=h0.oi.geU k e;omega) (.inr fun e=>by have:=h0.ol.geU k e;omega)).trans (h0.nx.block k hk)
def SUl (wd:World) (g:Nat) (IV LV:Value) (li:List Int) (lv:List ValS) (ls:Array Bool) (w:World):Prop :=
 SU wd g IV LV li lv (ls.getD 4 false) (ls.getD 10 false) (ls.getD 12 false) (ls.getD 14 false) w
theorem SUl.set {wd w w':World} {g:Nat} {IV LV:Value} {li:List Int} {lv:List ValS} {ls:Array Bool} (h:SUl wd g IV LV li lv ls w) (n:Nx w w') (i:Nat) (h1:4≠i) (h2:10≠i) (h3:12≠i) (h4:14≠i):SUl wd g IV LV li lv (ls.setIfInBounds i true) w':=by
 unfold SUl
 rw [getD_putU _ _ _ h1,getD_putU _ _ _ h2,getD_putU _ _ _ h3,getD_putU _ _ _ h4]
 exact SU.nx h n
def regU (wd:World) (g:Nat) (IV LV:Value) (x i:Int) (li:List Int) (lv:List ValS):List (Value→World→Prop) :=
  [fun v _=>v = .pointer (some ⟨g,4,none⟩),fun v _=>v=IV,fun v _=>v = .int .i64 x,
   fun v w=>∃ k,v = .slice (some ⟨k,0,none⟩) 1 1∧wd.heap.size≤k∧k<w.heap.size∧∀ j,j<1→w.cell? ⟨k,j,none⟩=(inA x)[j]?,VU inA 1 3 (g+1) wd IV li,
   fun v _=>v = .pointer (some ⟨g,3,none⟩),fun v _=>v=LV,fun v _=>v = .int .i64 i,fun v _=>v = .agg (valA (leafS 3 i)),
   fun v w=>∃ k,v = .slice (some ⟨k,0,none⟩) 1 1∧wd.heap.size≤k∧k<w.heap.size∧∀ j,j<5→w.cell? ⟨k,j,none⟩=(valA (leafS 3 i))[j]?,VU valA 5 41 (g+1) wd LV lv,
   fun v _=>v = .pointer (some ⟨g,4,none⟩),fun _ _=>True,fun v _=>v = .pointer (some ⟨g,3,none⟩),fun _ _=>True]
theorem regU_keep {wd:World} {g:Nat} {IV LV:Value} {x i:Int} {li:List Int} {lv:List ValS} (hg:g<wd.heap.size) (hn:∀ k,IV.ownBlock=some k→k<wd.heap.size∧k≠g∧LV.ownBlock≠some k) (hf:∀ k,LV.ownBlock=some k→k<wd.heap.size∧k≠g) :
  ∀ (ls:Array Bool) (j:Nat) (v:Value) (w w':World),ls.getD j false=true→RI.Vof (regU wd g IV LV x i li lv) j v w→RU g IV LV ls w w'→RI.Vof (regU wd g IV LV x i li lv) j v w':=by
 intro ls j v w w' hl hv hr
 have hmk:∀ k,wd.heap.size≤k→k<w.heap.size→w'.heap[k]? = w.heap[k]?:=fun k h1 h2 =>
  hr.2 k h2 (by omega) (.inr fun e=>by have:=(hn k e).1;omega) (.inr fun e=>by have:=(hf k e).1;omega)
 rcases (show j=3∨j=4∨j=9∨j=10∨(j≠3∧j≠4∧j≠9∧j≠10) by omega) with rfl | rfl | rfl | rfl | ⟨n3,n4,n9,n10⟩
 ·obtain ⟨k,h1,h2,h3,h4⟩:=hv
  exact ⟨k,h1,h2,Nat.lt_of_lt_of_le h3 hr.1,fun j hj=>(World.cell?_of_block (hmk k h2 h3)).trans (h4 j hj)⟩
 ·refine VU.keep hv fun b hB hb hlt=>?_
  rcases hb with hb | hb
  ·exact hr.2 b hlt (hn b hb).2.1 (.inl hl) (.inr (hn b hb).2.2)
  ·exact hmk b hb hlt
 ·obtain ⟨k,h1,h2,h3,h4⟩:=hv
  exact ⟨k,h1,h2,Nat.lt_of_lt_of_le h3 hr.1,fun j hj=>(World.cell?_of_block (hmk k h2 h3)).trans (h4 j hj)⟩
 ·refine VU.keep hv fun b hB hb hlt=>?_
  rcases hb with hb | hb
  ·exact hr.2 b hlt (hf b hb).2 (.inr fun e=>(hn b e).2.2 hb) (.inl hl)
  ·exact hmk b hb hlt
 ·match j,n3,n4,n9,n10,hv with
  | 0,_,_,_,_,hv=>exact hv
  | 1,_,_,_,_,hv=>exact hv
  | 2,_,_,_,_,hv=>exact hv
  | 3,h,_,_,_,_=>exact absurd rfl h
  | 4,_,h,_,_,_=>exact absurd rfl h
  | 5,_,_,_,_,hv=>exact hv
  | 6,_,_,_,_,hv=>exact hv
  | 7,_,_,_,_,hv=>exact hv
  | 8,_,_,_,_,hv=>exact hv
  | 9,_,_,h,_,_=>exact absurd rfl h
  | 10,_,_,_,h,_=>exact absurd rfl h
  | 11,_,_,_,_,hv=>exact hv
  | 12,_,_,_,_,hv=>exact hv
  | 13,_,_,_,_,hv=>exact hv
  | 14,_,_,_,_,hv=>exact hv
  | n+15,_,_,_,_,hv=>exact hv
end Go.Proofs.YtnfelopknfdpfaaDoor
