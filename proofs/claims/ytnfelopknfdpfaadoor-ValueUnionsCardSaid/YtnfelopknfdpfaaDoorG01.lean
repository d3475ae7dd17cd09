/- Maps that lie, of any keys and values: what is read, what is put. Plain lemmas. Worlds that changed between two places alone. Plain lemmas. Several values put into a block, one behind the other. Plain lemmas. A checker in memory: its counter, its map of shapes. Plain lemmas. Values' normal form, and of numbers what it is. Plain. What order's functions are asked for. value's search of a struct, of an enum, by their names. value's structAt, enumAt, find; keeps, distinct, mayHave, newChecker. -/
import Derived.Test.YtnfelopknfdpfaaDoorProg
import Derived.Test.YtnfelopknfdpfaaDoorG00
import Derived.DeepKeys4
import Derived.Maps.Keyed
import Derived.Maps.Own
import Derived.Deep.DeepCutAuto
set_option linter.unusedVariables false
set_option linter.unusedSimpArgs false
set_option linter.unnecessarySimpa false
namespace Go.Proofs.YtnfelopknfdpfaaDoor
open Go.RowKit
section
variable {κ ν:Type} [DecidableEq κ]
def getG:List (κ×ν)→κ→Option ν
 | [],_=>none
 | x :: r,k=>if x.1=k then some x.2 else getG r k
def putG:List (κ×ν)→κ→ν→List (κ×ν)
 | [],k,v=>[(k,v)]
 | x :: r,k,v=>if x.1=k then (k,v) :: r else x :: putG r k v
theorem getG_none:∀ {m:List (κ×ν)} {k:κ},(∀ x ∈ m,x.1≠k)→getG m k=none
 | [],_,_=>rfl
 | y :: r,k,h=>by
  unfold getG
  rw [if_neg (h y (by simp)),getG_none fun x hx=>h x (by simp [hx])]
theorem getG_at:∀ {m:List (κ×ν)} {j:Nat} {x:κ×ν},(m.map (·.1)).Nodup→m[j]? = some x→getG m x.1=some x.2
 | [],_,_,_,h=>by simp at h
 | y :: r,0,x,_,h=>by
  simp at h;subst h
  simp [getG]
 | y :: r,j+1,x,hn,h=>by
  simp only [List.map_cons,List.nodup_cons,List.getElem?_cons_succ] at hn h
  unfold getG
  rw [if_neg fun e=>hn.1 (by rw [e];exact List.mem_map.2 ⟨x,List.mem_of_getElem? h,rfl⟩)]
  exact getG_at hn.2 h
theorem putG_none:∀ {m:List (κ×ν)} {k:κ} (v:ν),(∀ x ∈ m,x.1≠k)→putG m k v=m++[(k,v)]
 | [],_,_,_=>rfl
 | y :: r,k,v,h=>by
  unfold putG
  rw [if_neg (h y (by simp)),putG_none v fun x hx=>h x (by simp [hx])];rfl
theorem putG_at:∀ {m:List (κ×ν)} {j:Nat} {x:κ×ν} (v:ν),(m.map (·.1)).Nodup→m[j]? = some x→putG m x.1 v=m.set j (x.1,v)
 | [],_,_,_,_,h=>by simp at h
 | y :: r,0,x,v,_,h=>by
  simp at h;subst h
  simp [putG]
 | y :: r,j+1,x,v,hn,h=>by
  simp only [List.map_cons,List.nodup_cons,List.getElem?_cons_succ] at hn h
  unfold putG
  rw [if_neg fun e=>hn.1 (by rw [e];exact List.mem_map.2 ⟨x,List.mem_of_getElem? h,rfl⟩),putG_at v hn.2 h];rfl
theorem putG_mem:∀ (m:List (κ×ν)) (k:κ) (v:ν),∀ x ∈ putG m k v,x=(k,v)∨x ∈ m
 | [],k,v,x,h=>by simp [putG] at h;exact .inl h
 | y :: r,k,v,x,h=>by
  unfold putG at h
  split at h
  ·rcases List.mem_cons.1 h with rfl | h
   ·exact .inl rfl
   ·exact .inr (by simp [h])
  ·rcases List.mem_cons.1 h with rfl | h
   ·exact .inr (by simp)
   ·rcases putG_mem r k v x h with h | h
    ·exact .inl h
    ·exact .inr (by simp [h])
theorem putG_keys:∀ (m:List (κ×ν)) (k:κ) (v:ν),∀ x ∈ putG m k v,x.1=k∨∃ y ∈ m,y.1=x.1:=fun m k v x h=>by
 rcases putG_mem m k v x h with rfl | h
 ·exact .inl rfl
 ·exact .inr ⟨x,h,rfl⟩
theorem putG_nodup:∀ {m:List (κ×ν)} (k:κ) (v:ν),(m.map (·.1)).Nodup→((putG m k v).map (·.1)).Nodup
 | [],k,v,_=>by simp [putG]
 | y :: r,k,v,h=>by
  simp only [List.map_cons,List.nodup_cons] at h
  unfold putG
  split
  ·rename_i e
   subst e
   simpa using h
  ·rename_i e
   simp only [List.map_cons,List.nodup_cons]
   refine ⟨fun hm=>?_,putG_nodup k v h.2⟩
   obtain ⟨x,hx,hxe⟩:=List.mem_map.1 hm
   rcases putG_keys r k v x hx with h1 | ⟨z,hz,h1⟩
   ·exact e (hxe ▸ h1)
   ·exact h.1 (List.mem_map.2 ⟨z,hz,h1.trans hxe⟩)
end
section
variable {κ ν:Type}
structure MapL (MT KT VT:TypeId) (kv:κ→Value) (vv:ν→Value) (ok:κ→Prop) (z:ν):Prop where
 und:Tryd.prog.underlying MT=some (.map KT VT)
 law:Maps.Keyed Tryd.prog KT
 key:∀ k,ok k→∃ l,keyOf Tryd.prog KT (kv k)=some l
 inj:∀ a b,kv a=kv b→a=b
 zero:∀ w,(zeroValue VT).run Tryd.prog w = .ok (vv z) w
def MpG (kv:κ→Value) (vv:ν→Value) (ok:κ→Prop) (w:World) (g:Nat) (m:List (κ×ν)):Prop :=
 ∃ es c,w.heap[g]? = some (.map es c)∧es.toList.map (fun e=>(e.key,e.val))=m.map (fun x=>(kv x.1,vv x.2))∧(m.map (·.1)).Nodup∧∀ x ∈ m,ok x.1
theorem MpG.keep {kv:κ→Value} {vv:ν→Value} {ok:κ→Prop} {w w':World} {g:Nat} {m:List (κ×ν)} (h:MpG kv vv ok w g m) (hk:w'.heap[g]? = w.heap[g]?):MpG kv vv ok w' g m:=by
 obtain ⟨es,c,h1,h2⟩:=h
 exact ⟨es,c,hk.trans h1,h2⟩
theorem MpG.lt {kv:κ→Value} {vv:ν→Value} {ok:κ→Prop} {w:World} {g:Nat} {m:List (κ×ν)} (h:MpG kv vv ok w g m):g<w.heap.size:=by
 obtain ⟨es,c,h1,-⟩:=h
 exact (Array.getElem?_eq_some_iff.1 h1).1
theorem MpG.nx {kv:κ→Value} {vv:ν→Value} {ok:κ→Prop} {w w':World} {g:Nat} {m:List (κ×ν)} (h:MpG kv vv ok w g m) (hn:Nx w w'):MpG kv vv ok w' g m:=h.keep (hn.block g h.lt)
theorem MpG.nil_ (kv:κ→Value) (vv:ν→Value) (ok:κ→Prop) (w:World):MpG kv vv ok (w.alloc (.map #[] 0)) w.heap.size ([]:List (κ×ν)):=⟨#[],0,heap_alloc_new w _,rfl,List.nodup_nil,fun _ h=>by cases h⟩
variable {MT KT VT:TypeId} {kv:κ→Value} {vv:ν→Value} {ok:κ→Prop} {z:ν}
theorem MapL.found (L:MapL MT KT VT kv vv ok z) (w:World) {es:Array MapEntry} {m:List (κ×ν)} (h:es.toList.map (fun e=>(e.key,e.val))=m.map (fun x=>(kv x.1,vv x.2))) (ho:∀ x ∈ m,ok x.1) (k:κ) (hk:ok k) :
  ((Instr.findKey KT (kv k) es.toList).run Tryd.prog w = .ok none w∧∀ x ∈ m,x.1≠k) ∨
  ∃ j e v,(Instr.findKey KT (kv k) es.toList).run Tryd.prog w = .ok (some (j,vv v)) w∧es.toList[j]? = some e∧e.key=kv k∧m[j]? = some (k,v):=by
 obtain ⟨kl,hkl⟩:=L.key k hk
 have hget:∀ j:Nat,(es.toList[j]?).map (fun e:MapEntry=>(e.key,e.val))=(m[j]?).map (fun x:κ×ν=>(kv x.1,vv x.2)):=fun j=>by
  have:=congrArg (fun l:List (Value×Value)=>l[j]?) h
  simpa using this
 have hkeys:∀ e ∈ es.toList,∃ l,keyOf Tryd.prog KT e.key=some l:=fun e he=>by
  obtain ⟨j,hj⟩:=List.getElem?_of_mem he
  have:=hget j
  rw [hj] at this
  obtain ⟨x,hx,e2⟩:=Option.map_eq_some_iff.1 this.symm
  obtain ⟨l,hl⟩:=L.key x.1 (ho x (List.mem_of_getElem? hx))
  exact ⟨l,by rw [← (Prod.mk.inj e2).1];exact hl⟩
 rcases L.law.find w hkl es.toList hkeys with ⟨h1,h2⟩ | ⟨j,e,h1,h2,h3⟩
 ·refine .inl ⟨h1,fun x hx e=>?_⟩
  obtain ⟨j,hj⟩:=List.getElem?_of_mem hx
  have:=hget j
  rw [hj] at this
  obtain ⟨y,hy,e2⟩:=Option.map_eq_some_iff.1 this
  exact h2 y (List.mem_of_getElem? hy) (by rw [(Prod.mk.inj e2).1,e])
 ·have:=hget j
  rw [h2] at this
  obtain ⟨⟨k',v⟩,hx,e2⟩:=Option.map_eq_some_iff.1 this.symm
  obtain ⟨e3,e4⟩:=Prod.mk.inj e2
  obtain rfl:k'=k:=L.inj _ _ (e3.trans h3)
  exact .inr ⟨j,e,v,by rw [h1,← e4],h2,h3,hx⟩
end
section
variable {κ ν:Type} [DecidableEq κ] {MT KT VT:TypeId} {kv:κ→Value} {vv:ν→Value} {ok:κ→Prop} {z:ν}
theorem MapL.look (L:MapL MT KT VT kv vv ok z) {w:World} {g:Nat} {m:List (κ×ν)} (h:MpG kv vv ok w g m) (k:κ) (hk:ok k) :
  (Instr.lookup MT (.map (some g)) (kv k) false).run Tryd.prog w = .ok (vv ((getG m k).getD z)) w ∧
  (Instr.lookup MT (.map (some g)) (kv k) true).run Tryd.prog w = .ok (.tuple #[vv ((getG m k).getD z),.bool (getG m k).isSome]) w:=by
 obtain ⟨es,c,hg,h2,hd,ho⟩:=h
 obtain ⟨kl,hkl⟩:=L.key k hk
 rcases L.found w h2 ho k hk with ⟨h1,h3⟩ | ⟨j,e,v,h1,h3,h4,h5⟩
 ·rw [getG_none h3]
  constructor <;> simp [Instr.lookup,run_underlying L.und,MapKept.run_getObj_map hg,L.law.check w es.isEmpty hkl,h1,L.zero,Result.andThen]
 ·rw [show getG m k=some v from getG_at (x:=(k,v)) hd h5]
  constructor <;> simp [Instr.lookup,run_underlying L.und,MapKept.run_getObj_map hg,L.law.check w es.isEmpty hkl,h1,Result.andThen]
theorem MapL.put (L:MapL MT KT VT kv vv ok z) {w:World} {g:Nat} {m:List (κ×ν)} (h:MpG kv vv ok w g m) (k:κ) (v:ν) (hk:ok k) :
  ∃ o,(Instr.mapUpdate MT (.map (some g)) (kv k) (vv v)).run Tryd.prog w = .ok () (ChangeMaps.setBlock w g o)∧MpG kv vv ok (ChangeMaps.setBlock w g o) g (putG m k v):=by
 obtain ⟨es,c,hg,h2,hd,ho⟩:=h
 obtain ⟨kl,hkl⟩:=L.key k hk
 have hlt:=(Array.getElem?_eq_some_iff.1 hg).1
 have hnew:∀ o,(ChangeMaps.setBlock w g o).heap[g]? = some o:=fun o=>by simp [ChangeMaps.setBlock,hlt]
 have hok:∀ x ∈ putG m k v,ok x.1:=fun x hx=>by
  rcases putG_mem m k v x hx with rfl | hx
  ·exact hk
  ·exact ho x hx
 rcases L.found w h2 ho k hk with ⟨h1,h3⟩ | ⟨j,e,u,h1,h3,h4,h5⟩
 ·refine ⟨.map (es.push ⟨kv k,vv v,c⟩) (c+1),?_,es.push ⟨kv k,vv v,c⟩,c+1,hnew _,?_,putG_nodup k v hd,hok⟩
  ·simp [Instr.mapUpdate,run_underlying L.und,MapKept.run_getObj_map hg,L.law.check w false hkl,h1,MapKept.run_setObj_map _ hg,Result.andThen,ChangeMaps.setBlock]
  ·rw [putG_none v h3,Array.toList_push,List.map_append,List.map_append,h2];rfl
 ·have hj:es[j]? = some e:=by simpa using h3
  have hlist:(es.modify j (fun e'=>{ e' with key:=kv k,val:=vv v })).toList=es.toList.set j { e with key:=kv k,val:=vv v }:=by rw [Array.toList_modify,ChangeMaps.modify_eq_set _ _ _ _ h3]
  refine ⟨.map (es.modify j (fun e'=>{ e' with key:=kv k,val:=vv v })) c,?_,es.modify j (fun e'=>{ e' with key:=kv k,val:=vv v }),c,hnew _,?_,putG_nodup k v hd,hok⟩
  ·simp [Instr.mapUpdate,run_underlying L.und,MapKept.run_getObj_map hg,L.law.check w false hkl,h1,hj,h4,L.law.stays w hkl,MapKept.run_setObj_map _ hg,Result.andThen,ChangeMaps.setBlock]
  ·rw [hlist,show putG m k v=m.set j (k,v) from putG_at (x:=(k,u)) v hd h5,List.map_set,List.map_set,h2]
end
theorem setBlock_keep {w:World} {g j:Nat} {o:Obj} (hj:j≠g):(ChangeMaps.setBlock w g o).heap[j]? = w.heap[j]?:=by
 simp only [ChangeMaps.setBlock];rw [Array.getElem?_setIfInBounds_ne (Ne.symm hj)]
end Go.Proofs.YtnfelopknfdpfaaDoor
namespace Go.Proofs.YtnfelopknfdpfaaDoor
open Go.RowKit
structure FrW (W B:Nat) (w w':World):Prop where
 os:w'.os=w.os
 tape:w'.tape=w.tape
 output:w'.output=w.output
 size:w.heap.size≤w'.heap.size
 block:∀ k,k<w.heap.size→(k<W∨B≤k)→w'.heap[k]? = w.heap[k]?
theorem FrW.refl (W B:Nat) (w:World):FrW W B w w:=⟨rfl,rfl,rfl,Nat.le_refl _,fun _ _ _=>rfl⟩
theorem FrW.trans {W B:Nat} {x y z:World} (h:FrW W B x y) (k:FrW W B y z):FrW W B x z :=
 ⟨k.os.trans h.os,k.tape.trans h.tape,k.output.trans h.output,Nat.le_trans h.size k.size,fun i hi hb=>(k.block i (Nat.lt_of_lt_of_le hi h.size) hb).trans (h.block i hi hb)⟩
theorem FrW.nx {W B:Nat} {w w':World} (h:Nx w w'):FrW W B w w':=⟨h.os,h.tape,h.output,h.size,fun k hk _=>h.block k hk⟩
theorem FrW.oth {W B g:Nat} {w w':World} (h:Oth g w w') (h1:W≤g) (h2:g<B):FrW W B w w':=⟨h.os,h.tape,h.output,h.size,fun k hk hb=>h.block k hk (by omega)⟩
theorem FrW.to {W B:Nat} {w0 w w':World} (h:FrW W B w w') (hn:Nx w0 w) (hW:w0.heap.size≤W):Nx w0 w' :=
 ⟨h.os.trans hn.os,h.tape.trans hn.tape,h.output.trans hn.output,Nat.le_trans hn.size h.size,fun k hk=>(h.block k (Nat.lt_of_lt_of_le hk hn.size) (.inl (by omega))).trans (hn.block k hk)⟩
theorem FrW.blk {W B:Nat} {w w':World} {b g:Nat} {cs:Array Value} {T:TypeId} (h:FrW W B w w') (k:Blk w b g cs T) (hg:B≤g):Blk w' b g cs T :=
 ⟨k.1,by rw [h.block g k.lt (.inr hg)];exact k.2⟩
theorem FrW.own {α:Type} {f:α→Value} {e:TypeId} {W B:Nat} {w w':World} {v:Value} {xs:List α} {b:Nat} (h:FrW W B w w') (k:Own f e w b v xs) (hb:B≤b):Own f e w' b v xs:=by
 obtain ⟨h1,h2⟩:=k
 refine ⟨h1,?_⟩
 rcases h2 with h2 | ⟨g,cap,cur,hv,hg,hh,r⟩
 ·exact .inl h2
 ·refine .inr ⟨g,cap,cur,hv,hg,?_,r⟩
  rw [h.block g ?_ (.inr (by omega))];exact hh
  rcases Nat.lt_or_ge g w.heap.size with h | h
  ·exact h
  ·rw [Array.getElem?_eq_none h] at hh;cases hh
theorem FrW.bel {W B b:Nat} {x y z:World} (h:FrW W B x y) (k:Below b y z) (hb:x.heap.size≤b):FrW W B x z :=
 ⟨k.os.trans h.os,k.tape.trans h.tape,k.output.trans h.output,Nat.le_trans h.size k.size,fun i hi hc=>(k.block i (by omega)).trans (h.block i hi hc)⟩
theorem setB_oth (w:World) (g:Nat) (o:Obj):Oth g w (ChangeMaps.setBlock w g o):=⟨rfl,rfl,rfl,by simp [ChangeMaps.setBlock],fun k hk hb=>setBlock_keep hb⟩
end Go.Proofs.YtnfelopknfdpfaaDoor
namespace Go.Proofs.YtnfelopknfdpfaaDoor
open Go.RowKit
def wputs (w:World) (g:Nat):Nat→List Value→World
 | _,[]=>w
 | i,v :: r=>wputs (w.setCell ⟨g,i,none⟩ v) g (i+1) r
def putC (cs:Array Value):Nat→List Value→Array Value
 | _,[]=>cs
 | i,v :: r=>putC (cs.setIfInBounds i v) (i+1) r
theorem putC_get:∀ (vs:List Value) (cs:Array Value) (i j:Nat),(putC cs i vs)[j]? = if i≤j∧j<i+vs.length∧j<cs.size then vs[j - i]? else cs[j]?
 | [],cs,i,j=>by
  rw [if_neg (by simp;omega)];rfl
 | v :: r,cs,i,j=>by
  show (putC (cs.setIfInBounds i v) (i+1) r)[j]? = _
  rw [putC_get r _ (i+1) j,Array.size_setIfInBounds]
  by_cases h1:i+1≤j∧j<i+1+r.length∧j<cs.size
  ·rw [if_pos h1,if_pos (by simp only [List.length_cons];omega),show j - i=(j - (i+1))+1 by omega,List.getElem?_cons_succ]
  ·rw [if_neg h1,Array.getElem?_setIfInBounds]
   by_cases h2:i=j
   ·subst h2
    by_cases h3:i<cs.size
    ·rw [if_pos rfl,if_pos h3,if_pos ⟨Nat.le_refl _,by rw [List.length_cons];omega,h3⟩,Nat.sub_self];rfl
    ·rw [if_pos rfl,if_neg h3,if_neg (fun h=>h3 h.2.2),Array.getElem?_eq_none (by omega)]
   ·rw [if_neg h2,if_neg (by simp only [List.length_cons];omega)]
theorem putC_all {vs:List Value} {cs:Array Value} (h:vs.length=cs.size):putC cs 0 vs=vs.toArray:=by
 have hz:(putC cs 0 vs).size=cs.size:=by
  have:∀ (vs:List Value) (cs:Array Value) (i:Nat),(putC cs i vs).size=cs.size:=fun vs=>by
   induction vs with
   | nil=>exact fun _ _=>rfl
   | cons v r ih=>intro cs i;show (putC _ _ r).size=_;rw [ih,Array.size_setIfInBounds]
  exact this vs cs 0
 apply Array.ext_getElem?
 intro j
 rw [putC_get]
 by_cases hj:j<cs.size
 ·rw [if_pos ⟨Nat.zero_le _,by omega,hj⟩];simp
 ·rw [if_neg (by omega),Array.getElem?_eq_none (by omega),Array.getElem?_eq_none (by simp;omega)]
section
variable {w w':World} {B g k b:Nat} {cs:Array Value} {T:TypeId}
theorem Blk.puts:∀ (vs:List Value) {w:World} {cs:Array Value} (i:Nat),Blk w B g cs T→Blk (wputs w g i vs) B g (putC cs i vs) T
 | [],_,_,_,h=>h
 | v :: r,_,_,i,h=>Blk.puts r (i+1) (h.put i v)
theorem Blk.putAll (h:Blk w B g cs T) (vs:List Value) (hl:vs.length=cs.size):Blk (wputs w g 0 vs) B g vs.toArray T:=by
 have:=h.puts vs 0
 rw [putC_all hl] at this
 exact this
theorem Blk.apart (hk:k≠g):∀ (vs:List Value) {w:World} (i:Nat),Blk w B g cs T→Blk (wputs w k i vs) B g cs T
 | [],_,_,h=>h
 | v :: r,_,i,h=>Blk.apart hk r (i+1) (h.other hk i v)
theorem Oth.puts (hg:w.heap.size≤g):∀ (vs:List Value) {w':World} (i:Nat),Oth b w w'→Oth b w (wputs w' g i vs)
 | [],_,_,h=>h
 | v :: r,_,i,h=>Oth.puts hg r (i+1) (h.put hg i v)
theorem Nx.puts (hg:w.heap.size≤g):∀ (vs:List Value) {w':World} (i:Nat),Nx w w'→Nx w (wputs w' g i vs)
 | [],_,_,h=>h
 | v :: r,_,i,h=>Nx.puts hg r (i+1) (h.put' hg i v)
end
end Go.Proofs.YtnfelopknfdpfaaDoor
namespace Go.Proofs.YtnfelopknfdpfaaDoor
open Go.RowKit
def tv (l:List UInt8):Value:=.string ⟨l.toArray⟩
def ptO (g:Option Nat):Value:=.pointer (g.map fun g=>⟨g,0,none⟩)
def okT (k:List UInt8):Prop:=k.length≤8000
def okZ (k:Int):Prop:=-9223372036854775808≤k∧k≤9223372036854775807
def izV (n:Int):Value:=.int .i64 n
def unV (_:Unit):Value:=.agg #[]
theorem keyZ (T:TypeId) (hu:Tryd.prog.underlying T=some (.int .i64)) (k:Int) (h:okZ k):∃ l,keyOf Tryd.prog T (izV k)=some l:=by
 have hwf:(Lit.int .i64 k).wf=true:=by
  have a1:IntKind.i64.min = -9223372036854775808:=by decide
  have a2:IntKind.i64.max=9223372036854775807:=by decide
  unfold okZ at h
  simp only [Lit.wf,a1,a2,Bool.and_eq_true,decide_eq_true_eq];omega
 exact ⟨.int .i64 k,Maps.keyOf_int_mk hu hwf⟩
theorem mapT:MapL 71 9 59 tv ptO okT none where
 und:=Tryd.underlying71
 law:=Maps.string_keyed Tryd.underlying9
 key:=fun k h=>⟨.string k,Go.WideMaps.keyOf_string_mk (P:=Tryd.prog) Tryd.underlying9 (s:=⟨k.toArray⟩) (by show k.toArray.size≤maxLen;unfold okT at h;unfold maxLen;simp;omega)⟩
 inj:=fun a b h=>by unfold tv at h;simpa using h
 zero:=fun w=>by kernel_rfl
theorem mapZ:MapL 88 3 3 izV izV okZ 0 where
 und:=Tryd.underlying88
 law:=Maps.int_keyed Tryd.underlying3
 key:=keyZ _ Tryd.underlying3
 inj:=fun a b h=>by unfold izV at h;simpa using h
 zero:=fun w=>by kernel_rfl
theorem mapE:MapL 75 2 102 izV unV okZ () where
 und:=Tryd.underlying75
 law:=Maps.int_keyed Tryd.underlying2
 key:=keyZ _ Tryd.underlying2
 inj:=fun a b h=>by unfold izV at h;simpa using h
 zero:=fun w=>by kernel_rfl
def shB (k:Nat):Array Value:=#[.int .i64 (k:Int),.string ⟨#[]⟩,.string ⟨#[]⟩,.pointer none,.map none]
structure Chk (W B gc gm:Nat) (s0 s1 s2:Value) (n:Int) (m:List (List UInt8×Option Nat)) (w:World):Prop where
 c1:W≤gc
 c2:gc<B
 m1:W≤gm
 m2:gm<B
 ne:gc≠gm
 sz:B≤w.heap.size
 blk:Blk w W gc #[s0,s1,s2,.map (some gm),.int .i64 n] 73
 mp:MpG tv ptO okT w gm m
 sh:∀ x ∈ m,∀ k,baseT x.1=some k→∃ g,x.2=some g∧Blk w B g (shB k) 77
theorem FrW.mpb {κ ν:Type} {kv:κ→Value} {vv:ν→Value} {ok:κ→Prop} {W B g:Nat} {w w':World} {m:List (κ×ν)} (h:FrW W B w w') (k:MpG kv vv ok w g m) (hg:B≤g):MpG kv vv ok w' g m:=k.keep (h.block g k.lt (.inr hg))
theorem Chk.cnt {W B gc gm:Nat} {s0 s1 s2:Value} {n n':Int} {m:List (List UInt8×Option Nat)} {w:World} (h:Chk W B gc gm s0 s1 s2 n m w):Chk W B gc gm s0 s1 s2 n' m (w.setCell ⟨gc,4,none⟩ (.int .i64 n')):=by
 refine ⟨h.c1,h.c2,h.m1,h.m2,h.ne,by simp only [World.setCell,Array.size_modify];exact h.sz,h.blk.put 4 (.int .i64 n'),?_,fun x hx k hk=>?_⟩
 ·refine h.mp.keep ?_
  simp only [World.setCell];rw [Array.getElem?_modify,if_neg h.ne]
 ·obtain ⟨g,e,hb⟩:=h.sh x hx k hk
  exact ⟨g,e,hb.other (by have:=hb.1;have:=h.c2;omega) 4 _⟩
theorem Chk.nx {W B gc gm:Nat} {s0 s1 s2:Value} {n:Int} {m:List (List UInt8×Option Nat)} {w w':World} (h:Chk W B gc gm s0 s1 s2 n m w) (hn:Nx w w'):Chk W B gc gm s0 s1 s2 n m w' :=
 ⟨h.c1,h.c2,h.m1,h.m2,h.ne,Nat.le_trans h.sz hn.size,h.blk.below hn,h.mp.nx hn,fun x hx k hk=>by
  obtain ⟨g,e,hb⟩:=h.sh x hx k hk
  exact ⟨g,e,hb.below hn⟩⟩
theorem FrW.cnt {W B gc gm:Nat} {s0 s1 s2:Value} {n n':Int} {m:List (List UInt8×Option Nat)} {w:World} (h:Chk W B gc gm s0 s1 s2 n m w):FrW W B w (w.setCell ⟨gc,4,none⟩ (.int .i64 n')):=FrW.oth (Oth.set _ _ _ _) h.c1 h.c2
theorem Chk.putm {W B gc gm:Nat} {s0 s1 s2:Value} {n:Int} {m m':List (List UInt8×Option Nat)} {w:World} {o:Obj} (h:Chk W B gc gm s0 s1 s2 n m w) (hm:MpG tv ptO okT (ChangeMaps.setBlock w gm o) gm m')
  (hs:∀ x ∈ m',∀ k,baseT x.1=some k→∃ g,x.2=some g∧Blk w B g (shB k) 77):Chk W B gc gm s0 s1 s2 n m' (ChangeMaps.setBlock w gm o):=by
 have ho:=setB_oth w gm o
 refine ⟨h.c1,h.c2,h.m1,h.m2,h.ne,Nat.le_trans h.sz ho.size,ho.blk h.blk h.ne,hm,fun x hx k hk=>?_⟩
 obtain ⟨g,e,hb⟩:=hs x hx k hk
 exact ⟨g,e,ho.blk hb (by have:=hb.1;have:=h.m2;omega)⟩
theorem FrW.putm {W B gc gm:Nat} {s0 s1 s2:Value} {n:Int} {m:List (List UInt8×Option Nat)} {w:World} {o:Obj} (h:Chk W B gc gm s0 s1 s2 n m w):FrW W B w (ChangeMaps.setBlock w gm o):=FrW.oth (setB_oth w gm o) h.m1 h.m2
end Go.Proofs.YtnfelopknfdpfaaDoor
namespace Go.Proofs.YtnfelopknfdpfaaDoor
def bareV:Val→Prop
 | .mk k a s l i=>s=[]∧l=[]∧i=[]
end Go.Proofs.YtnfelopknfdpfaaDoor
namespace Go.Proofs.YtnfelopknfdpfaaDoor
open Go.RowKit
def IsSlv (v:Value):Prop:=∃ A u c,v = .slice A u c
def CopyC (n:Nat):Prop:=∀ (w:World) (x:ValS) (A:Val),RdV n w x A→bareV A →
 Calls Tryd.prog 20 #[.agg (valA x)] w fun e w'=>∃ y,e = .returned (.agg (valA y))∧RdV n w' y A∧IsSlv y.l∧IsSlv y.ids∧Nx w w'
theorem RdO.blk {w:World} {B g:Nat} {xs:List ValS} {T:TypeId} (h:Blk w B g (rowL valA xs).toArray T):RdO w (some ⟨g,0,none⟩) xs:=fun _ =>
 ⟨g,0,rfl,h.lt,fun i hi j hj=>by
  rw [h.cell,Nat.zero_add,← rowL_get valA_size xs i hi j hj];simp⟩
end Go.Proofs.YtnfelopknfdpfaaDoor
namespace Go.Proofs.YtnfelopknfdpfaaDoor
open Go.RowKit
def nmN:List (List UInt8)→List UInt8→Option Nat
 | [],_=>none
 | x :: r,t=>if x=t then some 0 else (nmN r t).map (· + 1)
def nmI (l:List (List UInt8)) (t:List UInt8):Int:=match nmN l t with
 | none=>-1
 | some i=>(i:Int)
theorem nmN_none:∀ {l:List (List UInt8)} {t:List UInt8},(∀ i (h:i<l.length),l[i]≠t)→nmN l t=none
 | [],_,_=>rfl
 | x :: r,t,h=>by
  unfold nmN
  have h0:x≠t:=h 0 (by simp)
  rw [if_neg h0,nmN_none fun i hi=>h (i+1) (by simpa using hi)];rfl
theorem nmN_at:∀ {l:List (List UInt8)} {t:List UInt8} (i:Nat) (hi:i<l.length),l[i]=t→(∀ j (h:j<i),l[j]≠t)→nmN l t=some i
 | x :: r,t,0,_,e,_=>if_pos e
 | x :: r,t,i+1,hi,e,h=>by
  unfold nmN
  have h0:x≠t:=h 0 (by omega)
  rw [if_neg h0,nmN_at i (by simpa using hi) e fun j hj=>h (j+1) (by omega)];rfl
set_option maxRecDepth 100000 in
set_option maxHeartbeats 1600000 in
theorem sA1_any (w:World) (x:StrS) (gq:Nat) (m:List UInt8) (hx:IsSlv x.fl) (hq:w.cell? ⟨gq,0,none⟩=some (.string ⟨m.toArray⟩)) (hl:gq<w.heap.size) :
  Calls Tryd.prog 31 #[.agg (strA x),.pointer (some ⟨gq,0,none⟩)] w fun e w'=>e = .returned (.bool (decide (x.nm=m)))∧Nx w w':=by
 obtain ⟨xk,xn,xl⟩:=x
 obtain ⟨lA,lu,lc,rfl⟩:=hx
 obtain ⟨B,hB⟩:∃ B,(xn == m)=B:=⟨_,rfl⟩
 have hB2:decide (xn=m)=B:=by rw [← hB,Bool.eq_iff_iff];simp
 obtain ⟨gx,hgx⟩:∃ g,w.heap.size=g:=⟨_,rfl⟩
 obtain ⟨w1,hw⟩:∃ w1,w.alloc (.cells #[.int .i64 xk,.string ⟨xn.toArray⟩,.slice lA lu lc] 48)=w1:=⟨_,rfl⟩
 have hbx:Blk w1 gx gx #[.int .i64 xk,.string ⟨xn.toArray⟩,.slice lA lu lc] 48:=by rw [← hw,← hgx];exact Blk.new w _ _
 have HN1:Hid (Nx w w1):=by unfold Hid;rw [← hw];exact nx0 w _
 have q0:w1.cell? ⟨gq,0,none⟩=some (.string ⟨m.toArray⟩):=(HN1.out.cell (p:=⟨gq,0,none⟩) hl).trans hq
 have x0:w1.cell? ⟨gx,1,none⟩=some (.string ⟨xn.toArray⟩):=hbx.cell 1
 show Calls _ _ #[.agg #[.int .i64 xk,.string ⟨xn.toArray⟩,.slice lA lu lc],.pointer (some ⟨gq,0,none⟩)] _ _
 dsimp only
 rw [hB2]
 clear hbx hq hl hB2
 go_enter Tryd.func31,Tryd.ntmps31
 go_wp2_with fail
 go_ret
 exact ⟨rfl,HN1.out⟩
set_option maxRecDepth 100000 in
set_option maxHeartbeats 1600000 in
theorem sAx_any (w:World) (A:Option Addr) (n c:Nat) (xs:List StrS) (hn:xs.length=n) (hrd:RdR strA 3 w A xs) (hsl:∀ x ∈ xs,IsSlv x.fl) (hn9:n≤1000) (gq:Nat) (l:List UInt8) (hq:w.cell? ⟨gq,0,none⟩=some (.string ⟨l.toArray⟩)) (hgq:gq<w.heap.size) :
  Calls Tryd.prog 30 #[.slice A n c,.func (.func 31) #[] #[.pointer (some ⟨gq,0,none⟩)]] w fun e w'=>e = .returned (.int .i64 (nmI (xs.map (·.nm)) l))∧Nx w w':=by
 have HRD:=Lib.hid hrd
 have HSL:=Lib.hid hsl
 have HN:=Lib.hid hn
 have HQ:=Lib.hid hq
 have HGQ:=Lib.hid hgq
 obtain ⟨I,hI⟩:∃ I,Hid (nmI (xs.map (·.nm)) l=I):=⟨_,rfl⟩
 rw [hI.out]
 clear hrd hn hq hgq hsl
 go_enter Tryd.func30,Tryd.ntmps30
 go_wp2_with fail
 go_loopw [8] (fun v wr=>∃ j:Nat,v = .int .i64 j∧j≤n∧Nx w wr∧Hid (∀ m (h:m<j) (hm:m<xs.length),xs[m].nm≠l)) (fun v _=>(n - intOf v).toNat)
 case atStart=>exact ⟨0,rfl,Nat.zero_le _,Nx.refl _,fun m h=>absurd h (by omega)⟩
 case round =>
  obtain ⟨j,rfl,hj,hnx,HNO⟩:=hrel
  have HNX:=Lib.hid hnx
  clear hnx
  have hj9:(j:Int)≤1000:=by omega
  by_cases hlt:j<n
  ·have q1:decide ((j:Int)<(n:Int))=true:=decide_eq_true (by omega)
   have q2:(j:Int)<(n:Int):=by omega
   have hjx:j<xs.length:=by rw [HN.out];exact hlt
   obtain ⟨g,off,rfl,hg,hc⟩:=HRD.out (by omega)
   have hsx:=HSL.out xs[j] (List.getElem_mem hjx)
   obtain ⟨⟨xk,xn,xl⟩,hy⟩:∃ y,xs[j]=y:=⟨_,rfl⟩
   rw [hy] at hsx
   have hcell:∀ q,q<3→wr.cell? ⟨g,off+j * 3+q,none⟩=(strA ⟨xk,xn,xl⟩)[q]?:=fun q hq=>by
    rw [← hy,← hc j hjx q hq]
    exact HNX.out.cell (p:=⟨g,off+j * 3+q,none⟩) hg
   have HCA:=sA1_any wr ⟨xk,xn,xl⟩ gq l hsx ((HNX.out.cell (p:=⟨gq,0,none⟩) HGQ.out).trans HQ.out) (Nat.lt_of_lt_of_le HGQ.out HNX.out.size)
   obtain ⟨lA,lu,lc,hxl⟩:=hsx
   dsimp only at hxl
   subst hxl
   have e0:wr.cell? ⟨g,off+j * 3,none⟩=some (.int .i64 xk):=hcell 0 (by decide)
   have e1:wr.cell? ⟨g,off+j * 3+1,none⟩=some (.string ⟨xn.toArray⟩):=hcell 1 (by decide)
   have e2:wr.cell? ⟨g,off+j * 3+2,none⟩=some (.slice lA lu lc):=hcell 2 (by decide)
   have HLT:=Lib.hid hlt
   rw [show strA ⟨xk,xn,.slice lA lu lc⟩=#[.int .i64 xk,.string ⟨xn.toArray⟩,.slice lA lu lc] from rfl] at HCA
   dsimp only at HCA
   by_cases hyl:xn=l
   ·rw [decide_eq_true hyl] at HCA
    have HC2:=Lib.hid HCA
    have HX:Hid (I=(j:Int)):=by
     unfold Hid;rw [← hI.out];unfold nmI
     rw [nmN_at j (by rw [List.length_map];exact hjx) (by rw [List.getElem_map,hy];exact hyl) fun m hm=>by rw [List.getElem_map];exact HNO.out m hm (by omega)]
    clear hy hc hg hjx hyl hcell HCA
    go_wp2_with fail
    refine HC2.out.mono ?_;rintro e w4 ⟨rfl,hn4⟩
    go_wp2_with fail
    go_ret
    exact ⟨by rw [HX.out];rfl,HNX.out.trans hn4⟩
   ·rw [decide_eq_false hyl] at HCA
    have HC2:=Lib.hid HCA
    have HNO2:Hid (∀ m (h:m<j+1) (hm:m<xs.length),xs[m].nm≠l):=by
     intro m h hm
     rcases Nat.lt_or_ge m j with h2 | h2
     ·exact HNO.out m h2 hm
     ·obtain rfl:m=j:=by omega
      rw [hy];exact hyl
    clear hy hc hg hjx hyl hcell HCA
    go_wp2_with fail
    refine HC2.out.mono ?_;rintro e w4 ⟨rfl,hn4⟩
    have HN4:=Lib.hid (HNX.out.trans hn4)
    clear hn4
    go_wp2_with fail
    go_roundw
    case rel=>exact ⟨j+1,by go_num,HLT.out,HN4.out,HNO2⟩
    case measure=>have:=HLT.out;simp [intOf];omega
  ·have q1:decide ((j:Int)<(n:Int))=false:=decide_eq_false (by omega)
   have q2:¬ (j:Int)<(n:Int):=by omega
   have HX:Hid (I = -1):=by
    unfold Hid;rw [← hI.out];unfold nmI
    rw [nmN_none fun m hm=>by rw [List.getElem_map];exact HNO.out m (by have:=HN.out;rw [List.length_map] at hm;omega) (by simpa using hm)]
   clear hlt
   go_wp2_with fail
   go_ret
   exact ⟨by rw [HX.out];rfl,HNX.out⟩
set_option maxRecDepth 100000 in
set_option maxHeartbeats 1600000 in
theorem eA1_any (w:World) (x:EnmS) (gq:Nat) (m:List UInt8) (hx:IsSlv x.ml) (hq:w.cell? ⟨gq,0,none⟩=some (.string ⟨m.toArray⟩)) (hl:gq<w.heap.size) :
  Calls Tryd.prog 44 #[.agg (enmA x),.pointer (some ⟨gq,0,none⟩)] w fun e w'=>e = .returned (.bool (decide (x.nm=m)))∧Nx w w':=by
 obtain ⟨xn,xl⟩:=x
 obtain ⟨lA,lu,lc,rfl⟩:=hx
 obtain ⟨B,hB⟩:∃ B,(xn == m)=B:=⟨_,rfl⟩
 have hB2:decide (xn=m)=B:=by rw [← hB,Bool.eq_iff_iff];simp
 obtain ⟨gx,hgx⟩:∃ g,w.heap.size=g:=⟨_,rfl⟩
 obtain ⟨w1,hw⟩:∃ w1,w.alloc (.cells #[.string ⟨xn.toArray⟩,.slice lA lu lc] 27)=w1:=⟨_,rfl⟩
 have hbx:Blk w1 gx gx #[.string ⟨xn.toArray⟩,.slice lA lu lc] 27:=by rw [← hw,← hgx];exact Blk.new w _ _
 have HN1:Hid (Nx w w1):=by unfold Hid;rw [← hw];exact nx0 w _
 have q0:w1.cell? ⟨gq,0,none⟩=some (.string ⟨m.toArray⟩):=(HN1.out.cell (p:=⟨gq,0,none⟩) hl).trans hq
 have x0:w1.cell? ⟨gx,0,none⟩=some (.string ⟨xn.toArray⟩):=hbx.cell 0
 show Calls _ _ #[.agg #[.string ⟨xn.toArray⟩,.slice lA lu lc],.pointer (some ⟨gq,0,none⟩)] _ _
 dsimp only
 rw [hB2]
 clear hbx hq hl hB2
 go_enter Tryd.func44,Tryd.ntmps44
 go_wp2_with fail
 go_ret
 exact ⟨rfl,HN1.out⟩
set_option maxRecDepth 100000 in
set_option maxHeartbeats 1600000 in
theorem eAx_any (w:World) (A:Option Addr) (n c:Nat) (xs:List EnmS) (hn:xs.length=n) (hrd:RdR enmA 2 w A xs) (hsl:∀ x ∈ xs,IsSlv x.ml) (hn9:n≤1000) (gq:Nat) (l:List UInt8) (hq:w.cell? ⟨gq,0,none⟩=some (.string ⟨l.toArray⟩)) (hgq:gq<w.heap.size) :
  Calls Tryd.prog 43 #[.slice A n c,.func (.func 44) #[] #[.pointer (some ⟨gq,0,none⟩)]] w fun e w'=>e = .returned (.int .i64 (nmI (xs.map (·.nm)) l))∧Nx w w':=by
 have HRD:=Lib.hid hrd
 have HSL:=Lib.hid hsl
 have HN:=Lib.hid hn
 have HQ:=Lib.hid hq
 have HGQ:=Lib.hid hgq
 obtain ⟨I,hI⟩:∃ I,Hid (nmI (xs.map (·.nm)) l=I):=⟨_,rfl⟩
 rw [hI.out]
 clear hrd hn hq hgq hsl
 go_enter Tryd.func43,Tryd.ntmps43
 go_wp2_with fail
 go_loopw [8] (fun v wr=>∃ j:Nat,v = .int .i64 j∧j≤n∧Nx w wr∧Hid (∀ m (h:m<j) (hm:m<xs.length),xs[m].nm≠l)) (fun v _=>(n - intOf v).toNat)
 case atStart=>exact ⟨0,rfl,Nat.zero_le _,Nx.refl _,fun m h=>absurd h (by omega)⟩
 case round =>
  obtain ⟨j,rfl,hj,hnx,HNO⟩:=hrel
  have HNX:=Lib.hid hnx
  clear hnx
  have hj9:(j:Int)≤1000:=by omega
  by_cases hlt:j<n
  ·have q1:decide ((j:Int)<(n:Int))=true:=decide_eq_true (by omega)
   have q2:(j:Int)<(n:Int):=by omega
   have hjx:j<xs.length:=by rw [HN.out];exact hlt
   obtain ⟨g,off,rfl,hg,hc⟩:=HRD.out (by omega)
   have hsx:=HSL.out xs[j] (List.getElem_mem hjx)
   obtain ⟨⟨xn,xl⟩,hy⟩:∃ y,xs[j]=y:=⟨_,rfl⟩
   rw [hy] at hsx
   have hcell:∀ q,q<2→wr.cell? ⟨g,off+j * 2+q,none⟩=(enmA ⟨xn,xl⟩)[q]?:=fun q hq=>by
    rw [← hy,← hc j hjx q hq]
    exact HNX.out.cell (p:=⟨g,off+j * 2+q,none⟩) hg
   have HCA:=eA1_any wr ⟨xn,xl⟩ gq l hsx ((HNX.out.cell (p:=⟨gq,0,none⟩) HGQ.out).trans HQ.out) (Nat.lt_of_lt_of_le HGQ.out HNX.out.size)
   obtain ⟨lA,lu,lc,hxl⟩:=hsx
   dsimp only at hxl
   subst hxl
   have e0:wr.cell? ⟨g,off+j * 2,none⟩=some (.string ⟨xn.toArray⟩):=hcell 0 (by decide)
   have e1:wr.cell? ⟨g,off+j * 2+1,none⟩=some (.slice lA lu lc):=hcell 1 (by decide)
   have HLT:=Lib.hid hlt
   rw [show enmA ⟨xn,.slice lA lu lc⟩=#[.string ⟨xn.toArray⟩,.slice lA lu lc] from rfl] at HCA
   dsimp only at HCA
   by_cases hyl:xn=l
   ·rw [decide_eq_true hyl] at HCA
    have HC2:=Lib.hid HCA
    have HX:Hid (I=(j:Int)):=by
     unfold Hid;rw [← hI.out];unfold nmI
     rw [nmN_at j (by rw [List.length_map];exact hjx) (by rw [List.getElem_map,hy];exact hyl) fun m hm=>by rw [List.getElem_map];exact HNO.out m hm (by omega)]
    clear hy hc hg hjx hyl hcell HCA
    go_wp2_with fail
    refine HC2.out.mono ?_;rintro e w4 ⟨rfl,hn4⟩
    go_wp2_with fail
    go_ret
    exact ⟨by rw [HX.out];rfl,HNX.out.trans hn4⟩
   ·rw [decide_eq_false hyl] at HCA
    have HC2:=Lib.hid HCA
    have HNO2:Hid (∀ m (h:m<j+1) (hm:m<xs.length),xs[m].nm≠l):=by
     intro m h hm
     rcases Nat.lt_or_ge m j with h2 | h2
     ·exact HNO.out m h2 hm
     ·obtain rfl:m=j:=by omega
      rw [hy];exact hyl
    clear hy hc hg hjx hyl hcell HCA
    go_wp2_with fail
    refine HC2.out.mono ?_;rintro e w4 ⟨rfl,hn4⟩
    have HN4:=Lib.hid (HNX.out.trans hn4)
    clear hn4
    go_wp2_with fail
    go_roundw
    case rel=>exact ⟨j+1,by go_num,HLT.out,HN4.out,HNO2⟩
    case measure=>have:=HLT.out;simp [intOf];omega
  ·have q1:decide ((j:Int)<(n:Int))=false:=decide_eq_false (by omega)
   have q2:¬ (j:Int)<(n:Int):=by omega
   have HX:Hid (I = -1):=by
    unfold Hid;rw [← hI.out];unfold nmI
    rw [nmN_none fun m hm=>by rw [List.getElem_map];exact HNO.out m (by have:=HN.out;rw [List.length_map] at hm;omega) (by simpa using hm)]
   clear hlt
   go_wp2_with fail
   go_ret
   exact ⟨by rw [HX.out];rfl,HNX.out⟩
end Go.Proofs.YtnfelopknfdpfaaDoor
namespace Go.Proofs.YtnfelopknfdpfaaDoor
open Go.RowKit
structure SchG (w:World) (s0 s1 s2:Value) (xs:List StrS) (ys:List EnmS):Prop where
 h0:∃ A c,s0 = .slice A xs.length c∧RdR strA 3 w A xs
 h1:∃ A c,s1 = .slice A ys.length c∧RdR enmA 2 w A ys
 h2:∃ A u c,s2 = .slice A u c
 l0:xs.length≤1000
 l1:ys.length≤1000
 v0:∀ x ∈ xs,IsSlv x.fl
 v1:∀ y ∈ ys,IsSlv y.ml
theorem SchG.nx {w w':World} {s0 s1 s2:Value} {xs:List StrS} {ys:List EnmS} (h:SchG w s0 s1 s2 xs ys) (hn:Nx w w'):SchG w' s0 s1 s2 xs ys:=by
 obtain ⟨⟨A,c,e,h0⟩,⟨A',c',e',h1⟩,h2,l0,l1,v0,v1⟩:=h
 exact ⟨⟨A,c,e,h0.nx hn⟩,⟨A',c',e',h1.nx hn⟩,h2,l0,l1,v0,v1⟩
set_option maxRecDepth 100000 in
set_option maxHeartbeats 1600000 in
theorem structAt_any (w:World) (s0 s1 s2:Value) (xs:List StrS) (ys:List EnmS) (hs:SchG w s0 s1 s2 xs ys) (l:List UInt8) :
  Calls Tryd.prog 18 #[.agg #[s0,s1,s2],.string ⟨l.toArray⟩] w fun e w'=>e = .returned (.int .i64 (nmI (xs.map (·.nm)) l))∧Nx w w':=by
 obtain ⟨⟨A,c,rfl,h0⟩,⟨A',c',rfl,h1⟩,⟨A2,u2,c2,rfl⟩,l0,l1,v0,v1⟩:=hs
 obtain ⟨g1,hg1⟩:∃ g,w.heap.size=g:=⟨_,rfl⟩
 obtain ⟨g2,hg2⟩:∃ g,g1+1=g:=⟨_,rfl⟩
 obtain ⟨w0,hw0⟩:∃ w1,w.alloc (.cells #[.slice A xs.length c,.slice A' ys.length c',.slice A2 u2 c2] 32)=w1:=⟨_,rfl⟩
 have hs0:w0.heap.size=g2:=by rw [← hw0,← hg2,← hg1];exact Array.size_push _
 obtain ⟨w1,hw1⟩:∃ w1,w0.alloc (.cells #[.string ⟨l.toArray⟩] 9)=w1:=⟨_,rfl⟩
 have hb1:Blk w1 g1 g1 #[.slice A xs.length c,.slice A' ys.length c',.slice A2 u2 c2] 32:=by rw [← hw1,← hw0,← hg1];exact (Blk.new w _ _).alloc _
 have hb2:Blk w1 g2 g2 #[.string ⟨l.toArray⟩] 9:=by rw [← hw1,← hs0];exact Blk.new w0 _ _
 have hn1:Nx w w1:=by rw [← hw1,← hw0];exact nx (nx0 _ _) (nx0 _ _)
 have HC:=Lib.hid (sAx_any w1 A xs.length c xs rfl (h0.nx hn1) v0 l0 g2 l (hb2.cell 0) hb2.lt)
 have a0:w1.cell? ⟨g1,0,none⟩=some (.slice A xs.length c):=hb1.cell 0
 have HN1:=Lib.hid hn1
 obtain ⟨I,hI⟩:∃ I,nmI (xs.map (·.nm)) l=I:=⟨_,rfl⟩
 obtain ⟨n,hn⟩:∃ n,xs.length=n:=⟨_,rfl⟩
 obtain ⟨n',hn'⟩:∃ n,ys.length=n:=⟨_,rfl⟩
 rw [hI] at HC ⊢
 rw [hn] at HC a0 hw0 ⊢
 rw [hn'] at hw0 ⊢
 clear h0 h1 l0 l1 v0 v1 hb1 hb2 hn1 hI hn hn'
 go_enter Tryd.func18,Tryd.ntmps18
 go_upto_region 1 with (fail)
 try rw [hw0]
 try rw [hw1]
 clear hw0 hw1 hg1 hg2 hs0
 go_wp2_with fail
 refine HC.out.mono ?_;rintro e w2 ⟨rfl,hn2⟩
 go_wp2_with fail
 go_ret
 exact ⟨rfl,HN1.out.trans hn2⟩
set_option maxRecDepth 100000 in
set_option maxHeartbeats 1600000 in
theorem enumAt_any (w:World) (s0 s1 s2:Value) (xs:List StrS) (ys:List EnmS) (hs:SchG w s0 s1 s2 xs ys) (l:List UInt8) :
  Calls Tryd.prog 35 #[.agg #[s0,s1,s2],.string ⟨l.toArray⟩] w fun e w'=>e = .returned (.int .i64 (nmI (ys.map (·.nm)) l))∧Nx w w':=by
 obtain ⟨⟨A,c,rfl,h0⟩,⟨A',c',rfl,h1⟩,⟨A2,u2,c2,rfl⟩,l0,l1,v0,v1⟩:=hs
 obtain ⟨g1,hg1⟩:∃ g,w.heap.size=g:=⟨_,rfl⟩
 obtain ⟨g2,hg2⟩:∃ g,g1+1=g:=⟨_,rfl⟩
 obtain ⟨w0,hw0⟩:∃ w1,w.alloc (.cells #[.slice A xs.length c,.slice A' ys.length c',.slice A2 u2 c2] 32)=w1:=⟨_,rfl⟩
 have hs0:w0.heap.size=g2:=by rw [← hw0,← hg2,← hg1];exact Array.size_push _
 obtain ⟨w1,hw1⟩:∃ w1,w0.alloc (.cells #[.string ⟨l.toArray⟩] 9)=w1:=⟨_,rfl⟩
 have hb1:Blk w1 g1 g1 #[.slice A xs.length c,.slice A' ys.length c',.slice A2 u2 c2] 32:=by rw [← hw1,← hw0,← hg1];exact (Blk.new w _ _).alloc _
 have hb2:Blk w1 g2 g2 #[.string ⟨l.toArray⟩] 9:=by rw [← hw1,← hs0];exact Blk.new w0 _ _
 have hn1:Nx w w1:=by rw [← hw1,← hw0];exact nx (nx0 _ _) (nx0 _ _)
 have HC:=Lib.hid (eAx_any w1 A' ys.length c' ys rfl (h1.nx hn1) v1 l1 g2 l (hb2.cell 0) hb2.lt)
 have a0:w1.cell? ⟨g1,1,none⟩=some (.slice A' ys.length c'):=hb1.cell 1
 have HN1:=Lib.hid hn1
 obtain ⟨I,hI⟩:∃ I,nmI (ys.map (·.nm)) l=I:=⟨_,rfl⟩
 obtain ⟨n,hn⟩:∃ n,xs.length=n:=⟨_,rfl⟩
 obtain ⟨n',hn'⟩:∃ n,ys.length=n:=⟨_,rfl⟩
 rw [hI] at HC ⊢
 rw [hn] at hw0 ⊢
 rw [hn'] at HC a0 hw0 ⊢
 clear h0 h1 l0 l1 v0 v1 hb1 hb2 hn1 hI hn hn'
 go_enter Tryd.func35,Tryd.ntmps35
 go_upto_region 1 with (fail)
 try rw [hw0]
 try rw [hw1]
 clear hw0 hw1 hg1 hg2 hs0
 go_wp2_with fail
 refine HC.out.mono ?_;rintro e w2 ⟨rfl,hn2⟩
 go_wp2_with fail
 go_ret
 exact ⟨rfl,HN1.out.trans hn2⟩
def findP (xs ys:List (List UInt8)) (l:List UInt8):Nat×Nat:=match nmN xs l with
 | some i=>(12,i)
 | none=>match nmN ys l with
  | some i=>(17,i)
  | none=>(0,0)
set_option maxRecDepth 100000 in
set_option maxHeartbeats 1600000 in
theorem find_any (w:World) (s0 s1 s2:Value) (xs:List StrS) (ys:List EnmS) (hs:SchG w s0 s1 s2 xs ys) (l:List UInt8) :
  Calls Tryd.prog 22 #[.agg #[s0,s1,s2],.string ⟨l.toArray⟩] w fun e w'=>e = .returned (.tuple #[.int .i64 ((findP (xs.map (·.nm)) (ys.map (·.nm)) l).1:Int),.int .i64 ((findP (xs.map (·.nm)) (ys.map (·.nm)) l).2:Int)])∧Nx w w':=by
 have HS:=Lib.hid hs
 obtain ⟨⟨A,c,rfl,-⟩,⟨A',c',rfl,-⟩,⟨A2,u2,c2,rfl⟩,-,-,-,-⟩:=hs
 obtain ⟨g1,hg1⟩:∃ g,w.heap.size=g:=⟨_,rfl⟩
 obtain ⟨n,hn⟩:∃ n,xs.length=n:=⟨_,rfl⟩
 obtain ⟨n',hn'⟩:∃ n,ys.length=n:=⟨_,rfl⟩
 rw [hn,hn'] at HS ⊢
 obtain ⟨w0,hw0⟩:∃ w1,w.alloc (.cells #[.slice A n c,.slice A' n' c',.slice A2 u2 c2] 32)=w1:=⟨_,rfl⟩
 have hb1:Blk w0 g1 g1 #[.slice A n c,.slice A' n' c',.slice A2 u2 c2] 32:=by rw [← hw0,← hg1];exact Blk.new w _ _
 have hn1:Nx w w0:=by rw [← hw0];exact nx0 _ _
 have HC1:=Lib.hid (structAt_any w0 _ _ _ xs ys (HS.out.nx hn1) l)
 have HC2:Hid (∀ wx,Nx w0 wx→Calls Tryd.prog 35 #[.agg #[.slice A n c,.slice A' n' c',.slice A2 u2 c2],.string ⟨l.toArray⟩] wx fun e w'=>e = .returned (.int .i64 (nmI (ys.map (·.nm)) l))∧Nx wx w'):=fun wx hx=>enumAt_any wx _ _ _ xs ys (HS.out.nx (hn1.trans hx)) l
 have HN1:=Lib.hid hn1
 have HB1:=Lib.hid hb1
 obtain ⟨xn,hxn⟩:∃ x,xs.map (·.nm)=x:=⟨_,rfl⟩
 obtain ⟨yn,hyn⟩:∃ x,ys.map (·.nm)=x:=⟨_,rfl⟩
 rw [hxn] at HC1 ⊢
 rw [hyn] at HC2 ⊢
 have a0:w0.cell? ⟨g1,0,none⟩=some (.slice A n c):=hb1.cell 0
 have a1:w0.cell? ⟨g1,1,none⟩=some (.slice A' n' c'):=hb1.cell 1
 have a2:w0.cell? ⟨g1,2,none⟩=some (.slice A2 u2 c2):=hb1.cell 2
 clear hb1 hn1 hxn hyn HS hn hn'
 unfold nmI at HC1 HC2
 unfold findP
 cases hX:nmN xn l with
 | some i =>
  rw [hX] at HC1
  dsimp only at HC1 ⊢
  have q1:decide ((0:Int)≤(i:Int))=true:=decide_eq_true (by omega)
  have q2:(0:Int)≤(i:Int):=by omega
  clear hX HC2
  go_enter Tryd.func22,Tryd.ntmps22
  go_upto_region 1 with (fail)
  try rw [hw0]
  clear hw0 hg1
  go_wp2_with fail
  refine HC1.out.mono ?_;rintro e w2 ⟨rfl,hn2⟩
  have HN2:=Lib.hid (HN1.out.trans hn2)
  clear hn2
  go_wp2_with fail
  go_ret2
  exact ⟨rfl,HN2.out⟩
 | none =>
  rw [hX] at HC1
  dsimp only at HC1 ⊢
  clear hX
  cases hY:nmN yn l with
  | some i =>
   rw [hY] at HC2
   dsimp only at HC2 ⊢
   have q1:decide ((0:Int)≤(i:Int))=true:=decide_eq_true (by omega)
   have q2:(0:Int)≤(i:Int):=by omega
   clear hY
   go_enter Tryd.func22,Tryd.ntmps22
   go_upto_region 1 with (fail)
   try rw [hw0]
   clear hw0 hg1
   go_wp2_with fail
   refine HC1.out.mono ?_;rintro e w2 ⟨rfl,hn2⟩
   have HN2:=Lib.hid hn2
   clear a0 a1 a2 hn2
   have a0:w2.cell? ⟨g1,0,none⟩=some (.slice A n c):=(HB1.out.below HN2.out).cell 0
   have a1:w2.cell? ⟨g1,1,none⟩=some (.slice A' n' c'):=(HB1.out.below HN2.out).cell 1
   have a2:w2.cell? ⟨g1,2,none⟩=some (.slice A2 u2 c2):=(HB1.out.below HN2.out).cell 2
   go_wp2_with fail
   refine (HC2.out w2 HN2.out).mono ?_;rintro e w3 ⟨rfl,hn3⟩
   have HN3:=Lib.hid (HN1.out.trans (HN2.out.trans hn3))
   clear hn3
   go_wp2_with fail
   go_ret2
   exact ⟨rfl,HN3.out⟩
  | none =>
   rw [hY] at HC2
   dsimp only at HC2 ⊢
   clear hY
   go_enter Tryd.func22,Tryd.ntmps22
   go_upto_region 1 with (fail)
   try rw [hw0]
   clear hw0 hg1
   go_wp2_with fail
   refine HC1.out.mono ?_;rintro e w2 ⟨rfl,hn2⟩
   have HN2:=Lib.hid hn2
   clear a0 a1 a2 hn2
   have a0:w2.cell? ⟨g1,0,none⟩=some (.slice A n c):=(HB1.out.below HN2.out).cell 0
   have a1:w2.cell? ⟨g1,1,none⟩=some (.slice A' n' c'):=(HB1.out.below HN2.out).cell 1
   have a2:w2.cell? ⟨g1,2,none⟩=some (.slice A2 u2 c2):=(HB1.out.below HN2.out).cell 2
   go_wp2_with fail
   refine (HC2.out w2 HN2.out).mono ?_;rintro e w3 ⟨rfl,hn3⟩
   have HN3:=Lib.hid (HN1.out.trans (HN2.out.trans hn3))
   clear hn3
   go_wp2_with fail
   go_ret2
   exact ⟨rfl,HN3.out⟩
theorem wrap8 (n:Int):IntKind.i8.wrap n=(n+128) % 256 - 128:=by
 simp [IntKind.wrap,IntKind.bits,IntKind.signed]
 split <;> omega
theorem wrap16 (n:Int):IntKind.i16.wrap n=(n+32768) % 65536 - 32768:=by
 simp [IntKind.wrap,IntKind.bits,IntKind.signed]
 split <;> omega
set_option maxRecDepth 100000 in
theorem keeps8_any (w:World) (n:Int) (hn:i64B n):Calls Tryd.prog 36 #[.int .i64 n] w fun e w'=>e = .returned (.bool (decide (-128≤n) && decide (n≤127)))∧w'=w:=by
 obtain ⟨h1,h2⟩:=hn
 have k0:=wrap8 n
 obtain ⟨M,hM⟩:∃ M,IntKind.i8.wrap n=M:=⟨_,rfl⟩
 rw [hM] at k0
 have k1:IntKind.i64.wrap M=M:=by rw [IntKind.wrap_i64];omega
 have k2:decide (M=n)=(decide (-128≤n) && decide (n≤127)):=by
  rw [Bool.eq_iff_iff];simp only [decide_eq_true_eq,Bool.and_eq_true];omega
 rw [← k2]
 clear k2 k0
 go_enter Tryd.func36,Tryd.ntmps36
 go_wp2_with fail
 go_ret
 exact ⟨by first | rfl | simp_all,rfl⟩
set_option maxRecDepth 100000 in
theorem keeps16_any (w:World) (n:Int) (hn:i64B n):Calls Tryd.prog 37 #[.int .i64 n] w fun e w'=>e = .returned (.bool (decide (-32768≤n) && decide (n≤32767)))∧w'=w:=by
 obtain ⟨h1,h2⟩:=hn
 have k0:=wrap16 n
 obtain ⟨M,hM⟩:∃ M,IntKind.i16.wrap n=M:=⟨_,rfl⟩
 rw [hM] at k0
 have k1:IntKind.i64.wrap M=M:=by rw [IntKind.wrap_i64];omega
 have k2:decide (M=n)=(decide (-32768≤n) && decide (n≤32767)):=by
  rw [Bool.eq_iff_iff];simp only [decide_eq_true_eq,Bool.and_eq_true];omega
 rw [← k2]
 clear k2 k0
 go_enter Tryd.func37,Tryd.ntmps37
 go_wp2_with fail
 go_ret
 exact ⟨by first | rfl | simp_all,rfl⟩
set_option maxRecDepth 100000 in
theorem keeps32_any (w:World) (n:Int) (hn:i64B n):Calls Tryd.prog 38 #[.int .i64 n] w fun e w'=>e = .returned (.bool (decide (-2147483648≤n) && decide (n≤2147483647)))∧w'=w:=by
 obtain ⟨h1,h2⟩:=hn
 have k0:=IntKind.wrap_i32 n
 obtain ⟨M,hM⟩:∃ M,IntKind.i32.wrap n=M:=⟨_,rfl⟩
 rw [hM] at k0
 have k1:IntKind.i64.wrap M=M:=by rw [IntKind.wrap_i64];omega
 have k2:decide (M=n)=(decide (-2147483648≤n) && decide (n≤2147483647)):=by
  rw [Bool.eq_iff_iff];simp only [decide_eq_true_eq,Bool.and_eq_true];omega
 rw [← k2]
 clear k2 k0
 go_enter Tryd.func38,Tryd.ntmps38
 go_wp2_with fail
 go_ret
 exact ⟨by first | rfl | simp_all,rfl⟩
theorem asc_iff:∀ (l:List Int),(∀ i (h:i+1<l.length),l[i]<l[i+1])↔l.Pairwise (· < ·)
 | []=>⟨fun _=>List.Pairwise.nil,fun _ i h=>absurd h (by simp)⟩
 | [x]=>⟨fun _=>List.pairwise_singleton _ _,fun _ i h=>absurd h (by simp)⟩
 | x :: y :: r=>by
  have ih:=asc_iff (y :: r)
  constructor
  ·intro h
   have h2:=ih.1 fun i hi=>h (i+1) (by simpa using hi)
   refine List.pairwise_cons.2 ⟨fun z hz=>?_,h2⟩
   have h0:x<y:=h 0 (by simp)
   rcases List.mem_cons.1 hz with rfl | hz
   ·exact h0
   ·have:=(List.pairwise_cons.1 h2).1 z hz;omega
  ·intro h i hi
   have h3:=List.pairwise_cons.1 h
   cases i with
   | zero=>exact h3.1 y (by simp)
   | succ i=>exact ih.2 h3.2 i (by simpa using hi)
def AdjB (l:List Int) (j:Nat):Prop:=∀ i (h:i+1<l.length),i+1<j→l[i]<l[i+1]
set_option maxRecDepth 100000 in
set_option maxHeartbeats 1600000 in
theorem distinct_any (w:World) (A:Option Addr) (n c:Nat) (l:List Int) (hn:l.length=n) (hn9:n≤100) (hr:Rd (Value.int .i64) w A l) :
  Calls Tryd.prog 26 #[.slice A n c] w fun e w'=>e = .returned (.bool (ascB l))∧Nx w w':=by
 have HR:=Lib.hid hr
 have HN:=Lib.hid hn
 have hA1:ascB l=true↔l.Pairwise (· < ·):=by unfold ascB;exact decide_eq_true_iff
 have HA:=Lib.hid ((asc_iff l).trans hA1.symm)
 clear hA1
 obtain ⟨B,hB⟩:∃ B,ascB l=B:=⟨_,rfl⟩
 rw [hB] at HA ⊢
 clear hr hn hB
 go_enter Tryd.func26,Tryd.ntmps26
 go_wp2_with fail
 go_loopw [3] (fun v wr=>∃ j:Nat,v = .int .i64 (j:Int)∧1≤j∧j≤n+1∧Hid (AdjB l j)∧Nx w wr) (fun v _=>(n+1 - intOf v).toNat)
 case atStart=>exact ⟨1,rfl,Nat.le_refl _,by omega,fun i _ h=>absurd h (by omega),Nx.refl _⟩
 case round =>
  obtain ⟨j,rfl,hj1,hj2,HI,hnx⟩:=hrel
  have HNX:=Lib.hid hnx
  clear hnx
  by_cases hlt:j<n
  ·have q1:decide ((j:Int)<(n:Int))=true:=decide_eq_true (by omega)
   have q2:(j:Int)<(n:Int):=by omega
   obtain ⟨i,rfl⟩:∃ i,j=i+1:=⟨j - 1,by omega⟩
   have hl:i+1<l.length:=by rw [HN.out];exact hlt
   obtain ⟨g,off,rfl,hg,hc⟩:=HR.out (by omega)
   obtain ⟨X,hX⟩:∃ X,l[i]=X:=⟨_,rfl⟩
   obtain ⟨Y,hY⟩:∃ X,l[i+1]=X:=⟨_,rfl⟩
   obtain ⟨J,hJ⟩:∃ J,i+1=J:=⟨_,rfl⟩
   have c0:wr.cell? ⟨g,off+i,none⟩=some (.int .i64 X):=by rw [← hX];exact (HNX.out.cell (p:=⟨g,off+i,none⟩) hg).trans (hc i (by omega))
   have c1:wr.cell? ⟨g,off+J,none⟩=some (.int .i64 Y):=by rw [← hY,← hJ];exact (HNX.out.cell (p:=⟨g,off+(i+1),none⟩) hg).trans (hc (i+1) hl)
   have d0:(J:Int) - 1=(i:Int):=by omega
   have d1:IntKind.i64.wrap (i:Int)=(i:Int):=by rw [IntKind.wrap_i64];omega
   have d2:(J:Int)+1=((J+1:Nat):Int):=by omega
   have d3:IntKind.i64.wrap ((J+1:Nat):Int)=((J+1:Nat):Int):=by rw [IntKind.wrap_i64];omega
   obtain ⟨J2,hJ2⟩:∃ J2,J+1=J2:=⟨_,rfl⟩
   rw [hJ2] at d2 d3
   have b0:(i:Int)<(n:Int):=by omega
   have b1:(0:Int)≤(i:Int):=by omega
   have b2:(0:Int)≤(J:Int):=by omega
   rw [hJ] at q1 q2 ⊢
   have HL:=Lib.hid hl
   by_cases hxy:X<Y
   ·have q3:decide (Y≤X)=false:=decide_eq_false (by omega)
    have HI2:Hid (AdjB l J2):=by
     intro k hk hk2
     rcases Nat.lt_or_ge (k+1) (i+1) with h | h
     ·exact HI.out k hk h
     ·obtain rfl:k=i:=by omega
      rw [hX,hY];exact hxy
    have HB:Hid (1≤J2∧J2≤n+1∧J<J2):=⟨by omega,by omega,by omega⟩
    clear hc hg hX hY hxy HI hJ hJ2 hl hlt hj1 hj2
    go_upto_region 4 with (fail)
    go_region
    go_wp2_with fail
    go_roundw
    case rel=>exact ⟨J2,by go_num,HB.out.1,HB.out.2.1,HI2.out,HNX.out.trans (Nx.drawn _)⟩
    case measure=>have:=HB.out;simp [intOf];omega
   ·have q3:decide (Y≤X)=true:=decide_eq_true (by omega)
    have HF:Hid (B=false):=by
     unfold Hid
     cases B with
     | false=>rfl
     | true =>
      have:=HA.out.2 rfl i hl
      rw [hX,hY] at this
      exact absurd this hxy
    clear hc hg hX hY hxy HI hJ hJ2 hl hlt hj1 hj2
    go_upto_region 4 with (fail)
    go_region
    go_wp2_with fail
    go_ret
    exact ⟨by rw [HF.out];rfl,HNX.out.trans (Nx.drawn _)⟩
  ·have q1:decide ((j:Int)<(n:Int))=false:=decide_eq_false (by omega)
   have q2:¬ (j:Int)<(n:Int):=by omega
   have HF:Hid (B=true):=HA.out.1 fun i hi=>HI.out i hi (by rw [HN.out] at hi;omega)
   clear hlt HI
   go_wp2_with fail
   go_ret
   exact ⟨by rw [HF.out];rfl,HNX.out⟩
def mayB (K:Int) (n:Nat):Bool:=(!decide (K=5) || decide (n=1)) && (!decide (K=8) || decide (n≤1))
set_option maxRecDepth 100000 in
theorem mayHave_any (w:World) (K:Int) (n:Nat):Calls Tryd.prog 27 #[.int .i64 K,.int .i64 (n:Int)] w fun e w'=>e = .returned (.bool (mayB K n))∧w'=w:=by
 by_cases h5:K=5
 ·subst h5
  have hm:mayB 5 n=decide ((n:Int)=1):=by unfold mayB;rw [Bool.eq_iff_iff];simp;omega
  rw [hm]
  go_enter Tryd.func27,Tryd.ntmps27
  go_wp2_with fail
  go_ret
  exact ⟨by first | rfl | simp_all,rfl⟩
 ·by_cases h8:K=8
  ·subst h8
   have hm:mayB 8 n=decide ((n:Int)≤1):=by unfold mayB;rw [Bool.eq_iff_iff];simp;omega
   rw [hm]
   go_enter Tryd.func27,Tryd.ntmps27
   go_wp2_with fail
   go_ret
   exact ⟨by first | rfl | simp_all,rfl⟩
  ·have q5:decide (K=5)=false:=decide_eq_false h5
   have q8:decide (K=8)=false:=decide_eq_false h8
   have hm:mayB K n=true:=by unfold mayB;rw [q5,q8];rfl
   rw [hm]
   go_enter Tryd.func27,Tryd.ntmps27
   go_wp2_with fail
   go_ret
   exact ⟨rfl,rfl⟩
end Go.Proofs.YtnfelopknfdpfaaDoor
