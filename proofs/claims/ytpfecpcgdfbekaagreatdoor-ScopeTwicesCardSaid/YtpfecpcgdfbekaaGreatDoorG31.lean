/- Maps that lie, of any keys and values: what is read, what is put. Plain lemmas. Keys of scope's map: a file's place and a name. A load as the code's scope has it; where definitions stand first. Plain lemmas, and the map of them. The contract of scope's firstPlaces. The contracts of scope's lookUp, sees, def. -/
import Derived.Test.YtpfecpcgdfbekaaGreatDoorProg
import Derived.Test.YtpfecpcgdfbekaaGreatDoorG00
import Derived.DeepKeys4
import Derived.Maps.Keyed
import Derived.Maps.Own
import Derived.Test.YtpfecpcgdfbekaaGreatDoorG09
import Derived.Test.YtpfecpcgdfbekaaGreatDoorG08
import Derived.Test.YtpfecpcgdfbekaaGreatDoorG29
import Derived.Deep.CutBlock
import Derived.Deep.DeepCutAuto
import Derived.Test.YtpfecpcgdfbekaaGreatDoorG30
import Derived.BigRegion
set_option linter.unusedVariables false
set_option linter.unusedSimpArgs false
set_option linter.unnecessarySimpa false
namespace Go.Proofs.YtpfecpcgdfbekaaGreatDoor
open Go.RowKit
section
variable {κ ν:Type} [DecidableEq κ]
def getG:List (κ×ν)→κ→Option ν
 | [],_=>none
 | x :: r,k=>if x.1=k then some x.2 else getG r k
def putG:List (κ×ν)→κ→ν→List (κ×ν)
 | [],k,v=>[(k,v)]
 | x :: r,k,v=>if x.1=k then (k,v) :: r else x :: putG r k v
theorem getG_none:∀ {m:List (κ×ν)} {k:κ},(∀ x ∈ m,x.1≠k)→getG m k=none
 | [],_,_=>rfl
 | y :: r,k,h=>by
  unfold getG
  rw [if_neg (h y (by simp)),getG_none fun x hx=>h x (by simp [hx])]
theorem getG_at:∀ {m:List (κ×ν)} {j:Nat} {x:κ×ν},(m.map (·.1)).Nodup→m[j]? = some x→getG m x.1=some x.2
 | [],_,_,_,h=>by simp at h
 | y :: r,0,x,_,h=>by
  simp at h;subst h
  simp [getG]
 | y :: r,j+1,x,hn,h=>by
  simp only [List.map_cons,List.nodup_cons,List.getElem?_cons_succ] at hn h
  unfold getG
  rw [if_neg fun e=>hn.1 (by rw [e];exact List.mem_map.2 ⟨x,List.mem_of_getElem? h,rfl⟩)]
  exact getG_at hn.2 h
theorem putG_none:∀ {m:List (κ×ν)} {k:κ} (v:ν),(∀ x ∈ m,x.1≠k)→putG m k v=m++[(k,v)]
 | [],_,_,_=>rfl
 | y :: r,k,v,h=>by
  unfold putG
  rw [if_neg (h y (by simp)),putG_none v fun x hx=>h x (by simp [hx])];rfl
theorem putG_at:∀ {m:List (κ×ν)} {j:Nat} {x:κ×ν} (v:ν),(m.map (·.1)).Nodup→m[j]? = some x→putG m x.1 v=m.set j (x.1,v)
 | [],_,_,_,_,h=>by simp at h
 | y :: r,0,x,v,_,h=>by
  simp at h;subst h
  simp [putG]
 | y :: r,j+1,x,v,hn,h=>by
  simp only [List.map_cons,List.nodup_cons,List.getElem?_cons_succ] at hn h
  unfold putG
  rw [if_neg fun e=>hn.1 (by rw [e];exact List.mem_map.2 ⟨x,List.mem_of_getElem? h,rfl⟩),putG_at v hn.2 h];rfl
theorem putG_mem:∀ (m:List (κ×ν)) (k:κ) (v:ν),∀ x ∈ putG m k v,x=(k,v)∨x ∈ m
 | [],k,v,x,h=>by simp [putG] at h;exact .inl h
 | y :: r,k,v,x,h=>by
  unfold putG at h
  split at h
  ·rcases List.mem_cons.1 h with rfl | h
   ·exact .inl rfl
   ·exact .inr (by simp [h])
  ·rcases List.mem_cons.1 h with rfl | h
   ·exact .inr (by simp)
   ·rcases putG_mem r k v x h with h | h
    ·exact .inl h
    ·exact .inr (by simp [h])
theorem putG_keys:∀ (m:List (κ×ν)) (k:κ) (v:ν),∀ x ∈ putG m k v,x.1=k∨∃ y ∈ m,y.1=x.1:=fun m k v x h=>by
 rcases putG_mem m k v x h with rfl | h
 ·exact .inl rfl
 ·exact .inr ⟨x,h,rfl⟩
theorem putG_nodup:∀ {m:List (κ×ν)} (k:κ) (v:ν),(m.map (·.1)).Nodup→((putG m k v).map (·.1)).Nodup
 | [],k,v,_=>by simp [putG]
 | y :: r,k,v,h=>by
  simp only [List.map_cons,List.nodup_cons] at h
  unfold putG
  split
  ·rename_i e
   subst e
   simpa using h
  ·rename_i e
   simp only [List.map_cons,List.nodup_cons]
   refine ⟨fun hm=>?_,putG_nodup k v h.2⟩
   obtain ⟨x,hx,hxe⟩:=List.mem_map.1 hm
   rcases putG_keys r k v x hx with h1 | ⟨z,hz,h1⟩
   ·exact e (hxe ▸ h1)
   ·exact h.1 (List.mem_map.2 ⟨z,hz,h1.trans hxe⟩)
end
section
variable {κ ν:Type}
structure MapL (MT KT VT:TypeId) (kv:κ→Value) (vv:ν→Value) (ok:κ→Prop) (z:ν):Prop where
 und:Tryz.prog.underlying MT=some (.map KT VT)
 law:Maps.Keyed Tryz.prog KT
 key:∀ k,ok k→∃ l,keyOf Tryz.prog KT (kv k)=some l
 inj:∀ a b,kv a=kv b→a=b
 zero:∀ w,(zeroValue VT).run Tryz.prog w = .ok (vv z) w
def MpG (kv:κ→Value) (vv:ν→Value) (ok:κ→Prop) (w:World) (g:Nat) (m:List (κ×ν)):Prop :=
 ∃ es c,w.heap[g]? = some (.map es c)∧es.toList.map (fun e=>(e.key,e.val))=m.map (fun x=>(kv x.1,vv x.2))∧(m.map (·.1)).Nodup∧∀ x ∈ m,ok x.1
theorem MpG.keep {kv:κ→Value} {vv:ν→Value} {ok:κ→Prop} {w w':World} {g:Nat} {m:List (κ×ν)} (h:MpG kv vv ok w g m) (hk:w'.heap[g]? = w.heap[g]?):MpG kv vv ok w' g m:=by
 obtain ⟨es,c,h1,h2⟩:=h
 exact ⟨es,c,hk.trans h1,h2⟩
theorem MpG.lt {kv:κ→Value} {vv:ν→Value} {ok:κ→Prop} {w:World} {g:Nat} {m:List (κ×ν)} (h:MpG kv vv ok w g m):g<w.heap.size:=by
 obtain ⟨es,c,h1,-⟩:=h
 exact (Array.getElem?_eq_some_iff.1 h1).1
theorem MpG.nx {kv:κ→Value} {vv:ν→Value} {ok:κ→Prop} {w w':World} {g:Nat} {m:List (κ×ν)} (h:MpG kv vv ok w g m) (hn:Nx w w'):MpG kv vv ok w' g m:=h.keep (hn.block g h.lt)
theorem MpG.nil_ (kv:κ→Value) (vv:ν→Value) (ok:κ→Prop) (w:World):MpG kv vv ok (w.alloc (.map #[] 0)) w.heap.size ([]:List (κ×ν)):=⟨#[],0,heap_alloc_new w _,rfl,List.nodup_nil,fun _ h=>by cases h⟩
variable {MT KT VT:TypeId} {kv:κ→Value} {vv:ν→Value} {ok:κ→Prop} {z:ν}
theorem MapL.found (L:MapL MT KT VT kv vv ok z) (w:World) {es:Array MapEntry} {m:List (κ×ν)} (h:es.toList.map (fun e=>(e.key,e.val))=m.map (fun x=>(kv x.1,vv x.2))) (ho:∀ x ∈ m,ok x.1) (k:κ) (hk:ok k) :
  ((Instr.findKey KT (kv k) es.toList).run Tryz.prog w = .ok none w∧∀ x ∈ m,x.1≠k) ∨
  ∃ j e v,(Instr.findKey KT (kv k) es.toList).run Tryz.prog w = .ok (some (j,vv v)) w∧es.toList[j]? = some e∧e.key=kv k∧m[j]? = some (k,v):=by
 obtain ⟨kl,hkl⟩:=L.key k hk
 have hget:∀ j:Nat,(es.toList[j]?).map (fun e:MapEntry=>(e.key,e.val))=(m[j]?).map (fun x:κ×ν=>(kv x.1,vv x.2)):=fun j=>by
  have:=congrArg (fun l:List (Value×Value)=>l[j]?) h
  simpa using this
 have hkeys:∀ e ∈ es.toList,∃ l,keyOf Tryz.prog KT e.key=some l:=fun e he=>by
  obtain ⟨j,hj⟩:=List.getElem?_of_mem he
  have:=hget j
  rw [hj] at this
  obtain ⟨x,hx,e2⟩:=Option.map_eq_some_iff.1 this.symm
  obtain ⟨l,hl⟩:=L.key x.1 (ho x (List.mem_of_getElem? hx))
  exact ⟨l,by rw [← (Prod.mk.inj e2).1];exact hl⟩
 rcases L.law.find w hkl es.toList hkeys with ⟨h1,h2⟩ | ⟨j,e,h1,h2,h3⟩
 ·refine .inl ⟨h1,fun x hx e=>?_⟩
  obtain ⟨j,hj⟩:=List.getElem?_of_mem hx
  have:=hget j
  rw [hj] at this
  obtain ⟨y,hy,e2⟩:=Option.map_eq_some_iff.1 this
  exact h2 y (List.mem_of_getElem? hy) (by rw [(Prod.mk.inj e2).1,e])
 ·have:=hget j
  rw [h2] at this
  obtain ⟨⟨k',v⟩,hx,e2⟩:=Option.map_eq_some_iff.1 this.symm
  obtain ⟨e3,e4⟩:=Prod.mk.inj e2
  obtain rfl:k'=k:=L.inj _ _ (e3.trans h3)
  exact .inr ⟨j,e,v,by rw [h1,← e4],h2,h3,hx⟩
end
section
variable {κ ν:Type} [DecidableEq κ] {MT KT VT:TypeId} {kv:κ→Value} {vv:ν→Value} {ok:κ→Prop} {z:ν}
theorem MapL.look (L:MapL MT KT VT kv vv ok z) {w:World} {g:Nat} {m:List (κ×ν)} (h:MpG kv vv ok w g m) (k:κ) (hk:ok k) :
  (Instr.lookup MT (.map (some g)) (kv k) false).run Tryz.prog w = .ok (vv ((getG m k).getD z)) w ∧
  (Instr.lookup MT (.map (some g)) (kv k) true).run Tryz.prog w = .ok (.tuple #[vv ((getG m k).getD z),.bool (getG m k).isSome]) w:=by
 obtain ⟨es,c,hg,h2,hd,ho⟩:=h
 obtain ⟨kl,hkl⟩:=L.key k hk
 rcases L.found w h2 ho k hk with ⟨h1,h3⟩ | ⟨j,e,v,h1,h3,h4,h5⟩
 ·rw [getG_none h3]
  constructor <;> simp [Instr.lookup,run_underlying L.und,MapKept.run_getObj_map hg,L.law.check w es.isEmpty hkl,h1,L.zero,Result.andThen]
 ·rw [show getG m k=some v from getG_at (x:=(k,v)) hd h5]
  constructor <;> simp [Instr.lookup,run_underlying L.und,MapKept.run_getObj_map hg,L.law.check w es.isEmpty hkl,h1,Result.andThen]
theorem MapL.put (L:MapL MT KT VT kv vv ok z) {w:World} {g:Nat} {m:List (κ×ν)} (h:MpG kv vv ok w g m) (k:κ) (v:ν) (hk:ok k) :
  ∃ o,(Instr.mapUpdate MT (.map (some g)) (kv k) (vv v)).run Tryz.prog w = .ok () (ChangeMaps.setBlock w g o)∧MpG kv vv ok (ChangeMaps.setBlock w g o) g (putG m k v):=by
 obtain ⟨es,c,hg,h2,hd,ho⟩:=h
 obtain ⟨kl,hkl⟩:=L.key k hk
 have hlt:=(Array.getElem?_eq_some_iff.1 hg).1
 have hnew:∀ o,(ChangeMaps.setBlock w g o).heap[g]? = some o:=fun o=>by simp [ChangeMaps.setBlock,hlt]
 have hok:∀ x ∈ putG m k v,ok x.1:=fun x hx=>by
  rcases putG_mem m k v x hx with rfl | hx
  ·exact hk
  ·exact ho x hx
 rcases L.found w h2 ho k hk with ⟨h1,h3⟩ | ⟨j,e,u,h1,h3,h4,h5⟩
 ·refine ⟨.map (es.push ⟨kv k,vv v,c⟩) (c+1),?_,es.push ⟨kv k,vv v,c⟩,c+1,hnew _,?_,putG_nodup k v hd,hok⟩
  ·simp [Instr.mapUpdate,run_underlying L.und,MapKept.run_getObj_map hg,L.law.check w false hkl,h1,MapKept.run_setObj_map _ hg,Result.andThen,ChangeMaps.setBlock]
  ·rw [putG_none v h3,Array.toList_push,List.map_append,List.map_append,h2];rfl
 ·have hj:es[j]? = some e:=by simpa using h3
  have hlist:(es.modify j (fun e'=>{ e' with key:=kv k,val:=vv v })).toList=es.toList.set j { e with key:=kv k,val:=vv v }:=by rw [Array.toList_modify,ChangeMaps.modify_eq_set _ _ _ _ h3]
  refine ⟨.map (es.modify j (fun e'=>{ e' with key:=kv k,val:=vv v })) c,?_,es.modify j (fun e'=>{ e' with key:=kv k,val:=vv v }),c,hnew _,?_,putG_nodup k v hd,hok⟩
  ·simp [Instr.mapUpdate,run_underlying L.und,MapKept.run_getObj_map hg,L.law.check w false hkl,h1,hj,h4,L.law.stays w hkl,MapKept.run_setObj_map _ hg,Result.andThen,ChangeMaps.setBlock]
  ·rw [hlist,show putG m k v=m.set j (k,v) from putG_at (x:=(k,u)) v hd h5,List.map_set,List.map_set,h2]
end
theorem setBlock_keep {w:World} {g j:Nat} {o:Obj} (hj:j≠g):(ChangeMaps.setBlock w g o).heap[j]? = w.heap[j]?:=by
 simp only [ChangeMaps.setBlock];rw [Array.getElem?_setIfInBounds_ne (Ne.symm hj)]
theorem setBlock_oth (w:World) (g:Nat) (o:Obj) (h0:(ChangeMaps.setBlock w g o).os=w.os) (h1:(ChangeMaps.setBlock w g o).tape=w.tape) (h2:(ChangeMaps.setBlock w g o).output=w.output) {W:World} (hn:Nx W w) (hg:W.heap.size≤g):Nx W (ChangeMaps.setBlock w g o) :=
 ⟨h0.trans hn.os,h1.trans hn.tape,h2.trans hn.output,by simp only [ChangeMaps.setBlock,Array.size_setIfInBounds];exact hn.size,fun j hj=>(setBlock_keep (by omega)).trans (hn.block j hj)⟩
end Go.Proofs.YtpfecpcgdfbekaaGreatDoor
namespace Go.Proofs.YtpfecpcgdfbekaaGreatDoor
open Go.RowKit
def kvS (k:Int×List UInt8):Value:=.agg #[.int .i64 k.1,bt k.2]
def vvS (j:Nat):Value:=.int .i64 (j:Int)
def okS (k:Int×List UInt8):Prop:=-1≤k.1∧k.1≤1000∧k.2.length≤8000
theorem key_in:(76 : TypeId) < Tryz.prog.types.size:=of_decide_eq_true (by kernel_rfl)
theorem key_ty:Tryz.prog.keyType 76 = true:=by kernel_rfl
theorem key_co:Tryz.prog.cellsOf 76 = 2∧Tryz.prog.cellsOf 3 = 1∧Tryz.prog.cellsOf 9 = 1:=⟨by kernel_rfl,by kernel_rfl,by kernel_rfl⟩
theorem keyS (k:Int×List UInt8) (h:okS k):∃ l,keyOf Tryz.prog 76 (kvS k)=some l:=by
 obtain ⟨i,s⟩:=k
 obtain ⟨h1,h2,h3⟩:=h
 dsimp only at h1 h2 h3
 have hf:(kvS (i,s)).formed Tryz.prog 76 = true:=by
  simp [Value.formed,kvS,Tryz.underlying76,key_co.1]
 have hwf:(Lit.int .i64 i).wf=true:=by
  have a1:IntKind.i64.min = -9223372036854775808:=by decide
  have a2:IntKind.i64.max=9223372036854775807:=by decide
  simp only [Lit.wf,a1,a2,Bool.and_eq_true,decide_eq_true_eq];omega
 have hsz:s.toArray.size≤maxLen:=by simp [maxLen];omega
 have hl:(Tryz.prog.keyLits (Tryz.prog.types.size+1) 76 [.int .i64 i,bt s])=some [.int .i64 i,.string s]:=by
  obtain ⟨m,hm⟩:∃ m,Tryz.prog.types.size=m+1:=⟨Tryz.prog.types.size - 1,by have:=Nat.lt_of_le_of_lt (Nat.zero_le _) key_in;omega⟩
  rw [hm]
  have e1:Tryz.prog.keyLits (m+1) 3 [.int .i64 i]=some [.int .i64 i]:=by
   unfold Program.keyLits;rw [Tryz.underlying3];simp [hwf]
  have e2:Tryz.prog.keyLits (m+1) 9 [bt s]=some [.string s]:=by
   unfold Program.keyLits;rw [Tryz.underlying9];simp [bt,show (ByteArray.mk s.toArray).size≤maxLen from hsz]
  unfold Program.keyLits
  rw [Tryz.underlying76]
  simp [key_co,e1,e2]
 unfold keyOf
 rw [Tryz.underlying76]
 simp only [key_ty,hf,Bool.and_self,if_true]
 exact ⟨_,by rw [show (kvS (i,s)).cells.toList=[.int .i64 i,bt s] from rfl,hl];rfl⟩
theorem lawS:Maps.Keyed Tryz.prog 76:=Maps.Keyed.of_law (deep_law_laid laidOutK (m:=2) (by omega) key_in (by kernel_rfl) (by rw [Tryz.underlying76]))
theorem mapS:MapL 69 76 3 kvS vvS okS 0 where
 und:=Tryz.underlying69
 law:=lawS
 key:=keyS
 inj:=fun a b h=>by
  obtain ⟨a1,a2⟩:=a
  obtain ⟨b1,b2⟩:=b
  unfold kvS bt at h
  simp at h
  rw [h.1,h.2]
 zero:=fun w=>by kernel_rfl
end Go.Proofs.YtpfecpcgdfbekaaGreatDoor
namespace Go.Proofs.YtpfecpcgdfbekaaGreatDoor
open Go.RowKit
def ldB (names:List (List UInt8)) (files:List Fil):Bool:=names.all (fun x=>decide (x.length≤8000)) && decide (names.length=files.length) && decide (names.length≤100) &&
 files.all (fun f=>decide (f.defs.length≤1000) && decide (f.incs.length≤1000) && f.defs.all dfnB)
structure Ldn (w:World) (nA fA:Option Addr) (n nc fc:Nat) (names:List (List UInt8)) (files:List Fil):Prop where
 nm:RepL strA 1 9 (REq (α:=List UInt8)) w (Fm 0) (.slice nA n nc) names
 fl:RepL filA 3 74 RFile w (Fm 0) (.slice fA n fc) files
 ln:names.length=n
 lf:files.length=n
 ok:ldB names files=true
section
variable {w w':World} {nA fA:Option Addr} {n nc fc:Nat} {names:List (List UInt8)} {files:List Fil}
theorem Ldn.nx (h:Ldn w nA fA n nc fc names files) (hn:Nx w w'):Ldn w' nA fA n nc fc names files:=⟨RepL.nx REq.lasts h.nm hn,RepL.nx RFile.lasts h.fl hn,h.ln,h.lf,h.ok⟩
theorem Ldn.parts (h:Ldn w nA fA n nc fc names files):n≤100∧(∀ x ∈ names,x.length≤8000)∧∀ f ∈ files,f.defs.length≤1000∧f.incs.length≤1000∧∀ d ∈ f.defs,dfnB d=true:=by
 have:=h.ok
 unfold ldB at this
 simp only [Bool.and_eq_true,decide_eq_true_eq,List.all_eq_true] at this
 obtain ⟨⟨⟨h1,h2⟩,h3⟩,h4⟩:=this
 exact ⟨by rw [← h.ln];exact h3,h1,fun f hf=>⟨(h4 f hf).1.1,(h4 f hf).1.2,(h4 f hf).2⟩⟩
theorem Ldn.caps (h:Ldn w nA fA n nc fc names files):n≤nc∧n≤fc∧nc≤maxLen∧fc≤maxLen:=by
 obtain ⟨A,c,_,e,-,h1,h2,-,-⟩:=h.nm.sl strA_size
 obtain ⟨B,q,_,e2,-,h3,h4,-,-⟩:=h.fl.sl (show ∀ x,(filA x).size=3 from fun _=>rfl)
 simp only [Value.slice.injEq] at e e2
 have:=h.ln
 have:=h.lf
 exact ⟨by omega,by omega,by omega,by omega⟩
theorem Ldn.rd (h:Ldn w nA fA n nc fc names files):RdS strA 1 w nA names:=by
 obtain ⟨A,c,xs,e,hl,-,-,hrd,hall⟩:=h.nm.sl strA_size
 simp only [Value.slice.injEq] at e
 obtain ⟨rfl,-,-⟩:=e
 obtain rfl:xs=names:=List.ext_getElem hl (fun i h1 h2=>hall.at_ i h1 h2)
 exact hrd
theorem Ldn.name (h:Ldn w nA fA n nc fc names files) (i:Nat) (hi:i<names.length):∃ g,nA=some ⟨g,0,none⟩∧g<w.heap.size∧w.cell? ⟨g,i,none⟩=some (.string ⟨names[i].toArray⟩):=by
 obtain ⟨g,e,hg,hc⟩:=h.rd (by omega)
 have:=hc i hi 0 (by decide)
 rw [show i * 1+0=i by omega] at this
 exact ⟨g,e,hg,this⟩
theorem Ldn.file (h:Ldn w nA fA n nc fc names files) (i:Nat) (hi:i<files.length) (F:Fil) (hF:files[i]=F):∃ g iA ic sA sn sc dA dc,fA=some ⟨g,0,none⟩∧g<w.heap.size∧w.cell? ⟨g,i * 3,none⟩=some (.slice iA F.incs.length ic)∧w.cell? ⟨g,i * 3+1,none⟩=some (.slice sA sn sc) ∧
  w.cell? ⟨g,i * 3+2,none⟩=some (.slice dA F.defs.length dc)∧RdS strA 1 w iA F.incs∧RepL dfnA 12 56 RD w (Fm 0) (.slice dA F.defs.length dc) F.defs:=by
 subst hF
 obtain ⟨A,c,ys,e,hl,-,-,hrd,hall⟩:=h.fl.sl (show ∀ x,(filA x).size=3 from fun _=>rfl)
 simp only [Value.slice.injEq] at e
 obtain ⟨rfl,-,-⟩:=e
 have hiy:i<ys.length:=by omega
 have hf:=hall.at_ i hiy hi
 obtain ⟨g,rfl,hg,hc⟩:=hrd (by omega)
 obtain ⟨⟨x1,x2,x3⟩,hx⟩:∃ x,ys[i]=x:=⟨_,rfl⟩
 rw [hx] at hf
 obtain ⟨iA,ic,xl,h1,hxl,-,-,hri,hai⟩:=hf.1.sl strA_size
 obtain ⟨sA,sc,_,h2,-⟩:=hf.2.1.sl spcA_size
 obtain ⟨dA,dc,_,h3,-⟩:=hf.2.2.sl dfnA_size
 dsimp only at h1 h2 h3
 subst h1 h2 h3
 obtain rfl:xl=files[i].incs:=List.ext_getElem hxl (fun i h1 h2=>hai.at_ i h1 h2)
 have hcell:∀ j,j<3→w.cell? ⟨g,i * 3+j,none⟩=(filA ⟨.slice iA files[i].incs.length ic,.slice sA files[i].spaces.length sc,.slice dA files[i].defs.length dc⟩)[j]?:=fun j hj=>by rw [hc i hiy j hj,hx]
 exact ⟨g,iA,ic,sA,_,sc,dA,dc,rfl,hg,hcell 0 (by decide),hcell 1 (by decide),hcell 2 (by decide),hri,RepL.mv RD.lasts ⟨fun _ _ _=>rfl,fun _ hg _=>hg.1⟩ hf.2.2⟩
end
theorem def_at {w:World} {dA:Option Addr} {m dc:Nat} {ds:List Dfn} (h:RepL dfnA 12 56 RD w (Fm 0) (.slice dA m dc) ds) (j:Nat) (hj:j<ds.length) (d:Dfn) (hd:ds[j]=d):∃ g x,dA=some ⟨g,0,none⟩∧g<w.heap.size∧(∀ q,q<12→w.cell? ⟨g,j * 12+q,none⟩=(dfnA x)[q]?)∧RD w (Fm 0) x d:=by
 subst hd
 obtain ⟨A,c,ys,e,hl,-,-,hrd,hall⟩:=h.sl dfnA_size
 simp only [Value.slice.injEq] at e
 obtain ⟨rfl,-,-⟩:=e
 have hjy:j<ys.length:=by omega
 obtain ⟨g,rfl,hg,hc⟩:=hrd (by omega)
 exact ⟨g,ys[j],rfl,hg,fun q hq=>hc j hjy q hq,RD.lasts ⟨fun _ _ _=>rfl,fun _ hg _=>hg.1⟩ (hall.at_ j hjy hj)⟩
theorem rd_sl {w:World} {P:Nat→Prop} {x:DfnS} {d:Dfn} (h:RD w P x d):IsSl x.ini.l∧IsSl x.fields∧IsSl x.mems∧IsSl x.mets:=by
 refine ⟨rc_sl h.2.2.2.1,?_,?_,?_⟩
 ·obtain ⟨A,c,_,h,-⟩:=h.2.2.2.2.1.sl fldA_size;exact ⟨_,_,_,h⟩
 ·obtain ⟨A,c,_,h,-⟩:=h.2.2.2.2.2.1.sl memA_size;exact ⟨_,_,_,h⟩
 ·obtain ⟨A,c,_,h,-⟩:=h.2.2.2.2.2.2.2.sl metA_size;exact ⟨_,_,_,h⟩
abbrev MS:=List ((Int×List UInt8)×Nat)
def fstD (i:Nat):Nat→List Dfn→MS→MS
 | _,[],m=>m
 | j,d :: r,m=>fstD i (j+1) r (if (getG m ((i:Int),d.nm)).isSome then m else putG m ((i:Int),d.nm) j)
def fstF:Nat→List Fil→MS→MS
 | _,[],m=>m
 | i,f :: r,m=>fstF (i+1) r (fstD i 0 f.defs m)
def fstM (files:List Fil):MS:=fstF 0 files []
def FsOk (files:List Fil) (m:MS):Prop:=∀ x ∈ m,∃ i:Nat,x.1.1=(i:Int)∧∃ hi:i<files.length,x.2<files[i].defs.length
theorem FsOk.d {files:List Fil} {i:Nat} (hi:i<files.length):∀ (j:Nat) (m:MS),j≤files[i].defs.length→FsOk files m→FsOk files (fstD i j (files[i].defs.drop j) m):=by
 intro j m hj hm
 obtain ⟨k,hk⟩:∃ k,files[i].defs.length - j=k:=⟨_,rfl⟩
 induction k generalizing j m with
 | zero=>rw [List.drop_of_length_le (by omega)];exact hm
 | succ k ih =>
  rw [List.drop_eq_getElem_cons (by omega)]
  refine ih (j+1) _ (by omega) ?_ (by omega)
  split
  ·exact hm
  ·intro x hx
   rcases putG_mem _ _ _ x hx with rfl | hx
   ·exact ⟨i,rfl,hi,by show j<_;omega⟩
   ·exact hm x hx
theorem FsOk.f {files:List Fil}:∀ (i:Nat) (m:MS),i≤files.length→FsOk files m→FsOk files (fstF i (files.drop i) m):=by
 intro i m hi hm
 obtain ⟨k,hk⟩:∃ k,files.length - i=k:=⟨_,rfl⟩
 induction k generalizing i m with
 | zero=>rw [List.drop_of_length_le (by omega)];exact hm
 | succ k ih =>
  rw [List.drop_eq_getElem_cons (by omega)]
  refine ih (i+1) _ (by omega) ?_ (by omega)
  exact FsOk.d (by omega) 0 m (Nat.zero_le _) hm
theorem fstM_ok (files:List Fil):FsOk files (fstM files):=FsOk.f 0 [] (Nat.zero_le _) (fun x hx=>by cases hx)
theorem getG_mem {κ ν:Type} [DecidableEq κ]:∀ {m:List (κ×ν)} {k:κ} {v:ν},getG m k=some v→(k,v) ∈ m
 | [],_,_,h=>by cases h
 | x :: r,k,v,h=>by
  unfold getG at h
  split at h
  ·rename_i e;cases h;rw [← e];simp
  ·exact List.mem_cons_of_mem _ (getG_mem h)
end Go.Proofs.YtpfecpcgdfbekaaGreatDoor
namespace Go.Proofs.YtpfecpcgdfbekaaGreatDoor
open Go.RowKit
theorem fstF_step {files:List Fil} {i:Nat} (hi:i<files.length) (m:MS) (F:Fil) (hF:files[i]=F):fstF i (files.drop i) m=fstF (i+1) (files.drop (i+1)) (fstD i 0 F.defs m):=by
 subst hF
 rw [List.drop_eq_getElem_cons hi];rfl
theorem fstD_step {ds:List Dfn} {i j:Nat} (hj:j<ds.length) (m:MS) (d:Dfn) (hd:ds[j]=d):fstD i j (ds.drop j) m=fstD i (j+1) (ds.drop (j+1)) (if (getG m ((i:Int),d.nm)).isSome then m else putG m ((i:Int),d.nm) j):=by
 subst hd
 rw [List.drop_eq_getElem_cons hj];rfl
set_option maxRecDepth 100000 in
set_option maxHeartbeats 3200000 in
theorem first_any (w:World) (nA fA:Option Addr) (n nc fc:Nat) (names:List (List UInt8)) (files:List Fil) (hld:Ldn w nA fA n nc fc names files) :
  Calls Tryz.prog 20 #[.agg #[.slice nA n nc,.slice fA n fc]] w fun e w'=>∃ gm,e = .returned (.map (some gm))∧w.heap.size≤gm∧MpG kvS vvS okS w' gm (fstM files)∧Nx w w':=by
 have HLD:=Lib.hid hld
 obtain ⟨hn100,hnl,hfl⟩:=hld.parts
 have HFL:=Lib.hid hfl
 have HF:=Lib.hid hld.lf
 have hn9:(n:Int)≤100:=by omega
 obtain ⟨R,hR⟩:∃ R,Hid (fstM files=R):=⟨_,rfl⟩
 rw [hR.out]
 obtain ⟨gb,hgb⟩:∃ g,w.heap.size=g:=⟨_,rfl⟩
 obtain ⟨gm,hgm⟩:∃ g,gb+1=g:=⟨_,rfl⟩
 have hmm:=@run_makeMap Tryz.prog
 clear hld hnl hfl hn100
 go_enter Tryz.func20,Tryz.ntmps20
 go_upto_region 2 with (fail)
 obtain ⟨w1,hw1⟩:∃ w1,(w.alloc (.cells #[.slice nA n nc,.slice fA n fc] 39)).alloc (.map #[] 0)=w1:=⟨_,rfl⟩
 have HB:Hid (Blk w1 gb gb #[.slice nA n nc,.slice fA n fc] 39):=by
  unfold Hid;rw [← hw1,← hgb];exact (Blk.new w _ _).alloc _
 have HM:Hid (MpG kvS vvS okS w1 gm []):=by
  have:=MpG.nil_ kvS vvS okS (w.alloc (.cells #[.slice nA n nc,.slice fA n fc] 39))
  rw [hw1,show (w.alloc (.cells #[.slice nA n nc,.slice fA n fc] 39)).heap.size=gm by simp;omega] at this
  exact this
 have HN:Hid (Nx w w1):=by unfold Hid;rw [← hw1];exact Nx.al (nx0 w _) _
 have HGM:Hid (w.heap.size<gm):=by unfold Hid;omega
 try rw [hw1]
 clear hw1 hgb hgm hmm
 have b1:w1.cell? ⟨gb,1,none⟩=some (.slice fA n fc):=HB.out.cell 1
 go_wp2_with fail
 clear b1
 go_loopw [15] (fun v wr=>∃ (i:Nat) (m:MS),v = .int .i64 (i:Int)∧i≤n∧MpG kvS vvS okS wr gm m∧Hid (fstF i (files.drop i) m=R)∧Nx w wr) (fun v _=>(n - intOf v).toNat)
 case atStart=>exact ⟨0,[],rfl,Nat.zero_le _,HM.out,hR,HN.out⟩
 case round =>
  obtain ⟨i,m,rfl,hi,hm,HR,hn⟩:=hrel
  have HMP:=Lib.hid hm
  have HNX:=Lib.hid hn
  clear hm hn
  by_cases hlt:i<n
  ·have q1:decide ((i:Int)<(n:Int))=true:=decide_eq_true (by omega)
   have q2:(i:Int)<(n:Int):=by omega
   have hif:i<files.length:=by rw [HF.out];exact hlt
   have HIF:=Lib.hid hif
   obtain ⟨F,hF⟩:∃ F,files[i]=F:=⟨_,rfl⟩
   obtain ⟨g,iA,ic,sA,sn,sc,dA,dc,hfA,hg,e0',e1',e2',-,hdf⟩:=HLD.out.file i hif F hF
   subst hfA
   have e0:=(HNX.out.cell (p:=⟨g,i * 3,none⟩) hg).trans e0'
   have e1:=(HNX.out.cell (p:=⟨g,i * 3+1,none⟩) hg).trans e1'
   have e2:=(HNX.out.cell (p:=⟨g,i * 3+2,none⟩) hg).trans e2'
   clear e0' e1' e2'
   have HFB:=Lib.hid (HFL.out F (hF ▸ List.getElem_mem hif))
   have hstep:=fstF_step hif m F hF
   have HST:Hid (fstF (i+1) (files.drop (i+1)) (fstD i 0 F.defs m)=R):=by unfold Hid;rw [← hstep];exact HR.out
   have HDF:=Lib.hid hdf
   obtain ⟨K,hK⟩:∃ K,F.defs.length=K:=⟨_,rfl⟩
   have hK9:(K:Int)≤1000:=by have:=HFB.out.1;omega
   rw [hK] at e2
   have HK:=Lib.hid hK
   have HLT:=Lib.hid hlt
   obtain ⟨J,hJ⟩:∃ J,F.incs.length=J:=⟨_,rfl⟩
   rw [hJ] at e0
   clear hif hdf hstep hF hK hJ hlt HR hg
   go_upto_region 5 with (fail)
   obtain ⟨g5,hg5⟩:∃ g,wr.heap.size=g:=⟨_,rfl⟩
   have hb5:=Blk.new wr #[.slice iA J ic,.slice sA sn sc,.slice dA K dc] 74
   have hn5:=nx0 wr (.cells #[.slice iA J ic,.slice sA sn sc,.slice dA K dc] 74)
   rw [hg5] at hb5
   generalize World.alloc wr _=w5 at *
   have HB5:=Lib.hid hb5
   have HN5:=Lib.hid (HNX.out.trans hn5)
   have HM5:=Lib.hid (HMP.out.nx hn5)
   have HG5:Hid (w.heap.size≤g5):=by unfold Hid;rw [← hg5];exact HNX.out.size
   have HGMW:Hid (gm<g5):=by unfold Hid;rw [← hg5];exact HMP.out.lt
   try rw [hg5]
   have t2:w5.cell? ⟨g5,2,none⟩=some (.slice dA K dc):=hb5.cell 2
   clear hg5 hb5 hn5 e0 e1 e2
   go_wp2_with fail
   clear t2
   go_loopw [23] (fun v ws=>∃ (j:Nat) (m2:MS),v = .int .i64 (j:Int)∧j≤K∧MpG kvS vvS okS ws gm m2∧Hid (fstD i j (F.defs.drop j) m2=fstD i 0 F.defs m)∧Nx w ws∧Oth gm w5 ws) (fun v _=>(K - intOf v).toNat)
   case atStart=>exact ⟨0,m,rfl,Nat.zero_le _,HM5.out,rfl,HN5.out,Oth.refl _ _⟩
   case round =>
    obtain ⟨j,m2,rfl,hj,hm2,HR2,hn2,ho2⟩:=hrel
    have HMP2:=Lib.hid hm2
    have HNX2:=Lib.hid hn2
    have HO2:=Lib.hid ho2
    clear hm2 hn2 ho2
    by_cases hlt2:j<K
    ·have q3:decide ((j:Int)<(K:Int))=true:=decide_eq_true (by omega)
     have q4:(j:Int)<(K:Int):=by omega
     have hjd:j<F.defs.length:=by rw [HK.out];exact hlt2
     obtain ⟨d,hd⟩:∃ d,F.defs[j]=d:=⟨_,rfl⟩
     obtain ⟨gd,x,hdA,hgd,hcd,hrd⟩:=def_at (RepL.nx RD.lasts HDF.out HNX2.out) j hjd d hd
     subst hdA
     obtain ⟨dk,dn,dt,⟨xk,xn,xd,s,xl⟩,xf,xm,de,xt⟩:=x
     obtain ⟨⟨zA,zu,zc,hxl⟩,⟨fA2,fu,fc2,hxf⟩,⟨mA,mu,mc,hxm⟩,⟨tA,tu,tc,hxt⟩⟩:=rd_sl hrd
     dsimp only at hxl hxf hxm hxt
     subst hxl hxf hxm hxt
     have hdn:dn=d.nm:=hrd.2.1
     have hdl:d.nm.length≤8000:=by
      have:=HFB.out.2.2 d (hd ▸ List.getElem_mem hjd)
      unfold dfnB at this
      simp only [Bool.and_eq_true,decide_eq_true_eq] at this
      exact this.1.1.1.1.1.1.1.1
     have hok:okS ((i:Int),dn):=⟨by show (-1:Int)≤(i:Int);omega,by show (i:Int)≤1000;have:=HLT.out;omega,by rw [hdn];exact hdl⟩
     have hst:=fstD_step hjd m2 d hd (i:=i)
     rw [← hdn,HR2.out] at hst
     have d0:wr.cell? ⟨gd,j * 12,none⟩=some (.int .i64 (dk:Int)):=hcd 0 (by decide)
     have d1:wr.cell? ⟨gd,j * 12+1,none⟩=some (.string ⟨dn.toArray⟩):=hcd 1 (by decide)
     have d2:wr.cell? ⟨gd,j * 12+2,none⟩=some (.string ⟨dt.toArray⟩):=hcd 2 (by decide)
     have d3:wr.cell? ⟨gd,j * 12+3,none⟩=some (.int .i64 (xk:Int)):=hcd 3 (by decide)
     have d4:wr.cell? ⟨gd,j * 12+4,none⟩=some (.int .i64 xn):=hcd 4 (by decide)
     have d5:wr.cell? ⟨gd,j * 12+5,none⟩=some (.int .u64 (xd:Int)):=hcd 5 (by decide)
     have d6:wr.cell? ⟨gd,j * 12+6,none⟩=some (.string ⟨s.toArray⟩):=hcd 6 (by decide)
     have d7:wr.cell? ⟨gd,j * 12+7,none⟩=some (.slice zA zu zc):=hcd 7 (by decide)
     have d8:wr.cell? ⟨gd,j * 12+8,none⟩=some (.slice fA2 fu fc2):=hcd 8 (by decide)
     have d9:wr.cell? ⟨gd,j * 12+9,none⟩=some (.slice mA mu mc):=hcd 9 (by decide)
     have d10:wr.cell? ⟨gd,j * 12+10,none⟩=some (.string ⟨de.toArray⟩):=hcd 10 (by decide)
     have d11:wr.cell? ⟨gd,j * 12+11,none⟩=some (.slice tA tu tc):=hcd 11 (by decide)
     obtain ⟨g7,hg7⟩:∃ g,wr.heap.size=g:=⟨_,rfl⟩
     obtain ⟨g8,hg8⟩:∃ g,g7+1=g:=⟨_,rfl⟩
     obtain ⟨w7,hw7⟩:∃ w7,wr.alloc (.cells #[.int .i64 (dk:Int),.string ⟨dn.toArray⟩,.string ⟨dt.toArray⟩,.int .i64 (xk:Int),.int .i64 xn,.int .u64 (xd:Int),.string ⟨s.toArray⟩,.slice zA zu zc,.slice fA2 fu fc2,.slice mA mu mc,.string ⟨de.toArray⟩,.slice tA tu tc] 56)=w7:=⟨_,rfl⟩
     have hz7:w7.heap.size=g8:=by rw [← hw7];simp;omega
     have hn7:Nx wr w7:=by rw [← hw7];exact nx0 _ _
     have hb7:Blk w7 g7 g7 #[.int .i64 (dk:Int),.string ⟨dn.toArray⟩,.string ⟨dt.toArray⟩,.int .i64 (xk:Int),.int .i64 xn,.int .u64 (xd:Int),.string ⟨s.toArray⟩,.slice zA zu zc,.slice fA2 fu fc2,.slice mA mu mc,.string ⟨de.toArray⟩,.slice tA tu tc] 56:=by rw [← hw7,← hg7];exact Blk.new wr _ _
     have t1:w7.cell? ⟨g7,1,none⟩=some (.string ⟨dn.toArray⟩):=hb7.cell 1
     obtain ⟨w8,hw8⟩:∃ w8,w7.alloc (.cells #[.int .i64 (i:Int),.string ⟨dn.toArray⟩] 76)=w8:=⟨_,rfl⟩
     have hn8:Nx w7 w8:=by rw [← hw8];exact nx0 _ _
     have hb8:Blk w8 g8 g8 #[.int .i64 (i:Int),.string ⟨dn.toArray⟩] 76:=by rw [← hw8,← hz7];exact Blk.new w7 _ _
     have k0:w8.cell? ⟨g8,0,none⟩=some (.int .i64 (i:Int)):=hb8.cell 0
     have k1:w8.cell? ⟨g8,1,none⟩=some (.string ⟨dn.toArray⟩):=hb8.cell 1
     have hm8:=HMP2.out.nx (hn7.trans hn8)
     have hlk:=(mapS.look hm8 ((i:Int),dn) hok).2
     obtain ⟨o,hpr,hpm⟩:=mapS.put hm8 ((i:Int),dn) j hok
     obtain ⟨B,hB⟩:∃ B,(getG m2 ((i:Int),dn)).isSome=B:=⟨_,rfl⟩
     obtain ⟨V,hV⟩:∃ V,(getG m2 ((i:Int),dn)).getD 0=V:=⟨_,rfl⟩
     rw [hB,hV] at hlk
     rw [hB] at hst
     unfold kvS vvS bt at hlk hpr
     dsimp only at hlk hpr
     have HN8:=Lib.hid (HNX2.out.trans (hn7.trans hn8))
     have HO8:=Lib.hid (HO2.out.trans (Oth.nx (hn7.trans hn8)))
     have HM8:=Lib.hid hm8
     have HPM:=Lib.hid hpm
     have HST2:=Lib.hid hst.symm
     have HLT2:=Lib.hid hlt2
     clear hcd hrd hdn hdl hok hm8 hpm hn7 hn8 hb7 hb8 hB hV hst hlt2 hjd hd hgd HR2
     cases B
     ·go_wp2_with fail
      go_roundw
      case rel =>
       have h2:=HST2.out
       rw [if_neg (by decide)] at h2
       refine ⟨j+1,_,by go_num,HLT2.out,HPM.out,h2,?_,?_⟩
       ·exact setBlock_oth _ _ _ rfl rfl rfl HN8.out (Nat.le_of_lt HGM.out)
       ·exact HO8.out.trans ⟨rfl,rfl,rfl,by simp [ChangeMaps.setBlock],fun k _ hk=>setBlock_keep hk⟩
      case measure=>have:=HLT2.out;simp [intOf];omega
     ·go_wp2_with fail
      go_roundw
      case rel =>
       have h2:=HST2.out
       rw [if_pos rfl] at h2
       exact ⟨j+1,_,by go_num,HLT2.out,HM8.out,h2,HN8.out,HO8.out⟩
      case measure=>have:=HLT2.out;simp [intOf];omega
    ·have q3:decide ((j:Int)<(K:Int))=false:=decide_eq_false (by omega)
     have q4:¬ (j:Int)<(K:Int):=by omega
     have HX:Hid (fstD i 0 F.defs m=m2):=by
      unfold Hid;rw [← HR2.out,List.drop_of_length_le (by rw [HK.out];omega)];rfl
     clear hlt2
     go_wp2_with fail
     go_roundw
     case rel=>exact ⟨i+1,m2,by go_num,HLT.out,HMP2.out,by have:=HST.out;rw [HX.out] at this;exact this,HNX2.out⟩
     case measure=>have:=HLT.out;simp [intOf];omega
  ·have q1:decide ((i:Int)<(n:Int))=false:=decide_eq_false (by omega)
   have q2:¬ (i:Int)<(n:Int):=by omega
   have HX:Hid (m=R):=by
    unfold Hid;rw [← HR.out,List.drop_of_length_le (by rw [HF.out];omega)];rfl
   clear hlt
   go_wp2_with fail
   go_ret
   exact ⟨gm,rfl,Nat.le_of_lt HGM.out,by rw [← HX.out];exact HMP.out,HNX.out⟩
end Go.Proofs.YtpfecpcgdfbekaaGreatDoor
namespace Go.Proofs.YtpfecpcgdfbekaaGreatDoor
open Go.RowKit
abbrev Pl:=Option (Int×Nat)
def plV (o:Pl):Value:=.agg #[.int .i64 (o.getD (0,0)).1,.int .i64 ((o.getD (0,0)).2:Int)]
def lookP (names:List (List UInt8)) (m:MS) (file nm:List UInt8):Pl:=(getG m (idxI names file,nm)).map fun j=>(idxI names file,j)
structure Scp (w:World) (nA fA:Option Addr) (n nc fc gm:Nat) (names:List (List UInt8)) (files:List Fil):Prop where
 ld:Ldn w nA fA n nc fc names files
 mp:MpG kvS vvS okS w gm (fstM files)
theorem Scp.nx {w w':World} {nA fA:Option Addr} {n nc fc gm:Nat} {names:List (List UInt8)} {files:List Fil} (h:Scp w nA fA n nc fc gm names files) (hn:Nx w w'):Scp w' nA fA n nc fc gm names files:=⟨h.ld.nx hn,h.mp.nx hn⟩
theorem idxI_le {l:List (List UInt8)} {t:List UInt8} {n:Nat} (h:l.length≤n) : -1≤idxI l t∧idxI l t≤(n:Int):=by
 unfold idxI
 cases e:idxN l t with
 | none=>exact ⟨Int.le_refl _,by show (-1:Int)≤_;omega⟩
 | some i =>
  obtain ⟨h1,-⟩:=idxN_lt e
  exact ⟨by show (-1:Int)≤(i:Int);omega,by show (i:Int)≤_;omega⟩
section
variable {w:World} {nA fA:Option Addr} {n nc fc gm:Nat} {names:List (List UInt8)} {files:List Fil}
set_option maxRecDepth 100000 in
set_option maxHeartbeats 3200000 in
theorem lookUp_any (h:Scp w nA fA n nc fc gm names files) (own file nm:List UInt8) (hnm:nm.length≤8000) :
  Calls Tryz.prog 44 #[.agg #[.slice nA n nc,.slice fA n fc,.string ⟨own.toArray⟩,.map (some gm)],.string ⟨file.toArray⟩,.string ⟨nm.toArray⟩] w fun e w'=>e = .returned (.tuple #[plV (lookP names (fstM files) file nm),.bool (lookP names (fstM files) file nm).isSome])∧Nx w w':=by
 have HS:=Lib.hid h
 obtain ⟨hn100,-,-⟩:=h.ld.parts
 obtain ⟨I,hI⟩:∃ I,idxI names file=I:=⟨_,rfl⟩
 have hIl:=idxI_le (l:=names) (t:=file) (n:=n) (Nat.le_of_eq h.ld.ln)
 rw [hI] at hIl
 have hok:okS (I,nm):=⟨hIl.1,by show I≤1000;omega,hnm⟩
 obtain ⟨G,hG⟩:∃ G,getG (fstM files) (I,nm)=G:=⟨_,rfl⟩
 have HLP:Hid (lookP names (fstM files) file nm=G.map fun j=>(I,j)):=by unfold Hid lookP;rw [hI,hG]
 rw [HLP.out]
 obtain ⟨gx,hgx⟩:∃ g,w.heap.size=g:=⟨_,rfl⟩
 obtain ⟨gr,hgr⟩:∃ g,gx+1=g:=⟨_,rfl⟩
 obtain ⟨w1,hw⟩:∃ w1,(w.alloc (.cells #[.slice nA n nc,.slice fA n fc,.string ⟨own.toArray⟩,.map (some gm)] 88)).alloc (.cells #[.int .i64 0,.int .i64 0] 91)=w1:=⟨_,rfl⟩
 have HBX:Hid (Blk w1 gx gx #[.slice nA n nc,.slice fA n fc,.string ⟨own.toArray⟩,.map (some gm)] 88):=by
  unfold Hid;rw [← hw,← hgx];exact (Blk.new w _ _).alloc _
 have HBR:Hid (Blk w1 gx gr #[.int .i64 0,.int .i64 0] 91):=by
  unfold Hid;rw [← hw,← hgr,← hgx,show w.heap.size+1=(w.alloc (.cells #[.slice nA n nc,.slice fA n fc,.string ⟨own.toArray⟩,.map (some gm)] 88)).heap.size from by simp]
  exact (Blk.new (w.alloc (.cells #[.slice nA n nc,.slice fA n fc,.string ⟨own.toArray⟩,.map (some gm)] 88)) _ _).less (by simp)
 have HN1:Hid (Nx w w1):=by unfold Hid;rw [← hw];exact Nx.al (nx0 w _) _
 have HS1:=Lib.hid (h.nx HN1.out)
 have HIX:Hid (Calls Tryz.prog 63 #[.slice nA n nc,.string ⟨file.toArray⟩] w1 fun e w'=>e = .returned (.int .i64 I)∧w'=w1):=by
  have:=sidx_any w1 nA n nc names HS1.out.ld.ln HS1.out.ld.rd (by omega) ⟨file.toArray⟩ file (Tx.of _)
  rw [hI] at this
  exact this
 have hlk:=(mapS.look HS1.out.mp (I,nm) hok).2
 rw [hG] at hlk
 unfold kvS vvS bt at hlk
 dsimp only at hlk
 have HGX:=Lib.hid hgx
 have hgw:Hid (w.heap.size≤gr):=by unfold Hid;omega
 have hi1:(-1:Int)≤I:=hIl.1
 have hi2:I≤(n:Int):=hIl.2
 have hi3:(n:Int)≤100:=by omega
 clear h hIl hok hG hI hn100
 go_enter Tryz.func44,Tryz.ntmps44
 go_upto_region 1 with (fail)
 try rw [hw]
 clear hw hgx hgr
 have x0:w1.cell? ⟨gx,0,none⟩=some (.slice nA n nc):=HBX.out.cell 0
 have x3:w1.cell? ⟨gx,3,none⟩=some (.map (some gm)):=HBX.out.cell 3
 go_wp2_with fail
 refine HIX.out.mono ?_;rintro e w2 ⟨rfl,hw2⟩;obtain rfl:=hw2.symm
 have y0:w1.cell? ⟨gr,0,none⟩=some (.int .i64 0):=HBR.out.cell 0
 have y1:w1.cell? ⟨gr,1,none⟩=some (.int .i64 0):=HBR.out.cell 1
 have r0:=HBR.out.free 0
 have r1:=HBR.out.free 1
 cases G with
 | none =>
  go_wp2_with fail
  refine bodyPost_ret (results_cell_tmp_rowB rfl _ _ gr _ _ _ _ rfl ((HBR.out.put 0 (.int .i64 0)).put 1 (.int .i64 0)).2 Tryz.underlying91 rfl (by kernel_rfl)) rfl ?_
  exact ⟨rfl,(HN1.out.put' hgw.out 0 _).put' hgw.out 1 _⟩
 | some j =>
  go_wp2_with fail
  refine bodyPost_ret (results_cell_tmp_rowB rfl _ _ gr _ _ _ _ rfl ((HBR.out.put 0 (.int .i64 I)).put 1 (.int .i64 (j:Int))).2 Tryz.underlying91 rfl (by kernel_rfl)) rfl ?_
  exact ⟨rfl,(HN1.out.put' hgw.out 0 _).put' hgw.out 1 _⟩
def seesO (files:List Fil) (own file:List UInt8):Option Nat→Bool
 | none=>false
 | some i=>decide (file=own) || (idxN (files.getD i ⟨[],[],[]⟩).incs file).isSome
def seesP (names:List (List UInt8)) (files:List Fil) (own file:List UInt8):Bool:=seesO files own file (idxN names own)
set_option maxRecDepth 100000 in
set_option maxHeartbeats 3200000 in
theorem sees_any (h:Scp w nA fA n nc fc gm names files) (own file:List UInt8) :
  Calls Tryz.prog 45 #[.agg #[.slice nA n nc,.slice fA n fc,.string ⟨own.toArray⟩,.map (some gm)],.string ⟨file.toArray⟩] w fun e w'=>e = .returned (.bool (seesP names files own file))∧Nx w w':=by
 have HS:=Lib.hid h
 obtain ⟨hn100,-,hfl⟩:=h.ld.parts
 have HFL:=Lib.hid hfl
 obtain ⟨O,hO⟩:∃ O,idxN names own=O:=⟨_,rfl⟩
 obtain ⟨R,hR⟩:∃ R,Hid (seesP names files own file=R):=⟨_,rfl⟩
 rw [hR.out]
 have HRE:Hid (R=seesO files own file O):=by unfold Hid;rw [← hR.out,← hO];rfl
 obtain ⟨gx,hgx⟩:∃ g,w.heap.size=g:=⟨_,rfl⟩
 obtain ⟨w1,hw⟩:∃ w1,w.alloc (.cells #[.slice nA n nc,.slice fA n fc,.string ⟨own.toArray⟩,.map (some gm)] 88)=w1:=⟨_,rfl⟩
 have HBX:Hid (Blk w1 gx gx #[.slice nA n nc,.slice fA n fc,.string ⟨own.toArray⟩,.map (some gm)] 88):=by
  unfold Hid;rw [← hw,← hgx];exact Blk.new w _ _
 have HN1:Hid (Nx w w1):=by unfold Hid;rw [← hw];exact nx0 w _
 have HS1:=Lib.hid (h.nx HN1.out)
 have hix:=sidx_any w1 nA n nc names HS1.out.ld.ln HS1.out.ld.rd (by omega) ⟨own.toArray⟩ own (Tx.of _)
 unfold idxI at hix
 rw [hO] at hix
 have HIX:=Lib.hid hix
 clear h hix hR hfl
 go_enter Tryz.func45,Tryz.ntmps45
 go_upto_region 1 with (fail)
 try rw [hw]
 clear hw hgx
 have x0:w1.cell? ⟨gx,0,none⟩=some (.slice nA n nc):=HBX.out.cell 0
 have x1:w1.cell? ⟨gx,1,none⟩=some (.slice fA n fc):=HBX.out.cell 1
 have x2:w1.cell? ⟨gx,2,none⟩=some (.string ⟨own.toArray⟩):=HBX.out.cell 2
 cases O with
 | none =>
  go_wp2_with fail
  refine HIX.out.mono ?_;rintro e w2 ⟨rfl,hw2⟩;obtain rfl:=hw2.symm
  dsimp only
  go_wp2_with fail
  go_ret
  exact ⟨by rw [HRE.out];rfl,HN1.out⟩
 | some i =>
  obtain ⟨hin,-⟩:=idxN_lt hO
  have hi:i<n:=by rw [← HS1.out.ld.ln];exact hin
  have hif:i<files.length:=by rw [HS1.out.ld.lf];exact hi
  obtain ⟨F,hF⟩:∃ F,files[i]=F:=⟨_,rfl⟩
  have HGD:Hid (files.getD i ⟨[],[],[]⟩=F):=by unfold Hid;rw [← hF];simp [List.getD,hif]
  obtain ⟨g,iA,ic,sA,sn,sc,dA,dc,hfA,hg,e0,e1,e2,hri,-⟩:=HS1.out.ld.file i hif F hF
  subst hfA
  obtain ⟨J,hJ⟩:∃ J,F.incs.length=J:=⟨_,rfl⟩
  rw [hJ] at e0
  have hJ9:J≤100000:=by have:=(HFL.out F (hF ▸ List.getElem_mem hif)).2.1;omega
  have hc:=scont_any w1 iA J ic F.incs hJ hri hJ9 ⟨file.toArray⟩ file (Tx.of _)
  have HC:=Lib.hid hc
  have q1:decide ((0:Int)≤(i:Int))=true:=decide_eq_true (by omega)
  have q2:(0:Int)≤(i:Int):=by omega
  have q3:(i:Int)<(n:Int):=by omega
  have q4:i<n:=hi
  have hi9:(i:Int)≤100:=by omega
  by_cases he:file=own
  ·have b1:(file == own)=true:=by rw [he];simp
   have HX:Hid (R=true):=by unfold Hid;rw [HRE.out];simp [seesO,he]
   clear hc hri he hJ hF hif hin hO e1 e2
   go_wp2_with fail
   refine HIX.out.mono ?_;rintro e w2 ⟨rfl,hw2⟩;obtain rfl:=hw2.symm
   dsimp only
   go_wp2_with fail
   go_ret
   exact ⟨by rw [HX.out];rfl,HN1.out⟩
  ·have b1:(file == own)=false:=by rw [beq_eq_false_iff_ne];exact he
   have HX:Hid (R=(idxN F.incs file).isSome):=by unfold Hid;rw [HRE.out];show (decide (file=own) || (idxN (files.getD i ⟨[],[],[]⟩).incs file).isSome)=_;rw [HGD.out,decide_eq_false he];rfl
   clear hc hri he hJ hF hif hin hO e1 e2
   go_wp2_with fail
   refine HIX.out.mono ?_;rintro e w2 ⟨rfl,hw2⟩;obtain rfl:=hw2.symm
   dsimp only
   go_wp2_with fail
   refine HC.out.mono ?_;rintro e w3 ⟨rfl,hw3⟩;obtain rfl:=hw3.symm
   go_wp2_with fail
   go_ret
   exact ⟨by rw [HX.out];rfl,HN1.out⟩
end
end Go.Proofs.YtpfecpcgdfbekaaGreatDoor
