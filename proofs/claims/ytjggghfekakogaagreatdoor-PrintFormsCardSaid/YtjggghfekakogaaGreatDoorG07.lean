/- How constants, fields, methods, definitions lie in memory. Plain lemmas. Texts under way: what a call that appends to one leaves. Plain lemmas. Which constants, fields, methods, definitions, files are the same: as functions. Plain. What lies where a cursor's block and a list's own one alone changed. Plain lemmas. Lists that lie: what lasts, append of one element. A constant's list is a slice. Plain lemma. The code's test whether two constants are the same. -/
import Derived.Test.YtjggghfekakogaaGreatDoorG06
import Derived.Lib.AppendStr
import Derived.Maps.AppendAt
import Derived.Deep.CutBlock
import Derived.Deep.DeepCutAuto
set_option linter.unusedVariables false
set_option linter.unusedSimpArgs false
set_option linter.unnecessarySimpa false
namespace Go.Proofs.YtjggghfekakogaaGreatDoor
open Go.RowKit
def bt (l:List UInt8):Value:=.string ⟨l.toArray⟩
def All2 {α β:Type} (R:α→β→Prop):List α→List β→Prop
 | [],[]=>True
 | x :: xs,y :: ys=>R x y∧All2 R xs ys
 | _,_=>False
theorem All2.len {α β:Type} {R:α→β→Prop}:∀ {xs:List α} {ys:List β},All2 R xs ys→xs.length=ys.length
 | [],[],_=>rfl
 | x :: xs,y :: ys,h=>by simp [All2.len h.2]
 | [],_ :: _,h=>h.elim
 | _ :: _,[],h=>h.elim
theorem All2.mono {α β:Type} {R S:α→β→Prop} (hRS:∀ x y,R x y→S x y):∀ {xs:List α} {ys:List β},All2 R xs ys→All2 S xs ys
 | [],[],_=>trivial
 | x :: xs,y :: ys,h=>⟨hRS _ _ h.1,All2.mono hRS h.2⟩
 | [],_ :: _,h=>h.elim
 | _ :: _,[],h=>h.elim
theorem All2.at_ {α β:Type} {R:α→β→Prop}:∀ {xs:List α} {ys:List β},All2 R xs ys→∀ i (hx:i<xs.length) (hy:i<ys.length),R xs[i] ys[i]
 | x :: xs,y :: ys,h,0,_,_=>h.1
 | x :: xs,y :: ys,h,i+1,hx,hy=>All2.at_ h.2 i (by simpa using hx) (by simpa using hy)
 | [],_ :: _,h,_,_,_=>h.elim
 | _ :: _,[],h,_,_,_=>h.elim
 | [],[],_,i,hx,_=>absurd hx (by simp)
structure ConS where
 k:Nat
 n:Int
 d:Nat
 s:List UInt8
 l:Value
def conA (x:ConS):Array Value:=#[.int .i64 (x.k:Int),.int .i64 x.n,.int .u64 (x.d:Int),bt x.s,x.l]
structure FldS where
 hasID:Bool
 id:Int
 req:Nat
 ty:List UInt8
 nm:List UInt8
 hasIn:Bool
 ini:ConS
def fldA (x:FldS):Array Value:=#[.bool x.hasID,.int .i64 x.id,.int .i64 (x.req:Int),bt x.ty,bt x.nm,.bool x.hasIn,.int .i64 (x.ini.k:Int),.int .i64 x.ini.n,.int .u64 (x.ini.d:Int),bt x.ini.s,x.ini.l]
def memA (x:Mem):Array Value:=#[bt x.nm,.bool x.has,.int .i64 x.n]
structure MetS where
 nm:List UInt8
 one:Bool
 ret:List UInt8
 args:Value
 thr:Value
def metA (x:MetS):Array Value:=#[bt x.nm,.bool x.one,bt x.ret,x.args,x.thr]
structure DfnS where
 k:Nat
 nm:List UInt8
 ty:List UInt8
 ini:ConS
 fields:Value
 mems:Value
 ext:List UInt8
 mets:Value
def dfnA (x:DfnS):Array Value:=#[.int .i64 (x.k:Int),bt x.nm,bt x.ty,.int .i64 (x.ini.k:Int),.int .i64 x.ini.n,.int .u64 (x.ini.d:Int),bt x.ini.s,x.ini.l,x.fields,x.mems,bt x.ext,x.mets]
def spcA (x:Spc):Array Value:=#[bt x.scope,bt x.nm]
def strA (x:List UInt8):Array Value:=#[bt x]
structure FilS where
 incs:Value
 spaces:Value
 defs:Value
def filA (x:FilS):Array Value:=#[x.incs,x.spaces,x.defs]
theorem conA_size (x:ConS):(conA x).size=5:=rfl
theorem fldA_size (x:FldS):(fldA x).size=11:=rfl
theorem memA_size (x:Mem):(memA x).size=3:=rfl
theorem metA_size (x:MetS):(metA x).size=5:=rfl
theorem dfnA_size (x:DfnS):(dfnA x).size=12:=rfl
theorem spcA_size (x:Spc):(spcA x).size=2:=rfl
theorem strA_size (x:List UInt8):(strA x).size=1:=rfl
def Sl {α:Type} (P:Nat→Prop) (f:α→Array Value) (k:Nat) (T:TypeId) (w:World) (v:Value) (xs:List α):Prop :=
 OwnS f k T w 0 v xs∧∀ g,v.ownBlock=some g→P g
section
variable {α:Type} {f:α→Array Value} {k:Nat} {T:TypeId} {P Q:Nat→Prop} {w w':World} {v:Value} {xs:List α}
theorem OwnS.lt_ {B:Nat} (h:OwnS f k T w B v xs) (g:Nat) (e:v.ownBlock=some g):g<w.heap.size:=(World.ownsRow.lt h g e).2
theorem OwnS.keep {B:Nat} (h:OwnS f k T w B v xs) (hk:∀ g,v.ownBlock=some g→w'.heap[g]? = w.heap[g]?):OwnS f k T w' B v xs:=by
 obtain ⟨h1,h2⟩:=h
 refine ⟨h1,?_⟩
 rcases h2 with h2 | ⟨g,cap,cur,hv,hg,hh,r⟩
 ·exact .inl h2
 ·refine .inr ⟨g,cap,cur,hv,hg,?_,r⟩
  rw [hk g (by rw [hv];rfl)];exact hh
theorem Sl.nil_:Sl P f k T w (.slice none 0 0) []:=⟨OwnS.nil_ _ _,fun g e=>by cases e⟩
theorem Sl.keep (h:Sl P f k T w v xs) (hk:∀ g,P g→g<w.heap.size→w'.heap[g]? = w.heap[g]?):Sl P f k T w' v xs :=
 ⟨h.1.keep fun g e=>hk g (h.2 g e) (h.1.lt_ g e),h.2⟩
theorem Sl.to (h:Sl P f k T w v xs) (hq:∀ g,P g→g<w.heap.size→Q g):Sl Q f k T w v xs:=⟨h.1,fun g e=>hq g (h.2 g e) (h.1.lt_ g e)⟩
end
structure Mv (P Q:Nat→Prop) (w w':World):Prop where
 keep:∀ g,P g→g<w.heap.size→w'.heap[g]? = w.heap[g]?
 «to» : ∀ g,P g→g<w.heap.size→Q g
theorem Sl.mv {P Q:Nat→Prop} {w w':World} {α:Type} {f:α→Array Value} {k:Nat} {T:TypeId} {v:Value} {xs:List α} (h:Sl P f k T w v xs) (m:Mv P Q w w'):Sl Q f k T w' v xs :=
 ⟨h.1.keep fun g e=>m.keep g (h.2 g e) (h.1.lt_ g e),fun g e=>m.to g (h.2 g e) (h.1.lt_ g e)⟩
def But (P:Nat→Prop) (v:Value) (g:Nat):Prop:=P g∧v.ownBlock≠some g
theorem Mv.but {P Q:Nat→Prop} {w w':World} (m:Mv P Q w w') (v:Value):Mv (But P v) (But Q v) w w':=⟨fun g h hl=>m.keep g h.1 hl,fun g h hl=>⟨m.to g h.1 hl,h.2⟩⟩
def RepL {α β:Type} (f:α→Array Value) (k:Nat) (T:TypeId) (R:World→(Nat→Prop)→α→β→Prop) (w:World) (P:Nat→Prop) (v:Value) (l:List β):Prop :=
 ∃ xs,Sl P f k T w v xs∧All2 (R w (But P v)) xs l
def Lasts {α β:Type} (R:World→(Nat→Prop)→α→β→Prop):Prop:=∀ {P Q:Nat→Prop} {w w':World},Mv P Q w w'→∀ {x:α} {y:β},R w P x y→R w' Q x y
theorem RepL.mv {α β:Type} {f:α→Array Value} {k:Nat} {T:TypeId} {R:World→(Nat→Prop)→α→β→Prop} (hR:Lasts R) {P Q:Nat→Prop} {w w':World} (m:Mv P Q w w') {v:Value} {l:List β} :
  RepL f k T R w P v l→RepL f k T R w' Q v l:=fun ⟨xs,h1,h2⟩=>⟨xs,h1.mv m,h2.mono fun _ _ h=>hR (m.but v) h⟩
theorem RepL.nil_ {α β:Type} {f:α→Array Value} {k:Nat} {T:TypeId} {R:World→(Nat→Prop)→α→β→Prop} {P:Nat→Prop} {w:World}:RepL f k T R w P (.slice none 0 0) ([]:List β) :=
 ⟨[],Sl.nil_,trivial⟩
def RC (n:Nat) (w:World):(Nat→Prop)→ConS→Con→Prop:=Nat.rec (motive:=fun _=>(Nat→Prop)→ConS→Con→Prop) (fun _ _ _=>False)
 (fun _ ih P x c=>match c with | .mk k m d s l=>x.k=k∧x.n=m∧x.d=d∧x.s=s∧∃ ys,Sl P conA 5 48 w x.l ys∧All2 (ih (But P x.l)) ys l) n
theorem RC.lasts:∀ n,Lasts (RC n)
 | 0=>fun _ _ _ h=>h
 | n+1=>fun m x c h=>by
  obtain ⟨k,a,d,s,l⟩:=c
  obtain ⟨h1,h2,h3,h4,ys,h5,h6⟩:=h
  exact ⟨h1,h2,h3,h4,ys,h5.mv m,h6.mono fun x y h=>RC.lasts n (m.but _) h⟩
theorem RC.mk {n:Nat} {w:World} {P:Nat→Prop} {k:Nat} {m:Int} {d:Nat} {s:List UInt8} {v:Value} {l:List Con} (h:RepL conA 5 48 (RC n) w P v l):RC (n+1) w P ⟨k,m,d,s,v⟩ (.mk k m d s l):=by
 obtain ⟨ys,h5,h6⟩:=h
 exact ⟨rfl,rfl,rfl,rfl,ys,h5,h6⟩
theorem RC.of {n:Nat} {w:World} {P:Nat→Prop} {x:ConS} {c:Con} (h:RC (n+1) w P x c):∃ l,c = .mk x.k x.n x.d x.s l∧RepL conA 5 48 (RC n) w P x.l l:=by
 obtain ⟨k,a,d,s,l⟩:=c
 obtain ⟨rfl,rfl,rfl,rfl,ys,h5,h6⟩:=h
 exact ⟨l,rfl,ys,h5,h6⟩
def REq {α:Type} (_:World) (_:Nat→Prop) (x y:α):Prop:=x=y
theorem REq.lasts {α:Type}:Lasts (REq (α:=α)):=fun _ _ _ h=>h
def RPr (n:Nat) (w:World) (P:Nat→Prop) (x:ConS×ConS) (y:Con×Con):Prop:=RC n w P x.1 y.1∧RC n w P x.2 y.2
theorem RPr.lasts (n:Nat):Lasts (RPr n):=fun m _ _ h=>⟨RC.lasts n m h.1,RC.lasts n m h.2⟩
def RF (w:World) (P:Nat→Prop) (x:FldS) (y:Fld):Prop :=
 x.hasID=y.hasID∧x.id=y.id∧x.req=y.req∧x.ty=y.ty∧x.nm=y.nm∧x.hasIn=y.hasIn∧RC 13 w P x.ini y.ini
theorem RF.lasts:Lasts RF:=fun m _ _ h=>⟨h.1,h.2.1,h.2.2.1,h.2.2.2.1,h.2.2.2.2.1,h.2.2.2.2.2.1,RC.lasts 13 m h.2.2.2.2.2.2⟩
def LF:=RepL fldA 11 59 RF
theorem LF.lasts:Lasts LF:=fun m _ _ h=>RepL.mv RF.lasts m h
def RM (w:World) (P:Nat→Prop) (x:MetS) (y:Met):Prop:=x.nm=y.nm∧x.one=y.one∧x.ret=y.ret∧LF w P x.args y.args∧LF w P x.thr y.thr
theorem RM.lasts:Lasts RM:=fun m _ _ h=>⟨h.1,h.2.1,h.2.2.1,LF.lasts m h.2.2.2.1,LF.lasts m h.2.2.2.2⟩
def LM:=RepL metA 5 61 RM
theorem LM.lasts:Lasts LM:=fun m _ _ h=>RepL.mv RM.lasts m h
def LMm:=RepL memA 3 57 (REq (α:=Mem))
theorem LMm.lasts:Lasts LMm:=fun m _ _ h=>RepL.mv REq.lasts m h
def RD (w:World) (P:Nat→Prop) (x:DfnS) (y:Dfn):Prop :=
 x.k=y.k∧x.nm=y.nm∧x.ty=y.ty∧RC 13 w P x.ini y.ini∧LF w P x.fields y.fields∧LMm w P x.mems y.mems∧x.ext=y.ext∧LM w P x.mets y.mets
theorem RD.lasts:Lasts RD:=fun m _ _ h=>⟨h.1,h.2.1,h.2.2.1,RC.lasts 13 m h.2.2.2.1,LF.lasts m h.2.2.2.2.1,LMm.lasts m h.2.2.2.2.2.1,h.2.2.2.2.2.2.1,LM.lasts m h.2.2.2.2.2.2.2⟩
def LD:=RepL dfnA 12 55 RD
theorem LD.lasts:Lasts LD:=fun m _ _ h=>RepL.mv RD.lasts m h
def LS:=RepL spcA 2 50 (REq (α:=Spc))
theorem LS.lasts:Lasts LS:=fun m _ _ h=>RepL.mv REq.lasts m h
def LT:=RepL strA 1 9 (REq (α:=List UInt8))
theorem LT.lasts:Lasts LT:=fun m _ _ h=>RepL.mv REq.lasts m h
def LC (n:Nat):=RepL conA 5 48 (RC n)
theorem LC.lasts (n:Nat):Lasts (LC n):=fun m _ _ h=>RepL.mv (RC.lasts n) m h
def RFile (w:World) (P:Nat→Prop) (x:FilS) (y:Fil):Prop:=LT w P x.incs y.incs∧LS w P x.spaces y.spaces∧LD w P x.defs y.defs
theorem RFile.lasts:Lasts RFile:=fun m _ _ h=>⟨LT.lasts m h.1,LS.lasts m h.2.1,LD.lasts m h.2.2⟩
theorem rc_con0 {n:Nat} {w:World} {P:Nat→Prop}:RC (n+1) w P ⟨0,0,0,[],.slice none 0 0⟩ con0:=RC.mk RepL.nil_
def Fm (B:Nat) (g:Nat):Prop:=B≤g
theorem Mv.nx {B C:Nat} {w w':World} (h:Nx w w') (hC:C≤B):Mv (Fm B) (Fm C) w w':=⟨fun g _ hl=>h.block g hl,fun g h _=>Nat.le_trans hC h⟩
theorem Mv.oth {B C b:Nat} {w w':World} (h:Oth b w w') (hC:C≤B) (hb:b<B):Mv (Fm B) (Fm C) w w':=⟨fun g hg hl=>h.block g hl (by have:B≤g:=hg;omega),fun g h _=>Nat.le_trans hC h⟩
end Go.Proofs.YtjggghfekakogaaGreatDoor
namespace Go.Proofs.YtjggghfekakogaaGreatDoor
open Go.RowKit
structure Gw (v:Value) (w:World) (v':Value) (w':World):Prop where
 os:w'.os=w.os
 tape:w'.tape=w.tape
 output:w'.output=w.output
 size:w.heap.size≤w'.heap.size
 block:∀ k,k<w.heap.size→v.ownBlock≠some k→w'.heap[k]? = w.heap[k]?
 own:∀ k,v'.ownBlock=some k→v.ownBlock=some k∨w.heap.size≤k
theorem Gw.refl (v:Value) (w:World):Gw v w v w:=⟨rfl,rfl,rfl,Nat.le_refl _,fun _ _ _=>rfl,fun _ h=>.inl h⟩
theorem Gw.trans {v v1 v2:Value} {x y z:World} (h:Gw v x v1 y) (k:Gw v1 y v2 z):Gw v x v2 z :=
  ⟨k.os.trans h.os,k.tape.trans h.tape,k.output.trans h.output,Nat.le_trans h.size k.size,
   fun i hi hv=>(k.block i (Nat.lt_of_lt_of_le hi h.size) (fun e=>(h.own i e).elim hv (by omega))).trans (h.block i hi hv),
   fun i e=>(k.own i e).elim (h.own i) (fun h'=>.inr (Nat.le_trans h.size h'))⟩
theorem Gw.nx {w w':World} (h:Nx w w') (v:Value):Gw v w v w':=⟨h.os,h.tape,h.output,h.size,fun k hk _=>h.block k hk,fun _ h=>.inl h⟩
theorem Gw.toNx {v v':Value} {w w1 w':World} (h:Gw v w1 v' w') (hn:Nx w w1) (hv:∀ k,v.ownBlock=some k→w.heap.size≤k):Nx w w' :=
 ⟨h.os.trans hn.os,h.tape.trans hn.tape,h.output.trans hn.output,Nat.le_trans hn.size h.size,fun k hk=>(h.block k (Nat.lt_of_lt_of_le hk hn.size) (fun e=>by have:=hv k e;omega)).trans (hn.block k hk)⟩
def No (v:Value) (g:Nat):Prop:=v.ownBlock≠some g
theorem Gw.mv {v v':Value} {w w':World} (h:Gw v w v' w'):Mv (No v) (No v') w w' :=
 ⟨fun g hg hl=>h.block g hl hg,fun g hg hl e=>(h.own g e).elim hg (by omega)⟩
theorem Gw.blk {v v':Value} {w w':World} (h:Gw v w v' w') {B g:Nat} {cs:Array Value} {T:TypeId} (k:Blk w B g cs T) (hg:v.ownBlock≠some g):Blk w' B g cs T∧v'.ownBlock≠some g :=
 ⟨⟨k.1,by rw [h.block g k.lt hg];exact k.2⟩,fun e=>(h.own g e).elim hg (by have:=k.lt;omega)⟩
theorem Gw.cell {v v':Value} {w w':World} (h:Gw v w v' w') {p:Addr} (hp:p.block<w.heap.size) (hg:v.ownBlock≠some p.block):w'.cell? p=w.cell? p:=World.cell?_of_block (h.block _ hp hg)
def Ob (B:Nat) (w:World) (v:Value) (xs:List UInt8):Prop:=B≤w.heap.size∧Own bv 5 w B v xs
theorem Ob.nil_ {B:Nat} {w:World} (h:B≤w.heap.size):Ob B w (.slice none 0 0) []:=⟨h,Own.nil_⟩
section
variable {B:Nat} {w w':World} {v v':Value} {xs ys:List UInt8}
theorem Ob.own (h:Ob B w v xs) (k:Nat) (e:v.ownBlock=some k):B≤k∧k<w.heap.size:=World.ownsRow.lt h.2 k e
theorem Ob.ne (h:Ob B w v xs) {g:Nat} {cs:Array Value} {T:TypeId} {fr:Nat×Nat} (hg:w.heap[g]? = some (.cells cs T fr)) (hT:T≠5):v.ownBlock≠some g:=by
 intro e
 obtain ⟨-,-,h2⟩:=h
 rcases h2 with ⟨rfl,-⟩ | ⟨g',cap,cur,rfl,-,hh,-⟩
 ·cases e
 ·cases e
  rw [hg] at hh
  simp at hh
  exact hT hh.2.1
theorem Ob.blk (h:Ob B w v xs) {B' g:Nat} {cs:Array Value} {T:TypeId} (hg:Blk w B' g cs T) (hT:T≠5):v.ownBlock≠some g:=h.ne hg.2 hT
theorem Ob.new (h:Ob B w v xs):v.ownBlock≠some w.heap.size:=fun e=>absurd (h.own _ e).2 (Nat.lt_irrefl _)
theorem Ob.nx (h:Ob B w v xs) (hn:Nx w w'):Ob B w' v xs:=⟨Nat.le_trans h.1 hn.size,Own.below h.2 hn⟩
theorem Ob.cast (h:Ob B w v xs) (e:xs=ys):Ob B w v ys:=e ▸ h
theorem Ob.sl (h:Ob B w v xs):∃ A c,v = .slice A xs.length c∧xs.length≤c∧c≤maxLen∧Rd bv w A xs:=Own.sl h.2
theorem Gw.below (h:Gw v w v' w') (ho:Ob B w v xs):Below B w w':=⟨h.os,h.tape,h.output,h.size,fun k hk=>h.block k (Nat.lt_of_lt_of_le hk ho.1) (fun e=>by have:=(ho.own k e).1;omega)⟩
end
section
variable {P:Program} (w:World)
theorem own_string_at (t u ty e:TypeId) (i:TypeInfo) (ht:P.underlying t=some (.slice e)) (hu:P.underlying u=some .string) (hi:P.info? e=some i) (hz:i.zero=some (.int .u8 0)) (hsize:i.size=1) (hby:i.bytes=1)
  (v:Value) (n:Nat) (xs:List Value) (base:Nat) (hbase:base≤w.heap.size) (hown:w.ownsRow base e 1 v n xs) (s:ByteArray) (hbytes:n+s.size≤140737488355328) :
  ∃ v' w',(Builtin.append_ #[t,u] ty #[v,.string s]).run P w = .ok v' w'∧w'.ownsRow base e 1 v' (n+s.size) (xs++Lib.strCells s)∧w.grownBy w' v.ownBlock∧(v'.ownBlock=v.ownBlock∨v'.ownBlock=some w.heap.size):=by
 obtain ⟨v',w',hrun,ho,hg,hnil⟩:=Lib.run_append_own_string (P:=P) w base t u ty e i ht hu hi hz hsize hby v n xs hown s (by unfold maxLen;omega) hbytes hbase
 refine ⟨v',w',hrun,ho,hg,?_⟩
 rcases hown.2 with ⟨rfl,rfl⟩ | ⟨g,cap,cur,rfl,-,hc,hnc,hcm,hcs,-⟩
 ·by_cases hm:s.size=0
  ·left;rw [hnil.2 ⟨rfl,hm⟩]
  ·right
   rw [run_append_nil_string (P:=P) w t u ty e i (.int .u8 0) ht hu hi hz s (by omega) (by omega) (by rw [hby];omega)] at hrun
   injection hrun with h1 h2
   rw [← h1];rfl
 ·by_cases hroom:n+s.size≤cap
  ·left
   rw [Lib.run_append_room_string (P:=P) w t u ty e i ht hu hi hsize g n cap cur hc s hroom (by omega)] at hrun
   injection hrun with h1 h2
   rw [← h1];rfl
  ·right
   rw [Lib.run_append_grow_string (P:=P) w t u ty e i (.int .u8 0) ht hu hi hz ⟨g,0,none⟩ n cap xs (by rw [hsize];simpa using hown.1) (hown.cells (g:=g) rfl) s (by omega) (by omega) (by rw [hby];exact growslice_fits (by omega) (by omega))] at hrun
   injection hrun with h1 h2
   rw [← h1];rfl
end
theorem gw_of {w w':World} {v v':Value} (hg:w.grownBy w' v.ownBlock) (ho:v'.ownBlock=v.ownBlock∨v'.ownBlock=some w.heap.size):Gw v w v' w' :=
 ⟨hg.os,hg.tape,hg.output,hg.size,fun k hk hv=>hg.block k hk (fun e=>hv e.symm),fun k e=>by
  rcases ho with h | h
  ·exact .inl (h ▸ e)
  ·rw [h] at e;cases e;exact .inr (Nat.le_refl _)⟩
section
variable {B:Nat} (w:World) {ops:Array Oper} {rest:List Oper} {o:Oper} {a:Act} {Q:Exit→Act→World→Prop}
theorem u8_info:∃ i,Tryz.prog.info? 5 = some i∧i.zero=some (.int .u8 0)∧i.size=1∧i.bytes=1 :=
 info_parts (show (Tryz.prog.info? 5).map (fun i=>(i.zero,i.size,i.bytes))=some (some (.int .u8 0),1,1) by kernel_rfl)
theorem op_apS (s x:Operand) (ho:o.op = .call { callee:=.builtin .append,args:=#[s,x],argTypes:=#[34,9] }) (v:Value) (xs:List UInt8) (hs:a.eval s=v) (hown:Ob B w v xs)
  (y:ByteArray) (l:List UInt8) (hy:Tx y l) (hx:a.eval x = .string y) (h63:(xs.length:Int)+(l.length:Int)≤1000000000)
  {K:Act→World→Prop} {F:Exit→Act→World→Prop} (h:∀ v' w',Ob B w' v' (xs++l)→Gw v w v' w'→K (a.put o.dst v') w'):o.wp Tryz.prog a w K F:=by
 obtain ⟨i,hi,hz,h1,h2⟩:=u8_info
 obtain ⟨v',w',hrun,ho',hg,hob⟩:=own_string_at (P:=Tryz.prog) w 34 9 o.type 5 i Tryz.underlying34 Tryz.underlying9 hi hz h1 h2 v xs.length (xs.map bv) B hown.1 hown.2 y (by rw [hy.size];omega)
 have ho2:Ob B w' v' (xs++l):=by
  refine ⟨Nat.le_trans hown.1 hg.size,?_⟩
  unfold Own
  rw [List.length_append,List.map_append,← hy.size,← show y.data.toList=l from hy,← strCells_bv]
  exact ho'
 have:=h v' w' ho2 (gw_of hg hob)
 unfold Oper.wp execOp
 simp only [ho,resolve,invoke,builtin,Sem.run_bind,Sem.run_pure,Result.andThen_ok,List.map_toArray,List.map_cons,List.map_nil,hs,hx,hrun]
 exact this
theorem op_ap1 (s x:Operand) (ho:o.op = .call { callee:=.builtin .append,args:=#[s,x],argTypes:=#[34,34] }) (v:Value) (xs:List UInt8) (hs:a.eval s=v) (hown:Ob B w v xs)
  (g:Nat) (c:UInt8) (hx:a.eval x = .slice (some ⟨g,0,none⟩) 1 1) (hc:w.cell? ⟨g,0,none⟩=some (bv c)) (h63:(xs.length:Int)≤1000000000)
  {K:Act→World→Prop} {F:Exit→Act→World→Prop} (h:∀ v' w',Ob B w' v' (xs++[c])→Gw v w v' w'→K (a.put o.dst v') w'):o.wp Tryz.prog a w K F:=by
 obtain ⟨i,hi,hz,h1,h2⟩:=u8_info
 obtain ⟨v',w',hrun,ho',hg,_,hob⟩:=run_append_own_at (P:=Tryz.prog) w B 34 o.type 5 i _ 1 1 Tryz.underlying34 hi hz h1 h2 rfl (by decide) v xs.length (xs.map bv) hown.2 ⟨g,0,none⟩ 1 1 [bv c] rfl
  (by
   intro j u hu
   cases j with
   | zero=>simp at hu;subst hu;rw [Addr.add_lit];exact hc
   | succ j=>simp at hu)
  (by intro u hu;simp at hu;subst hu;rfl) (by simp [maxLen];omega) (by omega) hown.1
 have ho2:Ob B w' v' (xs++[c]):=by
  refine ⟨Nat.le_trans hown.1 hg.size,?_⟩
  unfold Own
  rw [List.length_append,List.map_append]
  exact ho'
 have:=h v' w' ho2 (gw_of hg hob)
 unfold Oper.wp execOp
 simp only [ho,resolve,invoke,builtin,Sem.run_bind,Sem.run_pure,Result.andThen_ok,List.map_toArray,List.map_cons,List.map_nil,hs,hx,hrun]
 exact this
theorem wpList_apS (hgd:o.guard=none) (s x:Operand) (ho:o.op = .call { callee:=.builtin .append,args:=#[s,x],argTypes:=#[34,9] }) (v:Value) (xs:List UInt8) (hs:a.eval s=v) (hown:Ob B w v xs)
  (y:ByteArray) (l:List UInt8) (hy:Tx y l) (hx:a.eval x = .string y) (h63:(xs.length:Int)+(l.length:Int)≤1000000000)
  (h:∀ v' w',Ob B w' v' (xs++l)→Gw v w v' w'→wpList Tryz.prog ops Q rest (a.put o.dst v') w'):wpList Tryz.prog ops Q (o :: rest) a w :=
 wpList_plain hgd fun K hK=>op_apS w s x ho v xs hs hown y l hy hx h63 fun v' w' h1 h2=>hK _ _ (h v' w' h1 h2)
theorem wpList_ap1 (hgd:o.guard=none) (s x:Operand) (ho:o.op = .call { callee:=.builtin .append,args:=#[s,x],argTypes:=#[34,34] }) (v:Value) (xs:List UInt8) (hs:a.eval s=v) (hown:Ob B w v xs)
  (g:Nat) (c:UInt8) (hx:a.eval x = .slice (some ⟨g,0,none⟩) 1 1) (hc:w.cell? ⟨g,0,none⟩=some (bv c)) (h63:(xs.length:Int)≤1000000000)
  (h:∀ v' w',Ob B w' v' (xs++[c])→Gw v w v' w'→wpList Tryz.prog ops Q rest (a.put o.dst v') w'):wpList Tryz.prog ops Q (o :: rest) a w :=
 wpList_plain hgd fun K hK=>op_ap1 w s x ho v xs hs hown g c hx hc h63 fun v' w' h1 h2=>hK _ _ (h v' w' h1 h2)
theorem op_apR (s x:Operand) (ho:o.op = .call { callee:=.builtin .append,args:=#[s,x],argTypes:=#[34,34] }) (v:Value) (xs:List UInt8) (hs:a.eval s=v) (hown:Ob B w v xs)
  (p:Addr) (c:Nat) (l:List UInt8) (hx:a.eval x = .slice (some p) l.length c) (hc:∀ j u,(l.map bv)[j]? = some u→w.cell? (p.add j)=some u) (h63:(xs.length:Int)+(l.length:Int)≤1000000000)
  {K:Act→World→Prop} {F:Exit→Act→World→Prop} (h:∀ v' w',Ob B w' v' (xs++l)→Gw v w v' w'→K (a.put o.dst v') w'):o.wp Tryz.prog a w K F:=by
 obtain ⟨i,hi,hz,h1,h2⟩:=u8_info
 obtain ⟨v',w',hrun,ho',hg,_,hob⟩:=run_append_own_at (P:=Tryz.prog) w B 34 o.type 5 i _ 1 1 Tryz.underlying34 hi hz h1 h2 rfl (by decide) v xs.length (xs.map bv) hown.2 p l.length c (l.map bv) (by simp) hc
  (by intro u hu;obtain ⟨y,-,rfl⟩:=List.mem_map.1 hu;rfl) (by simp [maxLen];omega) (by omega) hown.1
 have ho2:Ob B w' v' (xs++l):=by
  refine ⟨Nat.le_trans hown.1 hg.size,?_⟩
  unfold Own
  rw [List.length_append,List.map_append]
  exact ho'
 have:=h v' w' ho2 (gw_of hg hob)
 unfold Oper.wp execOp
 simp only [ho,resolve,invoke,builtin,Sem.run_bind,Sem.run_pure,Result.andThen_ok,List.map_toArray,List.map_cons,List.map_nil,hs,hx,hrun]
 exact this
theorem wpList_apR (hgd:o.guard=none) (s x:Operand) (ho:o.op = .call { callee:=.builtin .append,args:=#[s,x],argTypes:=#[34,34] }) (v:Value) (xs:List UInt8) (hs:a.eval s=v) (hown:Ob B w v xs)
  (p:Addr) (c:Nat) (l:List UInt8) (hx:a.eval x = .slice (some p) l.length c) (hc:∀ j u,(l.map bv)[j]? = some u→w.cell? (p.add j)=some u) (h63:(xs.length:Int)+(l.length:Int)≤1000000000)
  (h:∀ v' w',Ob B w' v' (xs++l)→Gw v w v' w'→wpList Tryz.prog ops Q rest (a.put o.dst v') w'):wpList Tryz.prog ops Q (o :: rest) a w :=
 wpList_plain hgd fun K hK=>op_apR w s x ho v xs hs hown p c l hx hc h63 fun v' w' h1 h2=>hK _ _ (h v' w' h1 h2)
end
end Go.Proofs.YtjggghfekakogaaGreatDoor
namespace Go.Proofs.YtjggghfekakogaaGreatDoor
def allEq {α:Type} (f:α→α→Bool):List α→List α→Bool
 | [],[]=>true
 | x :: xs,y :: ys=>f x y && allEq f xs ys
 | _,_=>false
theorem allEq_len {α:Type} {f:α→α→Bool}:∀ {xs ys:List α},xs.length≠ys.length→allEq f xs ys=false
 | [],[],h=>absurd rfl h
 | [],_ :: _,_=>rfl
 | _ :: _,[],_=>rfl
 | x :: xs,y :: ys,h=>by
  have:=allEq_len (f:=f) (xs:=xs) (ys:=ys) (by simpa using h)
  show (f x y && allEq f xs ys)=false
  rw [this,Bool.and_false]
theorem allEq_true {α:Type} {f:α→α→Bool}:∀ {xs ys:List α},xs.length=ys.length→(∀ i (h1:i<xs.length) (h2:i<ys.length),f xs[i] ys[i]=true)→allEq f xs ys=true
 | [],[],_,_=>rfl
 | [],_ :: _,h,_=>by simp at h
 | _ :: _,[],h,_=>by simp at h
 | x :: xs,y :: ys,h,k=>by
  have h0:=k 0 (by simp) (by simp)
  have:=allEq_true (f:=f) (xs:=xs) (ys:=ys) (by simpa using h) fun i h1 h2=>k (i+1) (by simpa using h1) (by simpa using h2)
  show (f x y && allEq f xs ys)=true
  rw [this,show f x y=true from h0];rfl
theorem allEq_false {α:Type} {f:α→α→Bool}:∀ {xs ys:List α} (i:Nat) (h1:i<xs.length) (h2:i<ys.length),f xs[i] ys[i]=false→allEq f xs ys=false
 | x :: xs,y :: ys,0,_,_,h=>by
  show (f x y && allEq f xs ys)=false
  rw [show f x y=false from h,Bool.false_and]
 | x :: xs,y :: ys,i+1,h1,h2,h=>by
  have:=allEq_false (f:=f) (xs:=xs) (ys:=ys) i (by simpa using h1) (by simpa using h2) h
  show (f x y && allEq f xs ys)=false
  rw [this,Bool.and_false]
def eqC:Nat→Con→Con→Bool
 | 0,_,_=>false
 | n+1,.mk k i d s l,.mk k' i' d' s' l'=>(k == k') && (i == i') && (d == d') && (s == s') && allEq (eqC n) l l'
def eqF (a b:Fld):Bool:=(a.hasID == b.hasID) && (a.id == b.id) && (a.req == b.req) && (a.ty == b.ty) && (a.nm == b.nm) && (a.hasIn == b.hasIn) && eqC 13 a.ini b.ini
def eqM (a b:Met):Bool:=(a.nm == b.nm) && (a.one == b.one) && (a.ret == b.ret) && allEq eqF a.args b.args && allEq eqF a.thr b.thr
def eqMm (a b:Mem):Bool:=(a.nm == b.nm) && (a.has == b.has) && (a.n == b.n)
def eqD (a b:Dfn):Bool:=(a.k == b.k) && (a.nm == b.nm) && (a.ty == b.ty) && eqC 13 a.ini b.ini && allEq eqF a.fields b.fields && allEq eqMm a.mems b.mems && (a.ext == b.ext) && allEq eqM a.mets b.mets
def eqS (a b:Spc):Bool:=(a.scope == b.scope) && (a.nm == b.nm)
def eqFil (a b:Fil):Bool:=allEq (fun x y=>x == y) a.incs b.incs && allEq eqS a.spaces b.spaces && allEq eqD a.defs b.defs
def nodC:Nat→Con→Nat
 | 0,_=>0
 | n+1,.mk _ _ _ _ l=>1+(l.map (nodC n)).sum
end Go.Proofs.YtjggghfekakogaaGreatDoor
namespace Go.Proofs.YtjggghfekakogaaGreatDoor
open Go.RowKit
structure Fr (b:Nat) (v:Value) (w:World) (v':Value) (w':World):Prop where
 os:w'.os=w.os
 tape:w'.tape=w.tape
 output:w'.output=w.output
 size:w.heap.size≤w'.heap.size
 block:∀ k,k<w.heap.size→k≠b→v.ownBlock≠some k→w'.heap[k]? = w.heap[k]?
 own:∀ k,v'.ownBlock=some k→v.ownBlock=some k∨w.heap.size≤k
theorem Fr.refl (b:Nat) (v:Value) (w:World):Fr b v w v w:=⟨rfl,rfl,rfl,Nat.le_refl _,fun _ _ _ _=>rfl,fun _ h=>.inl h⟩
theorem Fr.trans {b:Nat} {v v1 v2:Value} {x y z:World} (h:Fr b v x v1 y) (k:Fr b v1 y v2 z):Fr b v x v2 z :=
  ⟨k.os.trans h.os,k.tape.trans h.tape,k.output.trans h.output,Nat.le_trans h.size k.size,
   fun i hi hb hv=>(k.block i (Nat.lt_of_lt_of_le hi h.size) hb (fun e=>(h.own i e).elim hv (by omega))).trans (h.block i hi hb hv),
   fun i e=>(k.own i e).elim (h.own i) (fun h'=>.inr (Nat.le_trans h.size h'))⟩
theorem Fr.oth {b:Nat} {w w':World} (h:Oth b w w') (v:Value):Fr b v w v w':=⟨h.os,h.tape,h.output,h.size,fun k hk hb _=>h.block k hk hb,fun _ h=>.inl h⟩
theorem Fr.nx {w w':World} (h:Nx w w') (b:Nat) (v:Value):Fr b v w v w':=⟨h.os,h.tape,h.output,h.size,fun k hk _ _=>h.block k hk,fun _ h=>.inl h⟩
theorem Fr.set (w:World) (b i:Nat) (u v:Value):Fr b v w v (w.setCell ⟨b,i,none⟩ u):=Fr.oth (Oth.set w b i u) v
end Go.Proofs.YtjggghfekakogaaGreatDoor
namespace Go.Proofs.YtjggghfekakogaaGreatDoor
open Go.RowKit
theorem Fr.mv {b B:Nat} {v v':Value} {w w':World} (h:Fr b v w v' w') (hb:b<B):Mv (But (Fm B) v) (But (Fm B) v') w w' :=
 ⟨fun g hg hl=>h.block g hl (by have:B≤g:=hg.1;omega) hg.2,fun g hg hl=>⟨hg.1,fun e=>(h.own g e).elim hg.2 (by omega)⟩⟩
section
variable {α β:Type} {f:α→Array Value} {k:Nat} {T:TypeId} {R:World→(Nat→Prop)→α→β→Prop}
theorem RepL.oth (hR:Lasts R) {b B:Nat} {w w':World} {v:Value} {l:List β} (h:RepL f k T R w (Fm B) v l) (ho:Oth b w w') (hb:b<B):RepL f k T R w' (Fm B) v l :=
 h.mv hR (Mv.oth ho (Nat.le_refl _) hb)
theorem RepL.nx (hR:Lasts R) {B:Nat} {w w':World} {v:Value} {l:List β} (h:RepL f k T R w (Fm B) v l) (ho:Nx w w'):RepL f k T R w' (Fm B) v l :=
 h.mv hR (Mv.nx ho (Nat.le_refl _))
theorem RepL.sl (hf:∀ x,(f x).size=k) {P:Nat→Prop} {w:World} {v:Value} {l:List β} (h:RepL f k T R w P v l):∃ A c xs,v = .slice A l.length c∧xs.length=l.length∧l.length≤c∧c≤maxLen∧RdS f k w A xs∧All2 (R w (But P v)) xs l:=by
 obtain ⟨xs,h1,h2⟩:=h
 obtain ⟨A,c,rfl,h3,h4,h5⟩:=h1.1.sl hf
 have hl:=h2.len
 exact ⟨A,c,xs,by rw [hl],hl,by omega,h4,h5,h2⟩
variable (w:World) {ops:Array Oper} {rest:List Oper} {o:Oper} {a:Act} {Q:Exit→Act→World→Prop} {sz:Nat} {T2:TypeId} {z:Value}
end
section
variable {α β:Type} {f:α→Array Value} {k:Nat} {T:TypeId} {R:World→(Nat→Prop)→α→β→Prop}
end
end Go.Proofs.YtjggghfekakogaaGreatDoor
namespace Go.Proofs.YtjggghfekakogaaGreatDoor
open Go.RowKit
theorem RC.slv:∀ {n:Nat} {P:Nat→Prop} {w:World} {x:ConS} {c:Con},RC n w P x c→∃ A k cap,x.l = .slice A k cap
 | 0,_,_,_,_,h=>h.elim
 | n+1,_,_,_,_,h=>by
  obtain ⟨l,-,hl⟩:=RC.of h
  obtain ⟨A,c,-,e,-⟩:=RepL.sl conA_size hl
  exact ⟨A,_,c,e⟩
end Go.Proofs.YtjggghfekakogaaGreatDoor
namespace Go.Proofs.YtjggghfekakogaaGreatDoor
open Go.RowKit
def Ne (b g:Nat):Prop:=g≠b
theorem Oth.mvNe {b:Nat} {w w':World} (h:Oth b w w'):Mv (Ne b) (Ne b) w w':=⟨fun g hg hl=>h.block g hl hg,fun _ h _=>h⟩
theorem RC.ot {n b:Nat} {w w':World} {x:ConS} {c:Con} (h:RC n w (Ne b) x c) (ho:Oth b w w'):RC n w' (Ne b) x c:=RC.lasts n ho.mvNe h
theorem LC.ot {n b:Nat} {w w':World} {v:Value} {l:List Con} (h:LC n w (Ne b) v l) (ho:Oth b w w'):LC n w' (Ne b) v l:=LC.lasts n ho.mvNe h
structure Cl (gl gs:Nat) (L:Int) (w:World):Prop where
 l:Blk w gl gl #[.int .i64 L] 3
 s:Blk w gs gs #[.func (.func 147) #[] #[.pointer (some ⟨gl,0,none⟩),.pointer (some ⟨gs,0,none⟩)]] 119
 ne:gs≠gl
theorem Cl.nx {gl gs:Nat} {L:Int} {w w':World} (h:Cl gl gs L w) (hn:Nx w w'):Cl gl gs L w':=⟨h.l.below hn,h.s.below hn,h.ne⟩
def SaC (n:Nat):Prop:=∀ (w:World) (gl gs:Nat) (L:Int) (x y:ConS) (c d:Con),Cl gl gs L w→L≤64000→RC n w (Ne gl) x c→RC n w (Ne gl) y d→(nodC n c:Int)≤L →
 Calls Tryz.prog 147 #[.agg (conA x),.agg (conA y),.pointer (some ⟨gl,0,none⟩),.pointer (some ⟨gs,0,none⟩)] w fun e w'=>e = .returned (.bool (eqC n c d))∧Oth gl w w'∧∃ L',Cl gl gs L' w'∧L - (nodC n c:Int)≤L'∧L'≤L
theorem nod_step (n:Nat) (l:List Con) (i:Nat) (h:i<l.length):(((l.take (i+1)).map (nodC n)).sum:Int)=((l.take i).map (nodC n)).sum+nodC n l[i]∧(((l.take (i+1)).map (nodC n)).sum:Int)≤(l.map (nodC n)).sum:=by
 have h1:((l.take (i+1)).map (nodC n)).sum=((l.take i).map (nodC n)).sum+nodC n l[i]:=by
  rw [← List.take_append_getElem h,List.map_append,List.sum_append];simp
 have h2:(l.map (nodC n)).sum=((l.take (i+1)).map (nodC n)).sum+((l.drop (i+1)).map (nodC n)).sum:=by
  rw [← List.sum_append,← List.map_append,List.take_append_drop]
 constructor <;> omega
set_option maxRecDepth 100000 in
set_option maxHeartbeats 6400000 in
theorem eqFunc_const (n:Nat) (ih:SaC n) (w:World) (gl gs:Nat) (L:Int) (v1 v2:Value) (la lb:List Con) (hc:Cl gl gs L w) (hL:L≤64000) (h1:LC n w (Ne gl) v1 la) (h2:LC n w (Ne gl) v2 lb) (hla:la.length≤100000) (hn:((la.map (nodC n)).sum:Int)≤L) :
  Calls Tryz.prog 148 #[v1,v2,.func (.func 147) #[] #[.pointer (some ⟨gl,0,none⟩),.pointer (some ⟨gs,0,none⟩)]] w
   fun e w'=>e = .returned (.bool (allEq (eqC n) la lb))∧Oth gl w w'∧∃ L',Cl gl gs L' w'∧L - ((la.map (nodC n)).sum:Int)≤L'∧L'≤L:=by
 obtain ⟨A1,a1,zs,hv1,hzl,-,-,hrd1,hall1⟩:=h1.sl conA_size
 obtain ⟨A2,a2,ys,hv2,hyl,-,-,hrd2,hall2⟩:=h2.sl conA_size
 subst hv1 hv2
 have H1:=Lib.hid h1
 have H2:=Lib.hid h2
 have HC:=Lib.hid hc
 have HIH:=Lib.hid ih
 have HN:=Lib.hid hn
 have HLL:=Lib.hid hL
 have hlaI:(la.length:Int)≤100000:=by omega
 clear h1 h2 hc ih hn hL hrd1 hrd2 hall1 hall2 hzl hyl
 by_cases hlen:la.length=lb.length
 ·rw [← hlen]
  have HLE:=Lib.hid hlen
  clear hlen
  go_enter Tryz.func148,Tryz.ntmps148
  go_wp2_with fail
  go_loopw [17] (fun iv wr=>∃ (i:Nat) (M:Int),iv = .int .i64 (i:Int)∧i≤la.length∧Hid (∀ j (h1:j<la.length) (h2:j<lb.length),j<i→eqC n la[j] lb[j]=true)∧Hid (Oth gl w wr)∧Hid (Cl gl gs M wr)∧Hid (L - (((la.take i).map (nodC n)).sum:Int)≤M∧M≤L)) (fun iv _=>(200000 - intOf iv).toNat)
  case atStart=>exact ⟨0,L,rfl,Nat.zero_le _,Lib.hid (fun j _ _ h=>absurd h (Nat.not_lt_zero _)),Lib.hid (Oth.refl _ _),HC,Lib.hid ⟨by simp,by omega⟩⟩
  case round =>
   obtain ⟨i,M,rfl,hi,HEQ,HO,HCL,HM⟩:=hrel
   have hiI:(i:Int)≤100000:=by omega
   by_cases hlt:i<la.length
   ·have q1:decide ((i:Int)<(la.length:Int))=true:=decide_eq_true (by omega)
    have q2:(i:Int)<(la.length:Int):=by omega
    have hltb:i<lb.length:=by have:=HLE.out;omega
    have HLTB:=Lib.hid hltb
    have hr1:=H1.out.ot HO.out
    have hr2:=H2.out.ot HO.out
    obtain ⟨A',ac',zs,hlv,hzl,hzc,hzm,hrd,hall⟩:=hr1.sl conA_size
    injection hlv with h1 h2 h3
    subst h1 h3
    clear h2
    obtain ⟨g1,rfl,hg1,hcs⟩:=hrd (by omega)
    obtain ⟨Z,hZ⟩:∃ Z,zs[i]'(by omega)=Z:=⟨_,rfl⟩
    have hrc:RC n wr (Ne gl) Z la[i]:=by
     have:=hall.at_ i (by omega) hlt
     rw [hZ] at this
     exact RC.lasts n ⟨fun _ _ _=>rfl,fun _ h _=>h.1⟩ this
    obtain ⟨A'',ac'',ys,hlv,hyl,hyc,hym,hrd',hall'⟩:=hr2.sl conA_size
    injection hlv with h1 h2 h3
    subst h1 h3
    clear h2
    obtain ⟨g2,rfl,hg2,hcs'⟩:=hrd' (by omega)
    obtain ⟨Y,hY⟩:∃ Y,ys[i]'(by omega)=Y:=⟨_,rfl⟩
    have hrd:RC n wr (Ne gl) Y lb[i]:=by
     have:=hall'.at_ i (by omega) hltb
     rw [hY] at this
     exact RC.lasts n ⟨fun _ _ _=>rfl,fun _ h _=>h.1⟩ this
    obtain ⟨ek,ei,ed,es,el⟩:=Z
    obtain ⟨lA,lk,lc,rfl⟩:∃ A k cap,el = .slice A k cap:=hrc.slv
    obtain ⟨fk,fi,fd,fs,fl⟩:=Y
    obtain ⟨mA,mk,mc,rfl⟩:∃ A k cap,fl = .slice A k cap:=hrd.slv
    have hcell:∀ j,j<5→wr.cell? ⟨g1,i * 5+j,none⟩=(conA ⟨ek,ei,ed,es,.slice lA lk lc⟩)[j]?:=fun j hj=>by rw [hcs i (by omega) j hj,hZ]
    have hcell2:∀ j,j<5→wr.cell? ⟨g2,i * 5+j,none⟩=(conA ⟨fk,fi,fd,fs,.slice mA mk mc⟩)[j]?:=fun j hj=>by rw [hcs' i (by omega) j hj,hY]
    have e0:wr.cell? ⟨g1,i * 5,none⟩=some (.int .i64 (ek:Int)):=hcell 0 (by decide)
    have e1:wr.cell? ⟨g1,i * 5+1,none⟩=some (.int .i64 ei):=hcell 1 (by decide)
    have e2:wr.cell? ⟨g1,i * 5+2,none⟩=some (.int .u64 (ed:Int)):=hcell 2 (by decide)
    have e3:wr.cell? ⟨g1,i * 5+3,none⟩=some (.string ⟨es.toArray⟩):=hcell 3 (by decide)
    have e4:wr.cell? ⟨g1,i * 5+4,none⟩=some (.slice lA lk lc):=hcell 4 (by decide)
    have HCE2:=Lib.hid hcell2
    have HR1:=Lib.hid hrc
    have HR2:=Lib.hid hrd
    have HG2:=Lib.hid hg2
    obtain ⟨hst,hle⟩:=nod_step n la i hlt
    have HST:=Lib.hid (And.intro hst hle)
    clear hltb hcs hcs' hcell hcell2 hall hall' hr1 hr2 hZ hY hrc hrd hst hle hzl hyl hzc hzm hyc hym hrd' hg1 hg2
    obtain ⟨ga,hga⟩:∃ g,wr.heap.size=g:=⟨_,rfl⟩
    go_upto_region 6 with fail
    have hB1:=Blk.new wr #[.int .i64 (ek:Int),.int .i64 ei,.int .u64 (ed:Int),.string ⟨es.toArray⟩,.slice lA lk lc] 48
    rw [hga] at hB1
    have hn1:Nx wr (wr.alloc (.cells #[.int .i64 (ek:Int),.int .i64 ei,.int .u64 (ed:Int),.string ⟨es.toArray⟩,.slice lA lk lc] 48)):=nx0 _ _
    generalize World.alloc wr _=W1 at *
    have hcell2:∀ j,j<5→W1.cell? ⟨g2,i * 5+j,none⟩=(conA ⟨fk,fi,fd,fs,.slice mA mk mc⟩)[j]?:=fun j hj=>(hn1.cell (p:=⟨g2,i * 5+j,none⟩) HG2.out).trans (HCE2.out j hj)
    have f0:W1.cell? ⟨g2,i * 5,none⟩=some (.int .i64 (fk:Int)):=hcell2 0 (by decide)
    have f1:W1.cell? ⟨g2,i * 5+1,none⟩=some (.int .i64 fi):=hcell2 1 (by decide)
    have f2:W1.cell? ⟨g2,i * 5+2,none⟩=some (.int .u64 (fd:Int)):=hcell2 2 (by decide)
    have f3:W1.cell? ⟨g2,i * 5+3,none⟩=some (.string ⟨fs.toArray⟩):=hcell2 3 (by decide)
    have f4:W1.cell? ⟨g2,i * 5+4,none⟩=some (.slice mA mk mc):=hcell2 4 (by decide)
    obtain ⟨gb,hgb⟩:∃ g,W1.heap.size=g:=⟨_,rfl⟩
    have HB1:=Lib.hid hB1
    have HN1:=Lib.hid hn1
    clear e0 e1 e2 e3 e4 hcell2 HCE2 hga hB1 hn1
    go_upto_region 7 with fail
    have hB2:=Blk.new W1 #[.int .i64 (fk:Int),.int .i64 fi,.int .u64 (fd:Int),.string ⟨fs.toArray⟩,.slice mA mk mc] 48
    rw [hgb] at hB2
    have hn2:Nx W1 (W1.alloc (.cells #[.int .i64 (fk:Int),.int .i64 fi,.int .u64 (fd:Int),.string ⟨fs.toArray⟩,.slice mA mk mc] 48)):=nx0 _ _
    generalize World.alloc W1 _=W2 at *
    have hB1':=HB1.out.below hn2
    have c0:W2.cell? ⟨ga,0,none⟩=some (.int .i64 (ek:Int)):=hB1'.cell 0
    have c1:W2.cell? ⟨ga,1,none⟩=some (.int .i64 ei):=hB1'.cell 1
    have c2:W2.cell? ⟨ga,2,none⟩=some (.int .u64 (ed:Int)):=hB1'.cell 2
    have c3:W2.cell? ⟨ga,3,none⟩=some (.string ⟨es.toArray⟩):=hB1'.cell 3
    have c4:W2.cell? ⟨ga,4,none⟩=some (.slice lA lk lc):=hB1'.cell 4
    have d0:W2.cell? ⟨gb,0,none⟩=some (.int .i64 (fk:Int)):=hB2.cell 0
    have d1:W2.cell? ⟨gb,1,none⟩=some (.int .i64 fi):=hB2.cell 1
    have d2:W2.cell? ⟨gb,2,none⟩=some (.int .u64 (fd:Int)):=hB2.cell 2
    have d3:W2.cell? ⟨gb,3,none⟩=some (.string ⟨fs.toArray⟩):=hB2.cell 3
    have d4:W2.cell? ⟨gb,4,none⟩=some (.slice mA mk mc):=hB2.cell 4
    have hnx:Nx wr W2:=HN1.out.trans hn2
    have hcall:=HIH.out W2 gl gs M ⟨ek,ei,ed,es,.slice lA lk lc⟩ ⟨fk,fi,fd,fs,.slice mA mk mc⟩ (la[i]'hlt) (lb[i]'HLTB.out) (HCL.out.nx hnx) (by have:=HM.out;have:=HLL.out;omega) (HR1.out.ot (Oth.nx hnx)) (HR2.out.ot (Oth.nx hnx)) (by have:=HM.out;have:=HST.out;have:=HN.out;omega)
    obtain ⟨R,hR⟩:∃ R,Hid (eqC n la[i] (lb[i]'HLTB.out)=R):=⟨_,Lib.hid rfl⟩
    rw [hR.out] at hcall
    have HC2:=Lib.hid hcall
    have HO2:=Lib.hid (HO.out.trans (Oth.nx hnx))
    clear f0 f1 f2 f3 f4 hB2 hn2 hgb hB1' hnx hcall HB1 HN1 HO HCL HR1 HR2 HIH
    go_wp2_with fail
    refine HC2.out.mono ?_;rintro e w3 ⟨rfl,ho3,M3,hc3,hm3,hm4⟩
    have HO3:=Lib.hid (HO2.out.trans ho3)
    have HC3:=Lib.hid hc3
    have HM3:Hid (L - (((la.take (i+1)).map (nodC n)).sum:Int)≤M3∧M3≤L):=⟨by have:=HM.out;have:=HST.out;omega,by have:=HM.out;omega⟩
    clear ho3 hc3 hm3 hm4 c0 c1 c2 c3 c4 d0 d1 d2 d3 d4
    cases R with
    | true =>
     go_wp2_with fail
     go_roundw
     case rel=>exact ⟨i+1,M3,by go_num,hlt,Lib.hid (fun j a b h=>by
      rcases Nat.lt_or_ge j i with h' | h'
      ·exact HEQ.out j a b h'
      ·obtain rfl:j=i:=by omega
       exact hR.out),HO3,HC3,HM3⟩
     case measure=>simp [intOf];omega
    | false =>
     have HF:Hid (allEq (eqC n) la lb=false):=allEq_false i hlt HLTB.out hR.out
     have HFIN:Hid (L - ((la.map (nodC n)).sum:Int)≤M3∧M3≤L):=⟨by have:=HM3.out;have:=HST.out;omega,HM3.out.2⟩
     go_wp2_with fail
     go_ret
     rw [HF.out]
     exact ⟨rfl,HO3.out,M3,HC3.out,HFIN.out.1,HFIN.out.2⟩
   ·obtain rfl:i=la.length:=by omega
    have q1:decide ((la.length:Int)<(la.length:Int))=false:=decide_eq_false (by omega)
    have HF:Hid (allEq (eqC n) la lb=true):=allEq_true HLE.out fun j a b=>HEQ.out j a b a
    have HM2:=HM.out
    rw [List.take_length] at HM2
    have HM3:=Lib.hid HM2
    clear hlt hi HM2
    go_wp2_with fail
    go_ret
    rw [HF.out]
    exact ⟨rfl,HO.out,M,HCL.out,HM3.out.1,HM3.out.2⟩
 ·have b1:((la.length:Int) != (lb.length:Int))=true:=by rw [bne_iff_ne];omega
  have b1':¬ (la.length:Int)=(lb.length:Int):=by omega
  have hf:allEq (eqC n) la lb=false:=allEq_len hlen
  rw [hf]
  clear hlen
  go_enter Tryz.func148,Tryz.ntmps148
  go_wp2_with fail
  go_ret
  exact ⟨rfl,Oth.refl _ _,L,HC.out,by omega,by omega⟩
end Go.Proofs.YtjggghfekakogaaGreatDoor
