/- The table of words, out of what the rows list; a lift that hands on what lies laid, and the world's shape. The files of a bundle, loaded: as a function. Sources by their names: what is read, what is put. Plain lemmas. Sources in a map: what is read, what is put. A load as it lies in memory; what its functions leave alone. Plain lemmas. The contract of strings.Clone: the same bytes. The contracts of a load's small functions: fail, need, take. Lists of a load: append of one element. -/
import Derived.Test.YtpbjkgpdkopgmaaGreatDoorRows
import Derived.Test.YtpbjkgpdkopgmaaGreatDoorG12
import Derived.Lib.LaidTab
import Derived.Stop.LaidErr
import Derived.LaidByTextLater
import Derived.Handed
import Derived.HandedShaped
import Derived.Test.YtpbjkgpdkopgmaaGreatDoorG18
import Derived.DeepKeys4
import Derived.Maps.Keyed
import Derived.Maps.Own
import Derived.Test.YtpbjkgpdkopgmaaGreatDoorG01
import Derived.Lib.Strings
import Derived.Lib.Walk
import Derived.Lib.BufferWrite
import Derived.Lib.UnsafeStr
import Derived.Lib.Hide
import Derived.Laws.MakeOwn
import Derived.Deep.DeepCutAuto
import Derived.Deep.CutBlock
set_option linter.unusedVariables false
set_option linter.unusedSimpArgs false
set_option linter.unnecessarySimpa false
namespace Go.Proofs.YtpbjkgpdkopgmaaGreatDoor
open Go.RowKit
theorem cells_of_strs {H:Type} {enc:TypeId×Value→H} {P:Program} {w:World} {base:Nat} {sp:Nat→Bool} {held:Bool} {fuel:Nat} {t e:TypeId} {n:Nat} {cs:List Value} {zs:List (List UInt8)} {p:List MemPlace}
  (ht:P.underlying t=some (.array n e)) (he:P.underlying e=some .string) (hce:P.cellsOf e=1) (hct:P.cellsOf t=n)
  (h:DataW.trod enc P w base sp held fuel t cs=some (.agg (zs.map fun z=>.lit (.string z)),p)):cs=zs.map fun z=>Value.string ⟨z.toArray⟩:=by
 cases fuel with
 | zero=>simp [DataW.trod] at h
 | succ fuel =>
  simp only [DataW.trod,ht,hce,hct,Nat.mul_one] at h
  split at h
  ·rename_i hl
   obtain ⟨xs,hm,hx⟩:=Option.map_eq_some_iff.1 h
   have hxs:xs.map (·.1)=zs.map fun z=>(DataW.lit (.string z):DataW H):=by
    have:=congrArg Prod.fst hx
    simpa using this
   have hxl:xs.length=n:=by simpa using Lib.mapM_length hm
   have hzl:zs.length=n:=by
    have:=congrArg List.length hxs
    simp at this
    omega
   apply List.ext_getElem?
   intro i
   by_cases hi:i<n
   ·obtain ⟨b,hb,hf⟩:=Lib.mapM_at hm i i (by simp [hi])
    obtain ⟨z,hc,hz,_⟩:=DataW.trod_string he hf
    have h1:cs[i]? = some (.string z):=by
     have:=congrArg (·[0]?) hc
     simpa [List.getElem?_take,List.getElem?_drop] using this
    have h2:(xs.map (·.1))[i]? = some (DataW.lit (.string z.data.toList):DataW H):=by simp [hb,hz]
    rw [hxs] at h2
    simp only [List.getElem?_map,Option.map_eq_some_iff,DataW.lit.injEq,Lit.string.injEq] at h2
    obtain ⟨z',hz',he'⟩:=h2
    simp [h1,hz',he']
   ·rw [List.getElem?_eq_none (by omega),List.getElem?_eq_none (by simp;omega)]
  ·cases h
theorem tabk_of_laid {W:World} (h:laidMetH Tryz.prog Rows.bundleFormsRow.laid W):TabK W:=by
 rw [MakeChecks.laidMetH_plain _ _ _ (by kernel_rfl)] at h
 obtain ⟨ps, hl, -⟩ := (show laidMet Tryz.prog (("unicode/utf8.acceptRanges", Rows.laid_unicode_utf8_acceptRanges) :: ("assayer/kind.words", .agg (((List.range 17).map wordK).map fun z => .lit (.string z))) :: ("unicode/utf8.first", Rows.laid_unicode_utf8_first) :: []) W from h)
 obtain ⟨_,_,_,_,_,_,_,_,_,_,hl2,_⟩:=hl
 obtain ⟨g',t',cs,fuel,p,q,hg',ht',hvar,hd,_,_⟩:=hl2
 obtain rfl := Option.some.inj ((show Tryz.prog.globalNamed "assayer/kind.words" = some 1 by kernel_rfl).symm.trans hg')
 obtain rfl:=Option.some.inj ((show (Tryz.prog.globals[1]?).map (·.type)=some 241 by kernel_rfl).symm.trans ht')
 have hcs:=cells_of_strs Tryz.underlying241 Tryz.underlying9 (by kernel_rfl) (by kernel_rfl) hd
 unfold World.var? at hvar
 rw [show Tryz.prog.globalNamed "assayer/kind.words" = some 1 by kernel_rfl] at hvar
 simp only [Option.bind_some] at hvar
 cases hh:W.heap[1]? with
 | none=>simp [hh] at hvar
 | some o =>
  cases o with
  | cells c t fr =>
   simp [hh] at hvar
   refine ⟨t,fr,?_⟩
   rw [hh]
   have:c=kwV:=by
    rw [hvar]
    apply Array.ext'
    rw [hcs]
    rfl
   rw [this]
  | _=>simp [hh] at hvar
variable {H:Type} {enc:TypeId×Value→H}
theorem returnsInHanded_laid_shaped {a:Assume} {C:Checked} {os:Os} {f:FuncId} {fn:Func} {s:ChangeSpec} {conds:List PathCond} {apart fresh handsOn again:Bool} {X:World→Array Value→Prop}
  (hX:∀ (w w':World) (args:Array Value),w.heap=w'.heap→X w args→X w' args)
  (own:ownKnob C.prog.godebug=none) (started:os.Started) (noInit:C.prog.inits.idxOf? f=none) (hfn:C.prog.funcs[f]? = some fn)
  (witness:∃ (w:World) (tape:Tape) (i:Input),w.os=os∧(w.forCall tape i).Shaped C.prog∧i.vars=[]∧Input.okWide C.prog (w.forCall tape i) .any w.heap.size f i ∧
   ((s.pre enc C.prog fn conds apart (w.forCall tape i).memory i.args∧X (w.forCall tape i).memory i.args)∧sizedMet enc C.prog fn (OpenSpec.ofChange s) apart (w.forCall tape i).memory i.args)∧a.holds C.prog (lone (Frame.enter C.prog f i.args .normal) [] (w.forCall tape i)))
  (contract:∀ (W:World) (base:Nat) (args:Array Value) (ds gs:List (DataW H)) (before:List MemPlace),
   (∀ (j:Nat) t v,fn.params[j]? = some t→args[j]? = some v→Value.okWide C.prog W .any base t v) →
   DataW.Whole enc C.prog fn.params.toList s.vars apart W args.toList ds gs before →
   conds.all (PathCond.test C.prog ⟨fn.params.toList,ds,s.plain.varTypes C.prog,gs⟩)=true →
   W.ShapedOpen C.prog→X W args →
   a.holds C.prog (lone (Frame.enter C.prog f args .normal) [] W) →
   Calls C.prog f args W fun e W'=>∃ v,e = .returned v∧s.post enc C.prog fn apart fresh handsOn again W args v W') :
  ReturnsInHanded a C os f .any (fun w args=>(s.pre enc C.prog fn conds apart w args∧X w args)∧sizedMet enc C.prog fn (OpenSpec.ofChange s) apart w args) (s.post enc C.prog fn apart fresh handsOn again):=by
 refine returnsInHanded_of_calls own started noInit witness ?_
 intro w tape i _ hsh _ hok hpre hholds
 obtain ⟨_,_,_,fn',hfn',_,_,_,_,hval⟩:=hok
 have e:fn'=fn:=Option.some.inj (hfn'.symm.trans hfn)
 subst e
 obtain ⟨⟨⟨ds,gs,before,hw,hc⟩,hx⟩,hz⟩:=hpre
 have hw':=DataW.Whole.of_heap (w':=w.forCall tape i) (by rfl) hw
 refine (contract (w.forCall tape i) w.heap.size i.args ds gs before hval hw' hc hsh (hX _ _ _ (by rfl) hx) hholds).mono fun e W' ⟨v,he,hp⟩=>?_
 subst he
 exact ChangeSpec.post_blind hp
end Go.Proofs.YtpbjkgpdkopgmaaGreatDoor
namespace Go.Proofs.YtpbjkgpdkopgmaaGreatDoor
abbrev MapV:=List (List UInt8×List UInt8×Nat)
def getM (m:MapV) (k:List UInt8):Option (List UInt8×Nat):=(m.find? (fun e=>decide (e.1=k))).map (·.2)
def putM:MapV→List UInt8→List UInt8×Nat→MapV
 | [],k,v=>[(k,v)]
 | e :: r,k,v=>if e.1=k then (k,v) :: r else e :: putM r k v
structure LdV where
 m:MapV
 names:List (List UInt8)
 files:List Fil
 e:Nat
 file:List UInt8
 at_:Nat
def ld0:LdV:=⟨[],[],[],0,[],0⟩
def failV (e:Nat) (f:List UInt8) (a:Nat) (s:LdV):LdV:=if s.e=0 then ⟨s.m,s.names,s.files,e,f,a⟩ else s
def hasV (s:LdV) (k:List UInt8):Bool:=(getM s.m k).isSome
def getV (s:LdV) (k:List UInt8):List UInt8×Nat:=(getM s.m k).getD ([],0)
def setV (k:List UInt8) (v:List UInt8×Nat) (s:LdV):LdV:=⟨putM s.m k v,s.names,s.files,s.e,s.file,s.at_⟩
def addV (n:List UInt8) (f:Fil) (s:LdV):LdV:=⟨s.m,s.names++[n],s.files++[f],s.e,s.file,s.at_⟩
def needV (name asking:List UInt8) (s:LdV):LdV:=if hasV s name then s else failV 15 asking 0 s
def take1 (s:LdV) (f:List UInt8×List UInt8):LdV:=setV f.1 (f.2,0) (if hasV s f.1 then failV 8 f.1 0 s else s)
def take2 (s:LdV) (f:List UInt8×List UInt8):LdV:=if plainP f.1 then s else failV 2 f.1 0 s
def takeV (l:List (List UInt8×List UInt8)) (s:LdV):LdV:=l.foldl take2 (l.foldl take1 (if 5<l.length then failV 4 [] 0 s else s))
def incV (vis:List UInt8→LdV→LdV) (asking:List UInt8) (s:LdV) (name:List UInt8):LdV :=
 if (getV (needV name asking s) name).2=0 then vis name (needV name asking s)
 else if (getV (needV name asking s) name).2=1 then failV 9 asking 0 (needV name asking s) else needV name asking s
def preV (name:List UInt8) (s:LdV):LdV :=
 let s1:=setV name ((getV s name).1,1) s
 let p:=parseF (getV s name).1
 if p.2.1≠0 then failV p.2.1 name p.2.2 s1 else s1
def visV:Nat→List UInt8→LdV→LdV
 | 0=>fun _ s=>s
 | n+1=>fun name s=>if s.e≠0 then s else
  addV name (parseF (getV s name).1).1 (setV name ((getV s name).1,2) ((parseF (getV s name).1).1.incs.foldl (incV (visV n) name) (preV name s)))
def begV (root:List UInt8) (l:List (List UInt8×List UInt8)):LdV:=needV root root (takeV l ld0)
def endV (root:List UInt8) (l:List (List UInt8×List UInt8)):LdV:=visV (begV root l).m.length root (begV root l)
end Go.Proofs.YtpbjkgpdkopgmaaGreatDoor
namespace Go.Proofs.YtpbjkgpdkopgmaaGreatDoor
theorem getM_none {m:MapV} {k:List UInt8} (h:∀ x ∈ m,x.1≠k):getM m k=none:=by
 unfold getM
 rw [List.find?_eq_none.2 (fun x hx=>by simp [h x hx])];rfl
theorem getM_at:∀ {m:MapV} {j:Nat} {x:List UInt8×List UInt8×Nat},(m.map (·.1)).Nodup→m[j]? = some x→getM m x.1=some x.2
 | [],_,_,_,h=>by simp at h
 | y :: r,0,x,_,h=>by
  simp at h;subst h
  simp [getM]
 | y :: r,j+1,x,hn,h=>by
  simp only [List.map_cons,List.nodup_cons,List.getElem?_cons_succ] at hn h
  have hne:y.1≠x.1:=fun e=>hn.1 (by rw [e];exact List.mem_map.2 ⟨x,List.mem_of_getElem? h,rfl⟩)
  have:=getM_at hn.2 h
  unfold getM at this ⊢
  rw [List.find?_cons_of_neg (by simpa using hne)]
  exact this
theorem putM_none:∀ {m:MapV} {k:List UInt8} (v:List UInt8×Nat),(∀ x ∈ m,x.1≠k)→putM m k v=m++[(k,v)]
 | [],_,_,_=>rfl
 | y :: r,k,v,h=>by
  have:y.1≠k:=h y (by simp)
  unfold putM
  rw [if_neg this,putM_none v (fun x hx=>h x (by simp [hx]))];rfl
theorem putM_at:∀ {m:MapV} {j:Nat} {x:List UInt8×List UInt8×Nat} (v:List UInt8×Nat),(m.map (·.1)).Nodup→m[j]? = some x→putM m x.1 v=m.set j (x.1,v)
 | [],_,_,_,_,h=>by simp at h
 | y :: r,0,x,v,_,h=>by
  simp at h;subst h
  simp [putM]
 | y :: r,j+1,x,v,hn,h=>by
  simp only [List.map_cons,List.nodup_cons,List.getElem?_cons_succ] at hn h
  have hne:y.1≠x.1:=fun e=>hn.1 (by rw [e];exact List.mem_map.2 ⟨x,List.mem_of_getElem? h,rfl⟩)
  unfold putM
  rw [if_neg hne,putM_at v hn.2 h];rfl
theorem putM_keys:∀ (m:MapV) (k:List UInt8) (v:List UInt8×Nat),∀ x ∈ putM m k v,x.1=k∨∃ y ∈ m,y.1=x.1
 | [],k,v,x,h=>by simp [putM] at h;exact .inl (by rw [h])
 | y :: r,k,v,x,h=>by
  unfold putM at h
  split at h
  ·rcases List.mem_cons.1 h with rfl | h
   ·exact .inl rfl
   ·exact .inr ⟨x,by simp [h],rfl⟩
  ·rcases List.mem_cons.1 h with rfl | h
   ·exact .inr ⟨x,by simp,rfl⟩
   ·rcases putM_keys r k v x h with h | ⟨z,hz,e⟩
    ·exact .inl h
    ·exact .inr ⟨z,by simp [hz],e⟩
theorem putM_nodup:∀ {m:MapV} (k:List UInt8) (v:List UInt8×Nat),(m.map (·.1)).Nodup→((putM m k v).map (·.1)).Nodup
 | [],k,v,_=>by simp [putM]
 | y :: r,k,v,h=>by
  simp only [List.map_cons,List.nodup_cons] at h
  unfold putM
  split
  ·rename_i e
   subst e
   simpa using h
  ·rename_i e
   simp only [List.map_cons,List.nodup_cons]
   refine ⟨fun hm=>?_,putM_nodup k v h.2⟩
   obtain ⟨x,hx,hxe⟩:=List.mem_map.1 hm
   rcases putM_keys r k v x hx with h1 | ⟨z,hz,h1⟩
   ·exact e (hxe ▸ h1)
   ·exact h.1 (List.mem_map.2 ⟨z,hz,h1.trans hxe⟩)
theorem putM_vals:∀ (m:MapV) (k:List UInt8) (v:List UInt8×Nat),∀ x ∈ putM m k v,x=(k,v)∨x ∈ m
 | [],k,v,x,h=>by simp [putM] at h;exact .inl h
 | y :: r,k,v,x,h=>by
  unfold putM at h
  split at h
  ·rcases List.mem_cons.1 h with rfl | h
   ·exact .inl rfl
   ·exact .inr (by simp [h])
  ·rcases List.mem_cons.1 h with rfl | h
   ·exact .inr (by simp)
   ·rcases putM_vals r k v x h with h | h
    ·exact .inl h
    ·exact .inr (by simp [h])
theorem getM_mem {m:MapV} {k:List UInt8} {v:List UInt8×Nat} (h:getM m k=some v):(k,v) ∈ m:=by
 unfold getM at h
 obtain ⟨x,hx,e⟩:=Option.map_eq_some_iff.1 h
 have h1:=List.find?_some hx
 have h2:=List.mem_of_find?_eq_some hx
 simp at h1
 rw [← h1,← e];exact h2
end Go.Proofs.YtpbjkgpdkopgmaaGreatDoor
namespace Go.Proofs.YtpbjkgpdkopgmaaGreatDoor
open Go.RowKit
theorem All2.set_ {α β:Type} {R:α→β→Prop} {x:α} {y:β} (hxy:R x y):∀ {xs:List α} {ys:List β} (j:Nat),All2 R xs ys→All2 R (xs.set j x) (ys.set j y)
 | [],[],_,_=>trivial
 | _ :: _,_ :: _,0,h=>⟨hxy,h.2⟩
 | _ :: _,_ :: _,j+1,h=>⟨h.1,All2.set_ hxy j h.2⟩
 | [],_ :: _,_,h=>h.elim
 | _ :: _,[],_,h=>h.elim
theorem All2.get {α β:Type} {R:α→β→Prop}:∀ {xs:List α} {ys:List β} {j:Nat} {x:α},All2 R xs ys→xs[j]? = some x→∃ y,ys[j]? = some y∧R x y
 | [],[],_,_,_,h=>by simp at h
 | a :: _,b :: _,0,x,h,e=>⟨b,rfl,by simp at e;exact e ▸ h.1⟩
 | _ :: _,_ :: _,j+1,x,h,e=>by simpa using All2.get h.2 (by simpa using e)
 | [],_ :: _,_,_,h,_=>h.elim
 | _ :: _,[],_,_,h,_=>h.elim
theorem All2.right {α β:Type} {R:α→β→Prop}:∀ {xs:List α} {ys:List β},All2 R xs ys→∀ y ∈ ys,∃ x ∈ xs,R x y
 | [],[],_,y,h=>by simp at h
 | a :: _,b :: _,h,y,hy=>by
  rcases List.mem_cons.1 hy with rfl | hy
  ·exact ⟨a,by simp,h.1⟩
  ·obtain ⟨x,hx,hr⟩:=All2.right h.2 y hy
   exact ⟨x,by simp [hx],hr⟩
 | [],_ :: _,h,_,_=>h.elim
 | _ :: _,[],h,_,_=>h.elim
def srcA (v:List UInt8×Nat):Value:=.agg #[bt v.1,.int .i64 (v.2:Int)]
def MpE (e:MapEntry) (x:List UInt8×List UInt8×Nat):Prop:=e.key=bt x.1∧e.val=srcA x.2
def MpOk (m:MapV):Prop:=(m.map (·.1)).Nodup∧∀ x ∈ m,x.1.length≤8000∧x.2.1.length≤140737488355328∧x.2.2≤2
def Mp (w:World) (g:Nat) (m:MapV):Prop:=∃ es c,w.heap[g]? = some (.map es c)∧All2 MpE es.toList m∧MpOk m
theorem Mp.keep {w w':World} {g:Nat} {m:MapV} (h:Mp w g m) (hk:w'.heap[g]? = w.heap[g]?):Mp w' g m:=by
 obtain ⟨es,c,h1,h2,h3⟩:=h
 exact ⟨es,c,hk.trans h1,h2,h3⟩
theorem Mp.lt {w:World} {g:Nat} {m:MapV} (h:Mp w g m):g<w.heap.size:=by
 obtain ⟨es,c,h1,-⟩:=h
 exact (Array.getElem?_eq_some_iff.1 h1).1
theorem Mp.nil_ (w:World):Mp (w.alloc (.map #[] 0)) w.heap.size []:=⟨#[],0,heap_alloc_new w _,trivial,⟨List.nodup_nil,fun _ h=>by cases h⟩⟩
theorem Mp.len {w:World} {g:Nat} {m:MapV} (h:Mp w g m):∃ es c,w.heap[g]? = some (.map es c)∧es.size=m.length:=by
 obtain ⟨es,c,h1,h2,h3⟩:=h
 exact ⟨es,c,h1,by rw [← h2.len];simp⟩
theorem bt_inj {a b:List UInt8} (h:bt a=bt b):a=b:=by
 unfold bt at h
 simp at h
 exact h
theorem txLaw:Maps.Keyed Tryz.prog 9:=Maps.string_keyed Tryz.underlying9
theorem tx_key {k:List UInt8} (h:k.length≤8000):keyOf Tryz.prog 9 (bt k)=some (.string k):=by
 have:=Go.WideMaps.keyOf_string_mk (P:=Tryz.prog) Tryz.underlying9 (s:=⟨k.toArray⟩) (by show k.toArray.size≤maxLen;simp [maxLen];omega)
 exact this
theorem zero_src (w:World):(zeroValue 141).run Tryz.prog w = .ok (.agg #[.string ⟨#[]⟩,.int .i64 0]) w:=by kernel_rfl
theorem All2.keys {es:List MapEntry} {m:MapV} (h:All2 MpE es m) (ho:MpOk m):∀ e ∈ es,∃ l,keyOf Tryz.prog 9 e.key=some l:=by
 intro e he
 obtain ⟨j,hj⟩:=List.getElem?_of_mem he
 obtain ⟨y,hy,hr⟩:=h.get hj
 rw [hr.1]
 exact ⟨_,tx_key (ho.2 y (List.mem_of_getElem? hy)).1⟩
theorem findM_any {w:World} {es:Array MapEntry} {m:MapV} (h:All2 MpE es.toList m) (ho:MpOk m) (k:List UInt8) (hk:k.length≤8000) :
  ((Instr.findKey 9 (bt k) es.toList).run Tryz.prog w = .ok none w∧∀ x ∈ m,x.1≠k) ∨
  ∃ j e v,(Instr.findKey 9 (bt k) es.toList).run Tryz.prog w = .ok (some (j,srcA v)) w∧es.toList[j]? = some e∧e.key=bt k∧m[j]? = some (k,v):=by
 rcases txLaw.find w (tx_key hk) es.toList (h.keys ho) with ⟨h1,h2⟩ | ⟨j,e,h1,h2,h3⟩
 ·refine .inl ⟨h1,fun x hx e=>?_⟩
  obtain ⟨y,hy,hr⟩:=h.right x hx
  exact h2 y hy (by rw [hr.1,e])
 ·obtain ⟨⟨k',v⟩,hy,hr⟩:=h.get h2
  obtain rfl:k=k':=bt_inj (h3.symm.trans hr.1)
  exact .inr ⟨j,e,v,by rw [h1,hr.2],h2,h3,hy⟩
theorem lookM_any {w:World} {g:Nat} {m:MapV} (h:Mp w g m) (k:List UInt8) (hk:k.length≤8000) :
  (Instr.lookup 94 (.map (some g)) (bt k) false).run Tryz.prog w = .ok (srcA ((getM m k).getD ([],0))) w ∧
  (Instr.lookup 94 (.map (some g)) (bt k) true).run Tryz.prog w = .ok (.tuple #[srcA ((getM m k).getD ([],0)),.bool (getM m k).isSome]) w:=by
 obtain ⟨es,c,hg,h2,ho⟩:=h
 rcases findM_any (w:=w) h2 ho k hk with ⟨h1,h3⟩ | ⟨j,e,v,h1,h3,h4,h5⟩
 ·rw [getM_none h3,show srcA ((none:Option (List UInt8×Nat)).getD ([],0)) = .agg #[.string ⟨#[]⟩,.int .i64 0] from rfl]
  constructor <;> simp [Instr.lookup,run_underlying Tryz.underlying94,MapKept.run_getObj_map hg,txLaw.check w es.isEmpty (tx_key hk),h1,zero_src,Result.andThen]
 ·have:=getM_at (x:=(k,v)) ho.1 h5
  rw [this]
  constructor <;> simp [Instr.lookup,run_underlying Tryz.underlying94,MapKept.run_getObj_map hg,txLaw.check w es.isEmpty (tx_key hk),h1,Result.andThen]
theorem putM_any {w:World} {g:Nat} {m:MapV} (h:Mp w g m) (k:List UInt8) (v:List UInt8×Nat) (hk:k.length≤8000) (hv:v.1.length≤140737488355328) (hv2:v.2≤2) :
  ∃ o,(Instr.mapUpdate 94 (.map (some g)) (bt k) (srcA v)).run Tryz.prog w = .ok () (ChangeMaps.setBlock w g o)∧Mp (ChangeMaps.setBlock w g o) g (putM m k v):=by
 obtain ⟨es,c,hg,h2,ho⟩:=h
 have hlt:=(Array.getElem?_eq_some_iff.1 hg).1
 have hok:MpOk (putM m k v):=⟨putM_nodup k v ho.1,fun x hx=>by
  rcases putM_vals m k v x hx with rfl | hx
  ·exact ⟨hk,hv,hv2⟩
  ·exact ho.2 x hx⟩
 have hnew:∀ o,(ChangeMaps.setBlock w g o).heap[g]? = some o:=fun o=>by simp [ChangeMaps.setBlock,hlt]
 rcases findM_any (w:=w) h2 ho k hk with ⟨h1,h3⟩ | ⟨j,e,u,h1,h3,h4,h5⟩
 ·refine ⟨.map (es.push ⟨bt k,srcA v,c⟩) (c+1),?_,es.push ⟨bt k,srcA v,c⟩,c+1,hnew _,?_,hok⟩
  ·simp [Instr.mapUpdate,run_underlying Tryz.underlying94,MapKept.run_getObj_map hg,txLaw.check w false (tx_key hk),h1,MapKept.run_setObj_map _ hg,Result.andThen,ChangeMaps.setBlock]
  ·rw [putM_none v h3,Array.toList_push]
   exact h2.snoc ⟨rfl,rfl⟩
 ·have hj:es[j]? = some e:=by simpa using h3
  have hlist:(es.modify j (fun e'=>{ e' with key:=bt k,val:=srcA v })).toList=es.toList.set j { e with key:=bt k,val:=srcA v }:=by rw [Array.toList_modify,ChangeMaps.modify_eq_set _ _ _ _ h3]
  refine ⟨.map (es.modify j (fun e'=>{ e' with key:=bt k,val:=srcA v })) c,?_,es.modify j (fun e'=>{ e' with key:=bt k,val:=srcA v }),c,hnew _,?_,hok⟩
  ·simp [Instr.mapUpdate,run_underlying Tryz.underlying94,MapKept.run_getObj_map hg,txLaw.check w false (tx_key hk),h1,hj,h4,txLaw.stays w (tx_key hk),MapKept.run_setObj_map _ hg,Result.andThen,ChangeMaps.setBlock]
  ·rw [hlist,show putM m k v=m.set j (k,v) from putM_at (x:=(k,u)) v ho.1 h5]
   exact h2.set_ ⟨rfl,rfl⟩ j
end Go.Proofs.YtpbjkgpdkopgmaaGreatDoor
namespace Go.Proofs.YtpbjkgpdkopgmaaGreatDoor
open Go.RowKit
def Pl (B g gm:Nat) (v:Value) (k:Nat):Prop:=B≤k∧k≠g∧k≠gm∧v.ownBlock≠some k
structure LdS (w0:World) (g gm:Nat) (s:LdV) (vn vf:Value) (w:World):Prop where
 nx:Nx w0 w
 bl:Blk w w0.heap.size g #[.map (some gm),vn,vf,.int .i64 (s.e:Int),bt s.file,.int .i64 (s.at_:Int)] 96
 mp:Mp w gm s.m
 hm:w0.heap.size≤gm
 ne:gm≠g
 nm:RepL strA 1 9 (REq (α:=List UInt8)) w (Pl w0.heap.size g gm vf) vn s.names
 fl:RepL filA 3 33 RFile w (Pl w0.heap.size g gm vn) vf s.files
structure LdF (g gm:Nat) (vn vf:Value) (w:World) (vn' vf':Value) (w':World):Prop where
 os:w'.os=w.os
 tape:w'.tape=w.tape
 output:w'.output=w.output
 size:w.heap.size≤w'.heap.size
 block:∀ k,k<w.heap.size→k≠g→k≠gm→vn.ownBlock≠some k→vf.ownBlock≠some k→w'.heap[k]? = w.heap[k]?
 ownn:∀ k,vn'.ownBlock=some k→vn.ownBlock=some k∨w.heap.size≤k
 ownf:∀ k,vf'.ownBlock=some k→vf.ownBlock=some k∨w.heap.size≤k
theorem LdF.nx {g gm:Nat} {w w':World} (h:Nx w w') (vn vf:Value):LdF g gm vn vf w vn vf w':=⟨h.os,h.tape,h.output,h.size,fun k hk _ _ _ _=>h.block k hk,fun _ h=>.inl h,fun _ h=>.inl h⟩
theorem LdF.refl (g gm:Nat) (vn vf:Value) (w:World):LdF g gm vn vf w vn vf w:=LdF.nx (Nx.refl w) vn vf
theorem LdF.trans {g gm:Nat} {vn vf vn1 vf1 vn2 vf2:Value} {x y z:World} (h:LdF g gm vn vf x vn1 vf1 y) (k:LdF g gm vn1 vf1 y vn2 vf2 z):LdF g gm vn vf x vn2 vf2 z :=
  ⟨k.os.trans h.os,k.tape.trans h.tape,k.output.trans h.output,Nat.le_trans h.size k.size,
   fun i hi hg hm hn hf=>(k.block i (Nat.lt_of_lt_of_le hi h.size) hg hm (fun e=>(h.ownn i e).elim hn (by omega)) (fun e=>(h.ownf i e).elim hf (by omega))).trans (h.block i hi hg hm hn hf),
   fun i e=>(k.ownn i e).elim (h.ownn i) (fun h'=>.inr (Nat.le_trans h.size h')),
   fun i e=>(k.ownf i e).elim (h.ownf i) (fun h'=>.inr (Nat.le_trans h.size h'))⟩
section
variable {w0 w w':World} {g gm:Nat} {s s':LdV} {vn vf vn' vf':Value}
theorem LdS.gb (h:LdS w0 g gm s vn vf w):w0.heap.size≤g:=h.bl.1
theorem LdS.gl (h:LdS w0 g gm s vn vf w):g<w.heap.size:=h.bl.lt
theorem LdS.onb (h:LdS w0 g gm s vn vf w) (k:Nat) (e:vn.ownBlock=some k):(w0.heap.size≤k∧k≠g∧k≠gm∧vf.ownBlock≠some k)∧k<w.heap.size:=h.nm.own_lt k e
theorem LdS.ofb (h:LdS w0 g gm s vn vf w) (k:Nat) (e:vf.ownBlock=some k):(w0.heap.size≤k∧k≠g∧k≠gm∧vn.ownBlock≠some k)∧k<w.heap.size:=h.fl.own_lt k e
theorem LdS.next (h:LdS w0 g gm s vn vf w) (n:Nx w w'):LdS w0 g gm s vn vf w' :=
  ⟨Nx.trans h.nx n,h.bl.below n,h.mp.keep (n.block _ h.mp.lt),h.hm,h.ne,
   h.nm.mv REq.lasts ⟨fun k _ hl=>n.block k hl,fun k hk _=>hk⟩,h.fl.mv RFile.lasts ⟨fun k _ hl=>n.block k hl,fun k hk _=>hk⟩⟩
theorem LdS.put (h:LdS w0 g gm s vn vf w) (i:Nat) (v:Value) (hs:s'.m=s.m∧s'.names=s.names∧s'.files=s.files)
  (hc:(#[.map (some gm),vn,vf,.int .i64 (s.e:Int),bt s.file,.int .i64 (s.at_:Int)]:Array Value).setIfInBounds i v=#[.map (some gm),vn,vf,.int .i64 (s'.e:Int),bt s'.file,.int .i64 (s'.at_:Int)]) :
  LdS w0 g gm s' vn vf (w.setCell ⟨g,i,none⟩ v):=by
 have hk:∀ k,k≠g→(w.setCell ⟨g,i,none⟩ v).heap[k]? = w.heap[k]?:=fun k hk=>by
  simp only [World.setCell];rw [Array.getElem?_modify,if_neg (fun e=>hk e.symm)]
 refine ⟨Nx.put' h.nx h.gb i v,hc ▸ h.bl.put i v,?_,h.hm,h.ne,?_,?_⟩
 ·rw [hs.1];exact h.mp.keep (hk _ h.ne)
 ·rw [hs.2.1];exact h.nm.mv REq.lasts ⟨fun k hp _=>hk k hp.2.1,fun k hp _=>hp⟩
 ·rw [hs.2.2];exact h.fl.mv RFile.lasts ⟨fun k hp _=>hk k hp.2.1,fun k hp _=>hp⟩
theorem LdF.put (w:World) (g gm i:Nat) (v vn vf:Value):LdF g gm vn vf w vn vf (w.setCell ⟨g,i,none⟩ v) :=
 ⟨rfl,rfl,rfl,by simp [World.setCell],fun k _ hk _ _ _=>by simp only [World.setCell];rw [Array.getElem?_modify,if_neg (fun e=>hk e.symm)],fun _ h=>.inl h,fun _ h=>.inl h⟩
theorem LdS.setM (h:LdS w0 g gm s vn vf w) (k:List UInt8) (v:List UInt8×Nat) (hk:k.length≤8000) (hv:v.1.length≤140737488355328) (hv2:v.2≤2) :
  ∃ w',(Instr.mapUpdate 94 (.map (some gm)) (bt k) (srcA v)).run Tryz.prog w = .ok () w'∧LdS w0 g gm (setV k v s) vn vf w'∧LdF g gm vn vf w vn vf w':=by
 obtain ⟨o,hr,hp⟩:=putM_any h.mp k v hk hv hv2
 have hkp:∀ j,j≠gm→(ChangeMaps.setBlock w gm o).heap[j]? = w.heap[j]?:=fun j hj=>by
  simp only [ChangeMaps.setBlock];rw [Array.getElem?_setIfInBounds_ne (Ne.symm hj)]
 refine ⟨_,hr,⟨⟨h.nx.os,h.nx.tape,h.nx.output,by simp only [ChangeMaps.setBlock,Array.size_setIfInBounds];exact h.nx.size,fun j hj=>?_⟩,⟨h.bl.1,?_⟩,hp,h.hm,h.ne,?_,?_⟩,⟨rfl,rfl,rfl,by simp [ChangeMaps.setBlock],fun j _ _ hj _ _=>hkp j hj,fun _ h=>.inl h,fun _ h=>.inl h⟩⟩
 ·rw [hkp j (by have:=h.hm;omega)];exact h.nx.block j hj
 ·rw [hkp g (Ne.symm h.ne)];exact h.bl.2
 ·exact h.nm.mv REq.lasts ⟨fun j hp' _=>hkp j hp'.2.2.1,fun j hp' _=>hp'⟩
 ·exact h.fl.mv RFile.lasts ⟨fun j hp' _=>hkp j hp'.2.2.1,fun j hp' _=>hp'⟩
end
end Go.Proofs.YtpbjkgpdkopgmaaGreatDoor
namespace Go.Proofs.YtpbjkgpdkopgmaaGreatDoor
open Go.RowKit
theorem infoB8:(Tryz.prog.info? 5).map (fun i=>(i.zero,i.size,i.bytes))=some (some (.int .u8 0),1,1):=by kernel_rfl
set_option maxHeartbeats 4000000 in
set_option maxRecDepth 100000 in
theorem clone_in (s:ByteArray) (w:World) (hlim:s.size≤140737488355328) :
  Calls Tryz.prog 65 #[.string s] w fun e w'=>e = .returned (.string s)∧Nx w w':=by
 by_cases h0:s.size=0
 ·have hs:s=⟨#[]⟩:=by
   apply ByteArray.ext
   exact Array.eq_empty_of_size_eq_zero h0
  subst hs
  go_enter Tryz.func65,Tryz.ntmps65
  go_wp2_with fail
  go_ret
  exact ⟨rfl,Nx.refl _⟩
 ·obtain ⟨i0,hi,hz0,hz1,hz2⟩:=info_parts infoB8
  have hinfo:(Tryz.prog.info? 5).map (·.size)=some 1:=by rw [hi];simp [hz1]
  have hco:Tryz.prog.cellsOf 5 = 1:=by simp [Program.cellsOf,hi,hz1]
  obtain ⟨M,hM⟩:∃ M,M=madeCells (Value.int .u8 0).cells (((s.size:Nat):Int).toNat * i0.size):=⟨_,rfl⟩
  have hMs:M.size=s.size:=by rw [hM,size_madeCells,hz1];simp
  have hmk:∀ W:World,(Instr.makeSlice 22 (.int .i64 (s.size:Int)) (.int .i64 (s.size:Int))).run Tryz.prog W = .ok (.slice (some ⟨W.heap.size,0,none⟩) s.size s.size) (W.alloc (.cells M 5)):=fun W=>by
   have h:=run_make (P:=Tryz.prog) W 22 5 i0 (.int .u8 0) Tryz.underlying22 hi hz0 .i64 .i64 (s.size:Int) (s.size:Int) (by omega) (by omega) (by rw [hz2];omega) (by omega)
   rw [← hM] at h
   simpa using h
  clear hM
  have hcp:=Lib.run_copy_row_string (P:=Tryz.prog) (w.alloc (.cells M 5)) 22 9 3 5 w.heap.size 0 s.size s.size s M 5 Tryz.underlying22 hinfo (heap_alloc_new w _) (Nat.le_refl _) (by omega)
  obtain ⟨Y,hY⟩:∃ Y,Y=(M.toList.take 0++Lib.byteCells s.data.toList++M.toList.drop (0+s.size)).toArray:=⟨_,rfl⟩
  rw [← hY] at hcp
  have hYl:Y.toList=Lib.byteCells s.data.toList:=by
   rw [hY,List.toList_toArray,List.take_zero,List.nil_append,List.drop_of_length_le (by rw [Array.length_toList];omega),List.append_nil]
  have hYs:Y.size=s.size:=by rw [← Array.length_toList,hYl,Lib.byteCells_length,← Lib.size_eq]
  have hgY:((w.alloc (.cells M 5)).setRow w.heap.size Y).heap[w.heap.size]? = some (.cells Y 5 (0,0)):=setRow_heap _ _ M _ 5 (0,0) (heap_alloc_new w _)
  have hne:s.data.toList≠[]:=fun e=>h0 (by rw [Lib.size_eq,e];rfl)
  have hUS:=Lib.run_unsafeString_row (P:=Tryz.prog) ((w.alloc (.cells M 5)).setRow w.heap.size Y) 178 3 9 5 Tryz.underlying178 hco w.heap.size Y.size (by unfold World.shape?;rw [hgY]) s.data.toList hne (by rw [← Lib.size_eq];omega) (by rw [← Lib.size_eq];omega)
   (fun j x hx=>Lib.cells_of_row hgY Y.size j _ (by rw [List.take_of_length_le (by rw [Array.length_toList];exact Nat.le_refl _),hYl];simp [Lib.byteCells,hx]))
  rw [← Lib.size_eq] at hUS
  have hb1:Below w.heap.size w (w.alloc (.cells M 5)):=(Below.refl _ w).alloc (Nat.le_refl _) _
  have hb2:Below w.heap.size (w.alloc (.cells M 5)) ((w.alloc (.cells M 5)).setRow w.heap.size Y):=⟨rfl,rfl,rfl,by simp,fun k hk=>setRow_other _ _ _ _ (by omega)⟩
  have HB:=Lib.hid (Lib.below_freeze (hb1.trans hb2) (p:=⟨w.heap.size,0,none⟩) (Nat.le_refl _) s.size)
  clear hY hb1 hb2
  go_enter Tryz.func65,Tryz.ntmps65
  go_wp2
  go_ret
  exact ⟨rfl,HB.out⟩
theorem clone_any (w:World) (s:ByteArray) (l:List UInt8) (hl:Tx s l) (h:l.length≤140737488355328) :
  Calls Tryz.prog 34 #[.string s] w fun e w'=>e = .returned (.string ⟨l.toArray⟩)∧Nx w w':=by
 have hs:s.size≤140737488355328:=by rw [hl.size];exact h
 obtain rfl:=hl.eq
 have H:=Lib.hid (clone_in ⟨l.toArray⟩ w hs)
 clear hl hs
 go_enter Tryz.func34,Tryz.ntmps34
 go_wp2_with fail
 refine H.out.mono ?_;rintro e w' ⟨rfl,hn⟩
 go_wp2_with fail
 go_ret
 exact ⟨rfl,hn⟩
end Go.Proofs.YtpbjkgpdkopgmaaGreatDoor
namespace Go.Proofs.YtpbjkgpdkopgmaaGreatDoor
open Go.RowKit
section
variable {w0 w w':World} {g gm:Nat} {s s':LdV} {vn vf vn' vf':Value}
theorem LdS.cs (h:LdS w0 g gm s vn vf w):w.cell? ⟨g,0,none⟩=some (.map (some gm))∧w.cell? ⟨g,1,none⟩=some vn∧w.cell? ⟨g,2,none⟩=some vf∧w.cell? ⟨g,3,none⟩=some (.int .i64 (s.e:Int))∧w.cell? ⟨g,4,none⟩=some (bt s.file)∧w.cell? ⟨g,5,none⟩=some (.int .i64 (s.at_:Int)) :=
 ⟨h.bl.cell 0,h.bl.cell 1,h.bl.cell 2,h.bl.cell 3,h.bl.cell 4,h.bl.cell 5⟩
theorem LdS.fs (h:LdS w0 g gm s vn vf w) (i:Nat):w.frozen? ⟨g,i,none⟩=false:=h.bl.free i
theorem LdS.eq (h:LdS w0 g gm s vn vf w) (e:s=s'):LdS w0 g gm s' vn vf w:=e ▸ h
theorem LdS.put3 (h:LdS w0 g gm s vn vf w) (e:Nat) (fl:List UInt8) (a:Nat):LdS w0 g gm ⟨s.m,s.names,s.files,e,fl,a⟩ vn vf (((w.setCell ⟨g,3,none⟩ (.int .i64 (e:Int))).setCell ⟨g,4,none⟩ (bt fl)).setCell ⟨g,5,none⟩ (.int .i64 (a:Int))) :=
 ((h.put (s':=⟨s.m,s.names,s.files,e,s.file,s.at_⟩) 3 _ ⟨rfl,rfl,rfl⟩ rfl).put (s':=⟨s.m,s.names,s.files,e,fl,s.at_⟩) 4 _ ⟨rfl,rfl,rfl⟩ rfl).put (s':=⟨s.m,s.names,s.files,e,fl,a⟩) 5 _ ⟨rfl,rfl,rfl⟩ rfl
theorem LdF.put3 (w:World) (g gm:Nat) (u v x vn vf:Value):LdF g gm vn vf w vn vf (((w.setCell ⟨g,3,none⟩ u).setCell ⟨g,4,none⟩ v).setCell ⟨g,5,none⟩ x) :=
 ((LdF.put w g gm 3 u vn vf).trans (LdF.put _ g gm 4 v vn vf)).trans (LdF.put _ g gm 5 x vn vf)
theorem LdF.blk {B k:Nat} {cs:Array Value} {T:TypeId} (h:LdF g gm vn vf w vn' vf' w') (b:Blk w B k cs T) (h1:k≠g) (h2:k≠gm) (h3:vn.ownBlock≠some k) (h4:vf.ownBlock≠some k):Blk w' B k cs T :=
 ⟨b.1,by rw [h.block k b.lt h1 h2 h3 h4];exact b.2⟩
theorem LdS.fresh (h:LdS w0 g gm s vn vf w) {k:Nat} (hk:w.heap.size≤k):k≠g∧k≠gm∧vn.ownBlock≠some k∧vf.ownBlock≠some k :=
 ⟨by have:=h.gl;omega,by have:=h.mp.lt;omega,fun e=>by have:=(h.onb k e).2;omega,fun e=>by have:=(h.ofb k e).2;omega⟩
set_option maxRecDepth 100000 in
set_option maxHeartbeats 1600000 in
theorem lfail_any (h0:LdS w0 g gm s vn vf w) (k:Nat) (sf:ByteArray) (fl:List UInt8) (hf:Tx sf fl) (a:Nat) :
  Calls Tryz.prog 63 #[.pointer (some ⟨g,0,none⟩),.int .i64 (k:Int),.string sf,.int .i64 (a:Int)] w fun e w'=>e = .returned (.tuple #[])∧LdS w0 g gm (failV k fl a s) vn vf w'∧LdF g gm vn vf w vn vf w':=by
 obtain rfl:=hf.eq
 have H:=Lib.hid h0
 obtain ⟨c0,c1,c2,c3,c4,c5⟩:=h0.cs
 have f3:=h0.fs 3
 have f4:=h0.fs 4
 have f5:=h0.fs 5
 by_cases he:s.e=0
 ·have b0:((s.e:Int) == 0)=true:=by rw [he];rfl
  have hnp:failV k fl a s=⟨s.m,s.names,s.files,k,fl,a⟩:=by unfold failV;rw [if_pos he]
  have HNP:=Lib.hid hnp
  clear hnp he h0 hf
  go_enter Tryz.func63,Tryz.ntmps63
  go_wp2_with fail
  go_end0
  refine ⟨rfl,?_,LdF.put3 _ _ _ _ _ _ _ _⟩
  rw [HNP.out]
  exact H.out.put3 k fl a
 ·have b0:((s.e:Int) == 0)=false:=by rw [beq_eq_false_iff_ne];omega
  have hnp:failV k fl a s=s:=by unfold failV;rw [if_neg he]
  have HNP:=Lib.hid hnp
  clear hnp he h0 hf
  go_enter Tryz.func63,Tryz.ntmps63
  go_wp2_with fail
  go_end0
  refine ⟨rfl,?_,LdF.refl _ _ _ _ _⟩
  rw [HNP.out]
  exact H.out
set_option maxRecDepth 100000 in
set_option maxHeartbeats 1600000 in
theorem lneed_any (h0:LdS w0 g gm s vn vf w) (sn:ByteArray) (n:List UInt8) (hn:Tx sn n) (hl:n.length≤8000) (sf:ByteArray) (fl:List UInt8) (hf:Tx sf fl) :
  Calls Tryz.prog 32 #[.pointer (some ⟨g,0,none⟩),.string sn,.string sf] w fun e w'=>e = .returned (.tuple #[])∧LdS w0 g gm (needV n fl s) vn vf w'∧LdF g gm vn vf w vn vf w':=by
 obtain rfl:=hn.eq
 have H:=Lib.hid h0
 obtain ⟨c0,c1,c2,c3,c4,c5⟩:=h0.cs
 have hlook:=(lookM_any h0.mp n hl).2
 obtain ⟨B,hB⟩:∃ B,(getM s.m n).isSome=B:=⟨_,rfl⟩
 obtain ⟨⟨T,k⟩,hV⟩:∃ V,(getM s.m n).getD ([],0)=V:=⟨_,rfl⟩
 rw [hB,hV] at hlook
 unfold bt srcA bt at hlook
 dsimp only at hlook
 have HN:Hid (needV n fl s=if B=true then s else failV 15 fl 0 s):=by unfold Hid needV hasV;rw [hB]
 have HF:=Lib.hid hf
 clear hB hV h0 hn hf
 go_enter Tryz.func32,Tryz.ntmps32
 go_upto_region 1 with (fail)
 have HA:Hid (Nx w (w.alloc (.cells #[.string ⟨T.toArray⟩,.int .i64 (k:Int)] 141))):=nx0 _ _
 generalize World.alloc w _=w2 at *
 have H2:=Lib.hid (H.out.next HA.out)
 cases B
 ·go_wp2_with fail
  refine (lfail_any H2.out 15 sf fl HF.out 0).mono ?_;rintro e w1 ⟨rfl,h1,h2⟩
  go_wp2_with fail
  go_end0
  refine ⟨rfl,?_,(LdF.nx HA.out _ _).trans h2⟩
  rw [HN.out]
  exact h1
 ·go_wp2_with fail
  go_end0
  refine ⟨rfl,?_,LdF.nx HA.out _ _⟩
  rw [HN.out]
  exact H2.out
end
end Go.Proofs.YtpbjkgpdkopgmaaGreatDoor
namespace Go.Proofs.YtpbjkgpdkopgmaaGreatDoor
open Go.RowKit
structure Gx (v:Value) (w:World) (v':Value) (w':World):Prop where
 os:w'.os=w.os
 tape:w'.tape=w.tape
 output:w'.output=w.output
 size:w.heap.size≤w'.heap.size
 block:∀ k,k<w.heap.size→v.ownBlock≠some k→w'.heap[k]? = w.heap[k]?
 own:∀ k,v'.ownBlock=some k→v.ownBlock=some k∨w.heap.size≤k
theorem Gx.nx {w w':World} (h:Nx w w') (v:Value):Gx v w v w':=⟨h.os,h.tape,h.output,h.size,fun k hk _=>h.block k hk,fun _ h=>.inl h⟩
theorem Gx.trans {v v1 v2:Value} {x y z:World} (h:Gx v x v1 y) (k:Gx v1 y v2 z):Gx v x v2 z :=
  ⟨k.os.trans h.os,k.tape.trans h.tape,k.output.trans h.output,Nat.le_trans h.size k.size,
   fun i hi hv=>(k.block i (Nat.lt_of_lt_of_le hi h.size) (fun e=>(h.own i e).elim hv (by omega))).trans (h.block i hi hv),
   fun i e=>(k.own i e).elim (h.own i) (fun h'=>.inr (Nat.le_trans h.size h'))⟩
section
variable {α β:Type} {f:α→Array Value} {k:Nat} {T:TypeId} {R:World→(Nat→Prop)→α→β→Prop}
variable (w:World) {o:Oper} {a:Act} {sz:Nat} {T2:TypeId} {z:Value}
theorem op_appP (hR:Lasts R) (hinfo:(Tryz.prog.info? T).map (fun i=>(i.zero,i.size,i.bytes))=some (some z,k,sz)) (hund:Tryz.prog.underlying T2=some (.slice T)) (hzs:z.cells.size=k) (hk:0<k) (hsz:sz≤1000)
  (hf:∀ x,(f x).size=k)
  {K:Act→World→Prop} (s x:Operand) (ho:o.op = .call { callee:=.builtin .append,args:=#[s,x],argTypes:=#[T2,T2] })
  (P:Nat→Prop) (v:Value) (l:List β) (ex:α) (ey:β) (hs:a.eval s=v) (hrep:RepL f k T R w P v l) (hone:∀ u ∈ (f ex).toList,u.oneCell'=true) (g:Nat) (hx:a.eval x = .slice (some ⟨g,0,none⟩) 1 1)
  (hy:∀ j,j<k→w.cell? ⟨g,j,none⟩=(f ex)[j]?) (hey:R w (But P v) ex ey) (h63:(l.length:Int)≤100000) (hP:∀ j,w.heap.size≤j→P j)
  (h:∀ v' w',RepL f k T R w' P v' (l++[ey])→Gx v w v' w'→K (a.put o.dst v') w'):o.wp Tryz.prog a w K (fun _ _ _=>False):=by
 obtain ⟨i,hi,hz,h1,h2⟩:=info_parts hinfo
 obtain ⟨xs,hsl,hall⟩:=hrep
 have hlen:=hall.len
 have hcells:∀ j u,((f ex).toList)[j]? = some u→w.cell? ((⟨g,0,none⟩:Addr).add j)=some u:=by
  intro j u hu
  have hj:j<k:=by
   rcases Nat.lt_or_ge j k with h | h
   ·exact h
   ·rw [List.getElem?_eq_none (by rw [Array.length_toList,hf];exact h)] at hu;cases hu
  rw [Addr.add_lit,Nat.zero_add,hy j hj]
  rw [← hu];simp
 obtain ⟨v',w',hrun,ho',hg,_,hob⟩:=run_append_own_at (P:=Tryz.prog) w 0 T2 o.type T i _ k sz hund hi hz h1 h2 hzs hk v xs.length (rowL f xs) hsl.1 ⟨g,0,none⟩ 1 1 (f ex).toList (by rw [Array.length_toList,hf,Nat.one_mul]) hcells hone (by simp [maxLen];omega)
  (by
    have:(xs.length+1) * sz≤100001 * 1000:=Nat.mul_le_mul (by omega) hsz
    omega) (Nat.zero_le _)
 have hfr:Gx v w v' w':=⟨hg.os,hg.tape,hg.output,hg.size,fun k hk hv=>hg.block k hk (fun e=>hv e.symm),fun k e=>by
  rcases hob with h | h
  ·exact .inl (h ▸ e)
  ·rw [h] at e;cases e;exact .inr (Nat.le_refl _)⟩
 have hmv:Mv (But P v) (But P v') w w':=⟨fun g hg hl=>hfr.block g hl hg.2,fun g hg hl=>⟨hg.1,fun e=>(hfr.own g e).elim hg.2 (by omega)⟩⟩
 have hrep':RepL f k T R w' P v' (l++[ey]):=by
  refine ⟨xs++[ex],⟨?_,fun g' e=>?_⟩,All2.snoc (hall.mono fun _ _ h=>hR hmv h) (hR hmv hey)⟩
  ·unfold OwnS
   rw [List.length_append,rowL_snoc]
   exact ho'
  ·rcases hob with h | h
   ·exact hsl.2 g' (h ▸ e)
   ·rw [h] at e;cases e;exact hP _ (Nat.le_refl _)
 have:=h v' w' hrep' hfr
 unfold Oper.wp execOp
 simp only [ho,resolve,invoke,builtin,Sem.run_bind,Sem.run_pure,Result.andThen_ok,List.map_toArray,List.map_cons,List.map_nil,hs,hx,hrun]
 exact this
end
theorem infoU:(Tryz.prog.info? 33).map (fun i=>(i.zero,i.size,i.bytes))=some (some (.agg #[.slice none 0 0,.slice none 0 0,.slice none 0 0]),3,72):=by kernel_rfl
section
variable {w0 w w' w2:World} {g gm:Nat} {s s':LdV} {vn vf vn' vf':Value}
theorem Gx.blkL (hg:Gx vn w vn' w') (h:LdS w0 g gm s vn vf w):Blk w' w0.heap.size g #[.map (some gm),vn,vf,.int .i64 (s.e:Int),bt s.file,.int .i64 (s.at_:Int)] 96 :=
 ⟨h.bl.1,by rw [hg.block g h.gl (fun e=>(h.onb g e).1.2.1 rfl)];exact h.bl.2⟩
theorem Gx.blkF (hg:Gx vf w vf' w') (h:LdS w0 g gm s vn vf w):Blk w' w0.heap.size g #[.map (some gm),vn,vf,.int .i64 (s.e:Int),bt s.file,.int .i64 (s.at_:Int)] 96 :=
 ⟨h.bl.1,by rw [hg.block g h.gl (fun e=>(h.ofb g e).1.2.1 rfl)];exact h.bl.2⟩
theorem LdS.addN (h:LdS w0 g gm s vn vf w) (n:Nx w w2) {l:List (List UInt8)} (hr:RepL strA 1 9 (REq (α:=List UInt8)) w' (Pl w0.heap.size g gm vf) vn' l) (hg:Gx vn w2 vn' w') :
  LdS w0 g gm ⟨s.m,l,s.files,s.e,s.file,s.at_⟩ vn' vf (w'.setCell ⟨g,1,none⟩ vn')∧LdF g gm vn vf w vn' vf (w'.setCell ⟨g,1,none⟩ vn'):=by
 have h2:=h.next n
 have hne:∀ k,vn'.ownBlock=some k→vn.ownBlock=some k∨w2.heap.size≤k:=hg.own
 have e:∀ k,k<w2.heap.size→k≠g→vn.ownBlock≠some k→(w'.setCell ⟨g,1,none⟩ vn').heap[k]? = w2.heap[k]?:=fun k hk hkg hv=>by
  simp only [World.setCell];rw [Array.getElem?_modify,if_neg (fun e=>hkg e.symm)];exact hg.block k hk hv
 have hgn:vn.ownBlock≠some g:=fun e=>(h.onb g e).1.2.1 rfl
 have hmn:vn.ownBlock≠some gm:=fun e=>(h.onb gm e).1.2.2.1 rfl
 have hb:Blk w' w0.heap.size g #[.map (some gm),vn,vf,.int .i64 (s.e:Int),bt s.file,.int .i64 (s.at_:Int)] 96:=⟨h2.bl.1,by rw [hg.block g h2.gl hgn];exact h2.bl.2⟩
 refine ⟨⟨?_,hb.put 1 vn',?_,h.hm,h.ne,?_,?_⟩,?_⟩
 ·refine Nx.put' ⟨hg.os.trans h2.nx.os,hg.tape.trans h2.nx.tape,hg.output.trans h2.nx.output,Nat.le_trans h2.nx.size hg.size,fun k hk=>?_⟩ h.gb 1 vn'
  exact (hg.block k (Nat.lt_of_lt_of_le hk h2.nx.size) (fun e=>by have:=(h.onb k e).1.1;omega)).trans (h2.nx.block k hk)
 ·exact h2.mp.keep (e gm h2.mp.lt h.ne hmn)
 ·exact hr.mv REq.lasts ⟨fun k hp hl=>by simp only [World.setCell];rw [Array.getElem?_modify,if_neg (fun e=>hp.2.1 e.symm)],fun k hp _=>hp⟩
 ·exact h2.fl.mv RFile.lasts ⟨fun k hp hl=>e k hl hp.2.1 hp.2.2.2,fun k hp hl=>⟨hp.1,hp.2.1,hp.2.2.1,fun e=>(hne k e).elim hp.2.2.2 (by omega)⟩⟩
 ·refine ⟨hg.os.trans n.os,hg.tape.trans n.tape,hg.output.trans n.output,by simp only [World.setCell,Array.size_modify];exact Nat.le_trans n.size hg.size,fun k hk h1 _ h3 _=>?_,fun k e=>?_,fun k e=>.inl e⟩
  ·exact (e k (Nat.lt_of_lt_of_le hk n.size) h1 h3).trans (n.block k hk)
  ·exact (hne k e).imp id (fun h'=>Nat.le_trans n.size h')
theorem LdS.addF (h:LdS w0 g gm s vn vf w) (n:Nx w w2) {l:List Fil} (hr:RepL filA 3 33 RFile w' (Pl w0.heap.size g gm vn) vf' l) (hg:Gx vf w2 vf' w') :
  LdS w0 g gm ⟨s.m,s.names,l,s.e,s.file,s.at_⟩ vn vf' (w'.setCell ⟨g,2,none⟩ vf')∧LdF g gm vn vf w vn vf' (w'.setCell ⟨g,2,none⟩ vf'):=by
 have h2:=h.next n
 have hne:∀ k,vf'.ownBlock=some k→vf.ownBlock=some k∨w2.heap.size≤k:=hg.own
 have e:∀ k,k<w2.heap.size→k≠g→vf.ownBlock≠some k→(w'.setCell ⟨g,2,none⟩ vf').heap[k]? = w2.heap[k]?:=fun k hk hkg hv=>by
  simp only [World.setCell];rw [Array.getElem?_modify,if_neg (fun e=>hkg e.symm)];exact hg.block k hk hv
 have hgn:vf.ownBlock≠some g:=fun e=>(h.ofb g e).1.2.1 rfl
 have hmn:vf.ownBlock≠some gm:=fun e=>(h.ofb gm e).1.2.2.1 rfl
 have hb:Blk w' w0.heap.size g #[.map (some gm),vn,vf,.int .i64 (s.e:Int),bt s.file,.int .i64 (s.at_:Int)] 96:=⟨h2.bl.1,by rw [hg.block g h2.gl hgn];exact h2.bl.2⟩
 refine ⟨⟨?_,hb.put 2 vf',?_,h.hm,h.ne,?_,?_⟩,?_⟩
 ·refine Nx.put' ⟨hg.os.trans h2.nx.os,hg.tape.trans h2.nx.tape,hg.output.trans h2.nx.output,Nat.le_trans h2.nx.size hg.size,fun k hk=>?_⟩ h.gb 2 vf'
  exact (hg.block k (Nat.lt_of_lt_of_le hk h2.nx.size) (fun e=>by have:=(h.ofb k e).1.1;omega)).trans (h2.nx.block k hk)
 ·exact h2.mp.keep (e gm h2.mp.lt h.ne hmn)
 ·exact h2.nm.mv REq.lasts ⟨fun k hp hl=>e k hl hp.2.1 hp.2.2.2,fun k hp hl=>⟨hp.1,hp.2.1,hp.2.2.1,fun e=>(hne k e).elim hp.2.2.2 (by omega)⟩⟩
 ·exact hr.mv RFile.lasts ⟨fun k hp hl=>by simp only [World.setCell];rw [Array.getElem?_modify,if_neg (fun e=>hp.2.1 e.symm)],fun k hp _=>hp⟩
 ·refine ⟨hg.os.trans n.os,hg.tape.trans n.tape,hg.output.trans n.output,by simp only [World.setCell,Array.size_modify];exact Nat.le_trans n.size hg.size,fun k hk h1 _ _ h4=>?_,fun k e=>.inl e,fun k e=>?_⟩
  ·exact (e k (Nat.lt_of_lt_of_le hk n.size) h1 h4).trans (n.block k hk)
  ·exact (hne k e).imp id (fun h'=>Nat.le_trans n.size h')
end
end Go.Proofs.YtpbjkgpdkopgmaaGreatDoor
