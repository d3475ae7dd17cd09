/- Files that are printed, and their words. Plain lemmas. The files that play makes can be written: their words. Plain lemmas. The law's text of words again, with gaps: its words are those words, or it is too long. Plain lemmas. The contracts of the library's numerals: strconv.FormatUint at ten, strconv.Itoa, over the table of tens (what is plain of it). The contracts of dec: the number that bits are, the logarithm of 10, the digits that are shown (what is plain of it). The binary64 nearest to an integer, as bits. Plain. The laws' own first question: does dec do anything yet? (what is plain of it). What the document's parse makes of texts that are laid together; how the nearest binary64 to a number times a power of ten goes with the number; the laws' texts. DecHalves: for every number the law returns true and leaves memory as it was. No condition (what is plain of it). -/
import Derived.Test.YteclejplbphkpaaGreatG28
import Derived.Test.YteclejplbphkpaaGreatG26
import Derived.Test.YteclejplbphkpaaGreatG24
import Derived.Test.YteclejplbphkpaaGreatG16
import Derived.Test.YteclejplbphkpaaGreatG01
import Derived.Test.YteclejplbphkpaaGreatG10
import Derived.Lib.ItoaMem
import Derived.Test.YteclejplbphkpaaGreatProg
import Derived.Sort.Grow
import Derived.Test.YteclejplbphkpaaGreatG00
import Derived.Test.YteclejplbphkpaaGreatG02
import Derived.Laws.Bits64b
import Derived.Test.YteclejplbphkpaaGreatG07
import Derived.Test.YteclejplbphkpaaGreatG11
set_option linter.unusedVariables false
set_option linter.unusedSimpArgs false
set_option linter.unnecessarySimpa false
namespace Go.Proofs.YteclejplbphkpaaGreat
theorem hd1 {c:UInt8} {r:List UInt8} (h:isNmS c=false):Hd (c :: r):=⟨c,r,rfl,h⟩
theorem P1.sp {a:List UInt8} {vs:Vs} (h:P1 a vs):P0 (a++[32]) vs:=(h.then0 (hd1 (by decide)) (P0.white (a:=[32]) (by decide))).same (by simp)
theorem P1.tail {a:List UInt8} {vs:Vs} (h:P1 a vs):P1 (a++[]) (vs++[]):=by rw [List.append_nil,List.append_nil];exact h
theorem P1.nl {a:List UInt8} {vs:Vs} (h:P1 a vs):P0 (a++[10]) vs:=(h.then0 (hd1 (by decide)) (P0.white (a:=[10]) (by decide))).same (by simp)
theorem P0.nl {a:List UInt8} {vs:Vs} (h:P0 a vs):P0 (a++[10]) vs:=h.p1.nl
theorem P1.endL {a:List UInt8} {vs:Vs} {c:UInt8} (h:P1 a vs) (hc:signsL.contains c=true) (hn:isNmS c=false):P0 (a++[c,10]) (vs++[sgW c]) :=
 (h.then0 (hd1 hn) ((P0.sign hc).then0 (P0.white (a:=[10]) (by decide)))).same (by simp [sgW])
theorem P0.eqs_:P0 [32,61,32] [sgW 61]:=(P0.white (a:=[32]) (by decide)).then0 (P0.signSp (by decide))
theorem P1.eq_ {a b:List UInt8} {vs us:Vs} (h:P1 a vs) (k:P1 b us):P1 (a++([32,61,32]++b)) (vs++([sgW 61]++us)):=h.then1 ⟨32,_,rfl,by decide⟩ (P0.eqs_.then1 k)
section
variable (tw:List UInt8→Vs)
def idV (b:Bool) (i:Int):Vs:=if b then [(2,[],i,0),sgW 58] else []
def reqV (r:Nat):Vs:=if r=1 then [nmW [114,101,113,117,105,114,101,100]] else if r=2 then [nmW [111,112,116,105,111,110,97,108]] else []
def fieldV (f:Fld):Vs:=idV f.hasID f.id++reqV f.req++tw f.ty++[nmW f.nm]++(if f.hasIn then [sgW 61]++constV 13 f.ini else [])
def fieldsV (l:List Fld):Vs:=commaV (l.map (fieldV tw))
def memV (m:Mem):Vs:=[nmW m.nm]++(if m.has then [sgW 61]++[(2,[],m.n,0)] else [])++[sgW 44]
def fldLV (f:Fld):Vs:=fieldV tw f++[sgW 44]
def oneV (b:Bool):Vs:=if b then [nmW [111,110,101,119,97,121]] else []
def methodV (m:Met):Vs :=
 oneV m.one++tw m.ret++[nmW m.nm]++[sgW 40]++fieldsV tw m.args++[sgW 41]++(if 0<m.thr.length then [nmW [116,104,114,111,119,115],sgW 40]++fieldsV tw m.thr++[sgW 41] else [])++[sgW 44]
def wfF (f:Fld):Prop:=(f.hasID=true→-9223372036854775808≤f.id∧f.id≤9223372036854775807)∧P1 f.ty (tw f.ty)∧NameT f.nm∧(f.hasIn=true→wfC 13 f.ini)
def wfMem (m:Mem):Prop:=NameT m.nm∧(m.has=true→-9223372036854775808≤m.n∧m.n≤9223372036854775807)
def wfMet (m:Met):Prop:=P1 m.ret (tw m.ret)∧NameT m.nm∧(∀ f ∈ m.args,wfF tw f)∧∀ f ∈ m.thr,wfF tw f
theorem id_p0 {b:Bool} {i:Int} (h:b=true→-9223372036854775808≤i∧i≤9223372036854775807):P0 (if b then tenS i++[58,32] else []) (idV b i):=by
 unfold idV
 cases b with
 | false=>exact P0.nil_
 | true=>exact (P1.int (h rfl).1 (h rfl).2).then0 (hd1 (by decide)) (P0.signSp (by decide))
theorem kw_name {t:List UInt8} (h:NameT t):P0 (t++[32]) [nmW t]:=(P1.name h).sp
theorem NameT.of {t:List UInt8} (h1:∃ c r,t=c :: r∧(isLetS c || decide (c.toNat=95))=true) (h2:(t.all isNmS && decide (t.length≤120) && !dotBad t)=true):NameT t:=by
 rw [Bool.and_eq_true,Bool.and_eq_true] at h2
 exact ⟨h1,by simpa using h2.1.1,by simpa using h2.1.2,by simpa using h2.2⟩
theorem req_p0 (r:Nat):P0 (if r=1 then [114,101,113,117,105,114,101,100,32] else if r=2 then [111,112,116,105,111,110,97,108,32] else []) (reqV r):=by
 unfold reqV
 split
 ·exact kw_name (t:=[114,101,113,117,105,114,101,100]) (NameT.of ⟨_,_,rfl,by decide⟩ (by decide))
 ·split
  ·exact kw_name (t:=[111,112,116,105,111,110,97,108]) (NameT.of ⟨_,_,rfl,by decide⟩ (by decide))
  ·exact P0.nil_
variable {sh:Nat→List UInt8} (hs:∀ B,B<18446744073709551616→B % 9223372036854775808<LIM→ShowR B (sh B)∧parseS (sh B)=(B,0))
include hs
theorem field_p1 {f:Fld} (h:wfF tw f):P1 (fieldF tenS sh f) (fieldV tw f):=by
 obtain ⟨h1,h2,h3,h4⟩:=h
 have hh:=((((id_p0 h1).then0 (req_p0 f.req)).then1 h2).sp).then1 (P1.name h3)
 unfold fieldF fieldV
 cases hi:f.hasIn with
 | false=>exact hh.tail
 | true=>exact hh.eq_ (const_p1 hs 13 _ (h4 hi))
theorem fields_p1 {l:List Fld} (h:∀ f ∈ l,wfF tw f):P1 (fieldsF tenS sh l) (fieldsV tw l):=comma_p1 (All1.map l (fun f hf=>field_p1 tw hs (h f hf)))
theorem fldL_p0 {f:Fld} (h:wfF tw f):P0 (fldL tenS sh f) (fldLV tw f) :=
 (((P0.white (a:=[32,32]) (by decide)).then1 (field_p1 tw hs h)).endL (c:=44) (by decide) (by decide)).same (by simp [fldLV])
omit hs in
theorem mem_p0 {m:Mem} (h:wfMem m):P0 (memF tenS m) (memV m):=by
 have h1:=(P0.white (a:=[32,32]) (by decide)).then1 (P1.name h.1)
 unfold memF memV
 cases hb:m.has with
 | false =>
  rw [if_neg (by simp),if_neg (by simp),List.append_nil,List.append_nil]
  exact (h1.endL (c:=44) (by decide) (by decide)).same (by simp)
 | true=>exact ((h1.eq_ (P1.int (h.2 hb).1 (h.2 hb).2)).endL (c:=44) (by decide) (by decide)).same (by simp)
theorem method_p0 {m:Met} (h:wfMet tw m):P0 (methodF tenS sh m) (methodV tw m):=by
 obtain ⟨h1,h2,h3,h4⟩:=h
 have ho:P0 (oneF m.one) (oneV m.one):=by
  unfold oneF oneV
  cases m.one with
  | false=>exact P0.white (a:=[32,32]) (by decide)
  | true=>exact (P0.white (a:=[32,32]) (by decide)).then0 (kw_name (t:=[111,110,101,119,97,121]) (NameT.of ⟨_,_,rfl,by decide⟩ (by decide)))
 have hh:=((((ho.then1 h1).sp.then1 (P1.name h2)).then0 (b:=[40]) (hd1 (by decide)) (P0.sign (by decide))).then1 (fields_p1 tw hs h3)).then0 (b:=[41]) (hd1 (by decide)) (P0.sign (by decide))
 unfold methodF methodV
 by_cases ht:0<m.thr.length
 ·rw [if_pos ht,if_pos ht]
  have hk:P0 [32,116,104,114,111,119,115,32,40] [nmW [116,104,114,111,119,115],sgW 40] :=
   ((P0.white (a:=[32]) (by decide)).then0 (kw_name (t:=[116,104,114,111,119,115]) (NameT.of ⟨_,_,rfl,by decide⟩ (by decide)))).then0 (P0.sign (c:=40) (by decide))
  have ht2:=(hk.then1 (fields_p1 tw hs h4)).then0 (b:=[41]) (hd1 (by decide)) (P0.sign (by decide))
  exact ((hh.then0 ht2).p1.endL (c:=44) (by decide) (by decide)).same (by simp [sgW])
 ·rw [if_neg ht,if_neg ht,List.append_nil,List.append_nil]
  exact (hh.p1.endL (c:=44) (by decide) (by decide)).same (by simp [sgW])
def kwT:Nat→List UInt8
 | 1=>[116,121,112,101,100,101,102]
 | 2=>[101,110,117,109]
 | 3=>[99,111,110,115,116]
 | 4=>[115,116,114,117,99,116]
 | 5=>[117,110,105,111,110]
 | 6=>[101,120,99,101,112,116,105,111,110]
 | _=>[115,101,114,118,105,99,101]
omit hs in
theorem kwT_p0 (k:Nat) (h1:1≤k) (h2:k≤7):P0 (wordD k) [nmW (kwT k)]:=by
 rcases (show k=1∨k=2∨k=3∨k=4∨k=5∨k=6∨k=7 by omega) with rfl | rfl | rfl | rfl | rfl | rfl | rfl
 ·exact kw_name (t:=kwT 1) (NameT.of ⟨_,_,rfl,by decide⟩ (by decide))
 ·exact kw_name (t:=kwT 2) (NameT.of ⟨_,_,rfl,by decide⟩ (by decide))
 ·exact kw_name (t:=kwT 3) (NameT.of ⟨_,_,rfl,by decide⟩ (by decide))
 ·exact kw_name (t:=kwT 4) (NameT.of ⟨_,_,rfl,by decide⟩ (by decide))
 ·exact kw_name (t:=kwT 5) (NameT.of ⟨_,_,rfl,by decide⟩ (by decide))
 ·exact kw_name (t:=kwT 6) (NameT.of ⟨_,_,rfl,by decide⟩ (by decide))
 ·exact kw_name (t:=kwT 7) (NameT.of ⟨_,_,rfl,by decide⟩ (by decide))
def extV (e:List UInt8):Vs:=if e=[] then [] else [nmW [101,120,116,101,110,100,115],nmW e]
def defV (d:Dfn):Vs :=
 if d.k=1 then [nmW (kwT 1)]++tw d.ty++[nmW d.nm]
 else if d.k=3 then [nmW (kwT 3)]++tw d.ty++[nmW d.nm]++[sgW 61]++constV 13 d.ini
 else [nmW (kwT d.k)]++[nmW d.nm]++extV d.ext++[sgW 123]++d.mems.flatMap memV++d.fields.flatMap (fldLV tw)++d.mets.flatMap (methodV tw)++[sgW 125]
structure wfD (d:Dfn):Prop where
 k1:1≤d.k
 k7:d.k≤7
 nm:NameT d.nm
 ty:d.k=1∨d.k=3→P1 d.ty (tw d.ty)
 ini:d.k=3→wfC 13 d.ini
 ext:d.ext≠[]→NameT d.ext
 mems:∀ m ∈ d.mems,wfMem m
 fields:∀ f ∈ d.fields,wfF tw f
 mets:∀ m ∈ d.mets,wfMet tw m
omit hs in
theorem ext_p1 {e:List UInt8} (h:e≠[]→NameT e):(e=[]∧(if e=[] then [] else [32,101,120,116,101,110,100,115,32]++e)=[]) ∨
  (Hd (if e=[] then [] else [32,101,120,116,101,110,100,115,32]++e)∧P1 (if e=[] then [] else [32,101,120,116,101,110,100,115,32]++e) (extV e)):=by
 unfold extV
 by_cases h0:e=[]
 ·exact .inl ⟨h0,if_pos h0⟩
 ·rw [if_neg h0,if_neg h0]
  refine .inr ⟨hd1 (by decide),?_⟩
  exact ((P0.white (a:=[32]) (by decide)).then0 (kw_name (t:=[101,120,116,101,110,100,115]) (NameT.of ⟨_,_,rfl,by decide⟩ (by decide)))).then1 (P1.name (h h0))
theorem def_p0 {d:Dfn} (h:wfD tw d):P0 (defF tenS sh d) (defV tw d):=by
 unfold defF defV
 by_cases k1:d.k=1
 ·rw [if_pos k1,if_pos k1]
  exact (((kwT_p0 1 (by decide) (by decide)).then1 (h.ty (.inl k1))).sp.then1 (P1.name h.nm)).nl
 ·rw [if_neg k1,if_neg k1]
  by_cases k3:d.k=3
  ·rw [if_pos k3,if_pos k3]
   exact (((((kwT_p0 3 (by decide) (by decide)).then1 (h.ty (.inr k3))).sp.then1 (P1.name h.nm)).then0 (hd1 (by decide)) P0.eqs_).then1 (const_p1 hs 13 _ (h.ini k3))).nl
  ·rw [if_neg k3,if_neg k3]
   have hh:=(kwT_p0 d.k h.k1 h.k7).then1 (P1.name h.nm)
   have hb:P0 [32,123,10] [sgW 123]:=(P0.white (a:=[32]) (by decide)).then0 ((P0.sign (c:=123) (by decide)).then0 (P0.white (a:=[10]) (by decide)))
   have he:P0 [125,10] [sgW 125]:=(P0.sign (c:=125) (by decide)).then0 (P0.white (a:=[10]) (by decide))
   have hx:P0 (((wordD d.k++d.nm)++(if d.ext=[] then [] else [32,101,120,116,101,110,100,115,32]++d.ext))++[32,123,10]) ([nmW (kwT d.k)]++[nmW d.nm]++extV d.ext++[sgW 123]):=by
    rcases ext_p1 h.ext with ⟨e0,e1⟩ | ⟨e1,e2⟩
    ·rw [e1,show extV d.ext=[] by unfold extV;rw [if_pos e0],List.append_nil,List.append_nil]
     exact hh.then0 (hd1 (by decide)) hb
    ·exact (hh.then1 e1 e2).then0 (hd1 (by decide)) hb
   exact (((hx.then0 (P0.flat _ (fun m hm=>mem_p0 (h.mems m hm)))).then0 (P0.flat _ (fun f hf=>fldL_p0 tw hs (h.fields f hf)))).then0 (P0.flat _ (fun m hm=>method_p0 tw hs (h.mets m hm)))).then0 he
def incWV (s:List UInt8):Vs:=[nmW [105,110,99,108,117,100,101],(4,s,0,0)]
def scW (s:List UInt8):Nat×List UInt8×Int×Nat:=if s=[42] then sgW 42 else nmW s
def spcV (s:Spc):Vs:=[nmW [110,97,109,101,115,112,97,99,101],scW s.scope,nmW s.nm]
omit hs in
theorem inc_p0 {s:List UInt8} (h1:∀ c ∈ s,c≠34) (h2:∀ c ∈ s,c≠10):P0 (incF s) (incWV s):=by
 have hh:=((kw_name (t:=[105,110,99,108,117,100,101]) (NameT.of ⟨_,_,rfl,by decide⟩ (by decide))).then1 (P1.wd (Wd.text (q:=34) (.inl rfl) h1 h2))).nl
 have e:incF s=([105,110,99,108,117,100,101]++[32]++34 :: (s++[34]))++[10]:=by unfold incF;simp
 rw [e];exact hh
omit hs in
theorem spc_p0 {s:Spc} (h1:s.scope≠[42]→NameT s.scope) (h2:NameT s.nm):P0 (spcF s) (spcV s):=by
 have h3:P1 s.scope [scW s.scope]:=by
  unfold scW
  by_cases h:s.scope=[42]
  ·rw [if_pos h,h];exact (P0.sign (c:=42) (by decide)).p1
  ·rw [if_neg h];exact P1.name (h1 h)
 exact (((kw_name (t:=[110,97,109,101,115,112,97,99,101]) (NameT.of ⟨_,_,rfl,by decide⟩ (by decide))).then1 h3).sp.then1 (P1.name h2)).nl
def fileV (f:Fil):Vs:=f.incs.flatMap incWV++f.spaces.flatMap spcV++f.defs.flatMap (defV tw)
structure wfFil (f:Fil):Prop where
 incs:∀ s ∈ f.incs,(∀ c ∈ s,c≠34)∧∀ c ∈ s,c≠10
 spaces:∀ s ∈ f.spaces,(s.scope≠[42]→NameT s.scope)∧NameT s.nm
 defs:∀ d ∈ f.defs,wfD tw d
theorem print_p0 {f:Fil} (h:wfFil tw f):P0 (printF tenS sh f) (fileV tw f) :=
 ((P0.flat _ (fun s hs=>inc_p0 (h.incs s hs).1 (h.incs s hs).2)).then0 (P0.flat _ (fun s hs=>spc_p0 (h.spaces s hs).1 (h.spaces s hs).2))).then0 (P0.flat _ (fun d hd=>def_p0 tw hs (h.defs d hd)))
theorem print_words {f:Fil} (h:wfFil tw f):Lxs (printF tenS sh f) (fileV tw f):=(print_p0 tw hs h).whole
end
end Go.Proofs.YteclejplbphkpaaGreat
namespace Go.Proofs.YteclejplbphkpaaGreat
def nameB (t:List UInt8):Bool:=(match t with | []=>false | c :: _=>isLetS c || decide (c.toNat=95)) && (t.all isNmS && decide (t.length≤120) && !dotBad t)
theorem NameT.ofB {t:List UInt8} (h:nameB t=true):NameT t:=by
 unfold nameB at h
 rw [Bool.and_eq_true] at h
 cases t with
 | nil=>exact absurd h.1 (by decide)
 | cons c r=>exact NameT.of ⟨c,r,rfl,h.1⟩ h.2
open Classical in
noncomputable def tw0 (t:List UInt8):Vs:=if h:∃ vs,P1 t vs then Classical.choose h else []
theorem tw0_p1 {t:List UInt8} (h:∃ vs,P1 t vs):P1 t (tw0 t):=by
 unfold tw0
 rw [dif_pos h]
 exact Classical.choose_spec h
theorem name_w {t:List UInt8} (h:NameT t):∃ vs,P1 t vs:=⟨_,P1.name h⟩
def PreOk (pre:List UInt8):Prop:=pre=[]∨pre=[98,97,115,101,46]
theorem key_names {pre:List UInt8} (hp:PreOk pre):∀ t ∈ keyL pre,nameB t=true:=by
 rcases hp with rfl | rfl <;> decide
theorem typ_names {pre:List UInt8} (hp:PreOk pre):∀ t ∈ typL pre,nameB t=true:=by
 rcases hp with rfl | rfl <;> decide
theorem getD_mem_ {Ls:List (List UInt8)} {k:Nat} (h:k<Ls.length):Ls.getD k [] ∈ Ls:=by
 rw [List.getD_eq_getElem?_getD,List.getElem?_eq_getElem h]
 exact List.getElem_mem h
theorem key_p1 {pre:List UInt8} (hp:PreOk pre) (r:List UInt8):∃ vs,P1 (keyP pre r).1 vs :=
 name_w (NameT.ofB (key_names hp _ (getD_mem_ (numP_lt 8 (by decide) r))))
theorem typ_p1 {pre:List UInt8} (hp:PreOk pre):∀ (d:Nat) (r:List UInt8),∃ vs,P1 (typP pre d r).1 vs
 | 0,r=>name_w (NameT.ofB (typ_names hp _ (getD_mem_ (show (numP 18 r).1 % 12<14 by omega))))
 | d+1,r=>by
  unfold typP
  by_cases h1:(numP 18 r).1<14
  ·rw [if_pos h1]
   exact name_w (NameT.ofB (typ_names hp _ (getD_mem_ (show (numP 18 r).1<14 from h1))))
  ·rw [if_neg h1]
   by_cases h2:(numP 18 r).1<16
   ·rw [if_pos h2]
    obtain ⟨vs,h⟩:=typ_p1 hp d (numP 18 r).2
    exact ⟨_,((((P1.name (t:=[108,105,115,116]) (NameT.ofB (by decide))).then0 (b:=[60]) (hd1 (by decide)) (P0.sign (by decide))).then1 h).then0 (b:=[62]) (hd1 (by decide)) (P0.sign (by decide))).p1⟩
   ·rw [if_neg h2]
    obtain ⟨us,k⟩:=key_p1 hp (numP 18 r).2
    by_cases h3:(numP 18 r).1=16
    ·rw [if_pos h3]
     exact ⟨_,((((P1.name (t:=[115,101,116]) (NameT.ofB (by decide))).then0 (b:=[60]) (hd1 (by decide)) (P0.sign (by decide))).then1 k).then0 (b:=[62]) (hd1 (by decide)) (P0.sign (by decide))).p1⟩
    ·rw [if_neg h3]
     obtain ⟨vs,h⟩:=typ_p1 hp d (keyP pre (numP 18 r).2).2
     exact ⟨_,((((((P1.name (t:=[109,97,112]) (NameT.ofB (by decide))).then0 (b:=[60]) (hd1 (by decide)) (P0.sign (by decide))).then1 k).then0 (b:=[44]) (hd1 (by decide)) (P0.sign (by decide))).then1 h).then0 (b:=[62]) (hd1 (by decide)) (P0.sign (by decide))).p1⟩
theorem typOf_p1 {pre t:List UInt8} (hp:PreOk pre) (h:TypOf pre t):P1 t (tw0 t):=by
 obtain ⟨r,rfl⟩:=h
 exact tw0_p1 (typ_p1 hp 3 r)
theorem leaf_wf {k:Nat} {n:Int} {d:Nat} {s:List UInt8} (h1:k=1→-9223372036854775808≤n∧n≤9223372036854775807) (h2:k=2→d<18446744073709551616∧d % 9223372036854775808<LIM)
  (h3:k=3→∃ q,(q=34∨q=39)∧(∀ c ∈ s,c≠q)∧∀ c ∈ s,c≠10) (h4:k=4→NameT s):wfC 13 (.mk k n d s []):=⟨h1,h2,h3,h4,fun y hy=>by cases hy⟩
theorem init_texts:∀ s ∈ initL,(∀ c ∈ s,c≠34)∧∀ c ∈ s,c≠10:=by decide
theorem bool_names:∀ s ∈ boolL,nameB s=true:=by decide
theorem init_wf {pre:List UInt8} (hp:PreOk pre) (t r:List UInt8):wfC 13 (conO (initP t pre r).1):=by
 unfold initP conO
 have n0:=numP_lt 200 (by decide) r
 have n1:=numP_lt 255 (by decide) r
 have n2:=numP_lt 255 (by decide) (numP 255 r).2
 have n3:=numP_lt 4 (by decide) r
 have n4:=numP_lt 2 (by decide) r
 have hL:LIM=9218868437227405312:=rfl
 split
 ·exact leaf_wf (fun _=>⟨by dsimp only;omega,by dsimp only;omega⟩) (fun e=>by cases e) (fun e=>by cases e) (fun e=>by cases e)
 ·split
  ·exact leaf_wf (fun e=>by cases e) (fun _=>⟨by dsimp only;omega,by dsimp only;omega⟩) (fun e=>by cases e) (fun e=>by cases e)
  ·split
   ·have hm:=init_texts _ (getD_mem_ (Ls:=initL) (k:=(numP 4 r).1) n3)
    exact leaf_wf (fun e=>by cases e) (fun e=>by cases e) (fun _=>⟨34,.inl rfl,hm.1,hm.2⟩) (fun e=>by cases e)
   ·split
    ·exact leaf_wf (fun e=>by cases e) (fun e=>by cases e) (fun e=>by cases e) (fun _=>NameT.ofB (bool_names _ (getD_mem_ (Ls:=boolL) (k:=(numP 2 r).1) n4)))
    ·split
     ·exact leaf_wf (fun e=>by cases e) (fun e=>by cases e) (fun e=>by cases e) (fun _=>NameT.ofB (by rcases hp with rfl | rfl <;> rfl))
     ·split
      ·exact leaf_wf (fun e=>by cases e) (fun e=>by cases e) (fun e=>by cases e) (fun _=>NameT.ofB (by rcases hp with rfl | rfl <;> rfl))
      ·exact leaf_wf (fun e=>by cases e) (fun e=>by cases e) (fun e=>by cases e) (fun e=>by cases e)
theorem fld_names:∀ i,i<21→nameB [102,(97+i).toUInt8]=true:=by decide
theorem arg_names:∀ i,i<10→nameB [97,(48+i).toUInt8]=true∧nameB [109,(48+i).toUInt8]=true:=by decide
theorem mem_names:∀ i,i<10→nameB [(65+i).toUInt8]=true:=by decide
theorem fld_wf {pre:List UInt8} {un:Bool} {i:Nat} {f:Fld} (hp:PreOk pre) (hi:i<21) (h:PFld pre un i f):wfF tw0 f:=by
 refine ⟨fun hb=>?_,typOf_p1 hp h.ty,by rw [h.nm];exact NameT.ofB (fld_names i hi),fun hb=>?_⟩
 ·obtain ⟨n,hn,e⟩:=h.id
  rw [hb,if_pos rfl] at e
  rcases (show n=0∨n=1∨n=2 by omega) with rfl | rfl | rfl <;> (rw [e];constructor <;> omega)
 ·rcases h.ini with ⟨h1,-⟩ | ⟨-,r,e⟩
  ·rw [h1] at hb;cases hb
  ·rw [e];exact init_wf hp _ _
theorem flds_wf {pre:List UInt8} {un:Bool} {fs:List Fld} (hp:PreOk pre) (h:AllI (PFld pre un) fs) (hl:fs.length≤21):∀ f ∈ fs,wfF tw0 f:=fun f hf=>by
 obtain ⟨i,h1,h2⟩:=List.getElem_of_mem hf
 exact fld_wf hp (by omega) (h i f (by rw [List.getElem?_eq_getElem h1,h2]))
theorem arg_wf {pre:List UInt8} {fs:List Fld} (hp:PreOk pre) (h:AllI (PArg pre) fs) (hl:fs.length≤3):∀ f ∈ fs,wfF tw0 f:=fun f hf=>by
 obtain ⟨i,h1,h2⟩:=List.getElem_of_mem hf
 obtain ⟨T,hT,rfl⟩:=h i f (by rw [List.getElem?_eq_getElem h1,h2])
 exact ⟨fun _=>⟨by dsimp only;omega,by dsimp only;omega⟩,typOf_p1 hp hT,NameT.ofB (arg_names i (by omega)).1,fun e=>(by cases e)⟩
theorem thr_wf:wfF tw0 thrX:=⟨fun _=>by decide,tw0_p1 (name_w (NameT.ofB (by decide))),NameT.ofB (by decide),fun e=>(by cases e)⟩
theorem kV_p1:P1 kV (tw0 kV):=tw0_p1 (name_w (NameT.ofB (by decide)))
theorem met_wf {pre:List UInt8} {i:Nat} {m:Met} (hp:PreOk pre) (hi:i<10) (h:PMet pre i m):wfMet tw0 m:=by
 have hn:NameT m.nm:=by rw [h.nm];exact NameT.ofB (arg_names i hi).2
 have ha:=arg_wf hp h.args h.alen
 have ht:∀ f ∈ [thrX],wfF tw0 f:=fun f hf=>by rw [List.mem_singleton.1 hf];exact thr_wf
 rcases h.rest with ⟨-,h1,h2⟩ | ⟨-,h1,h2⟩ | ⟨-,h1,h2⟩
 ·exact ⟨by rw [h1];exact kV_p1,hn,ha,by rw [h2];intro f hf;cases hf⟩
 ·exact ⟨by rw [h1];exact kV_p1,hn,ha,by rw [h2];exact ht⟩
 ·refine ⟨typOf_p1 hp h1,hn,ha,?_⟩
  rcases h2 with h2 | h2
  ·rw [h2];intro f hf;cases hf
  ·rw [h2];exact ht
theorem mem_wf {ms:List Mem} (h:AllI PMem ms) (hl:ms.length≤3):∀ m ∈ ms,wfMem m:=fun m hm=>by
 obtain ⟨i,h1,h2⟩:=List.getElem_of_mem hm
 have:=h i m (by rw [List.getElem?_eq_getElem h1,h2])
 unfold PMem at this
 split at this
 ·rw [this];exact ⟨NameT.ofB (by decide),fun e=>(by cases e)⟩
 ·obtain ⟨e,k⟩:=this
  refine ⟨by rw [e];exact NameT.ofB (mem_names i (by omega)),fun hb=>?_⟩
  rcases k with ⟨k,-⟩ | ⟨-,k,hk,e2⟩
  ·rw [k] at hb;cases hb
  ·rw [e2];constructor <;> omega
theorem dfnF_wf {k:Nat} {nm:List UInt8} {fs:List Fld} (h1:4≤k) (h7:k≤7) (hn:nameB nm=true) (h:∀ f ∈ fs,wfF tw0 f):wfD tw0 (dfnF k nm fs) :=
 ⟨(show 1≤k by omega),h7,NameT.ofB hn,fun e=>(by have:k=1∨k=3:=e;omega),fun e=>(by have:k=3:=e;omega),fun e=>absurd rfl e,fun m hm=>(by cases hm),h,fun m hm=>(by cases hm)⟩
theorem ty_texts:∀ {ty:List UInt8} {c:Con},PCon ty c→(∃ vs,P1 ty vs)∧wfC 13 c:=by
 intro ty c h
 rcases h with ⟨rfl,k,hk,rfl⟩ | ⟨rfl,rfl⟩ | ⟨rfl,rfl⟩ | ⟨rfl,rfl⟩
 ·exact ⟨name_w (NameT.ofB (by decide)),leaf_wf (fun _=>⟨by omega,by omega⟩) (fun e=>by cases e) (fun e=>by cases e) (fun e=>by cases e)⟩
 ·refine ⟨⟨_,((((P1.name (t:=[108,105,115,116]) (NameT.ofB (by decide))).then0 (b:=[60]) (hd1 (by decide)) (P0.sign (by decide))).then1 (P1.name (t:=[69]) (NameT.ofB (by decide)))).then0 (b:=[62]) (hd1 (by decide)) (P0.sign (by decide))).p1⟩,?_⟩
  refine ⟨fun e=>(by cases e),fun e=>(by cases e),fun e=>(by cases e),fun e=>(by cases e),fun y hy=>?_⟩
  rcases List.mem_cons.1 hy with rfl | hy
  ·exact ⟨fun e=>(by cases e),fun e=>(by cases e),fun e=>(by cases e),fun _=>NameT.ofB (by decide),fun y hy=>(by cases hy)⟩
  ·rw [List.mem_singleton.1 hy]
   exact ⟨fun _=>by decide,fun e=>(by cases e),fun e=>(by cases e),fun e=>(by cases e),fun y hy=>(by cases hy)⟩
 ·exact ⟨name_w (NameT.ofB (by decide)),leaf_wf (fun e=>by cases e) (fun e=>by cases e) (fun _=>⟨34,.inl rfl,by decide,by decide⟩) (fun e=>by cases e)⟩
 ·exact ⟨⟨_,((((((P1.name (t:=[109,97,112]) (NameT.ofB (by decide))).then0 (b:=[60]) (hd1 (by decide)) (P0.sign (by decide))).then1 (P1.name (t:=[115,116,114,105,110,103]) (NameT.ofB (by decide)))).then0 (b:=[44]) (hd1 (by decide)) (P0.sign (by decide))).then1 (P1.name (t:=[105,54,52]) (NameT.ofB (by decide)))).then0 (b:=[62]) (hd1 (by decide)) (P0.sign (by decide))).p1⟩,
   leaf_wf (fun e=>by cases e) (fun e=>by cases e) (fun e=>by cases e) (fun e=>by cases e)⟩
theorem base_wf {ds:List Dfn} (h:PBase ds):∀ d ∈ ds,wfD tw0 d:=by
 obtain ⟨ms,ty,c,fs,fu,rfl,h1,h2,h3,h4,h5,h6,h7,h8,h9⟩:=h.is
 have p0:PreOk []:=.inl rfl
 obtain ⟨t1,t2⟩:=ty_texts h4
 intro d hd
 simp only [List.mem_cons,List.not_mem_nil,or_false] at hd
 rcases hd with rfl | rfl | rfl | rfl | rfl
 ·exact ⟨(show (1:Nat)≤2 by decide),(show (2:Nat)≤7 by decide),NameT.ofB (t:=[69]) (by decide),fun e=>(by rcases e with e | e <;> cases e),fun e=>(by cases e),fun e=>absurd rfl e,mem_wf h1 h3,fun f hf=>(by cases hf),fun f hf=>(by cases hf)⟩
 ·exact ⟨(show (1:Nat)≤1 by decide),(show (1:Nat)≤7 by decide),NameT.ofB (t:=[84]) (by decide),fun _=>tw0_p1 t1,fun e=>(by cases e),fun e=>absurd rfl e,fun f hf=>(by cases hf),fun f hf=>(by cases hf),fun f hf=>(by cases hf)⟩
 ·exact ⟨(show (1:Nat)≤3 by decide),(show (3:Nat)≤7 by decide),NameT.ofB (t:=[67]) (by decide),fun _=>tw0_p1 (name_w (NameT.ofB (t:=[84]) (by decide))),fun _=>t2,fun e=>absurd rfl e,fun f hf=>(by cases hf),fun f hf=>(by cases hf),fun f hf=>(by cases hf)⟩
 ·exact dfnF_wf (by decide) (by decide) (by decide) (flds_wf p0 h5 h6)
 ·exact dfnF_wf (by decide) (by decide) (by decide) (flds_wf p0 h7 h8)
theorem rest_wf {pre:List UInt8} {ds:List Dfn} (hp:PreOk pre) (h:PRest pre ds):∀ d ∈ ds,wfD tw0 d:=by
 obtain ⟨fq,fx,ms,rfl,h1,h2,h3,h4,h5,h6⟩:=h.is
 intro d hd
 simp only [List.mem_cons,List.not_mem_nil,or_false] at hd
 rcases hd with rfl | rfl | rfl | rfl
 ·exact dfnF_wf (by decide) (by decide) (by decide) (flds_wf hp h1 h2)
 ·exact dfnF_wf (by decide) (by decide) (by decide) (flds_wf hp h3 h4)
 ·refine ⟨(show (1:Nat)≤7 by decide),(show (7:Nat)≤7 by decide),NameT.ofB (t:=[86]) (by decide),fun e=>(by rcases e with e | e <;> cases e),fun e=>(by cases e),fun e=>absurd rfl e,fun f hf=>(by cases hf),fun f hf=>(by cases hf),fun m hm=>?_⟩
  obtain ⟨i,g1,g2⟩:=List.getElem_of_mem hm
  have g1':i<ms.length:=g1
  exact met_wf hp (show i<10 by omega) (h5 i m (by rw [List.getElem?_eq_getElem g1'];exact congrArg some g2))
 ·refine ⟨(show (1:Nat)≤7 by decide),(show (7:Nat)≤7 by decide),NameT.ofB (t:=[87]) (by decide),fun e=>(by rcases e with e | e <;> cases e),fun e=>(by cases e),fun _=>NameT.ofB (by decide),fun f hf=>(by cases hf),fun f hf=>(by cases hf),fun m hm=>?_⟩
  rw [List.mem_singleton.1 hm]
  exact ⟨tw0_p1 (name_w (NameT.ofB (by decide))),NameT.ofB (by decide),fun f hf=>(by cases hf),fun f hf=>(by cases hf)⟩
theorem files_wf {fls:List Fil} (h:PFiles fls):∀ f ∈ fls,wfFil tw0 f:=by
 intro f hf
 rcases h with ⟨d1,d2,rfl,h1,h2⟩ | ⟨d1,d2,rfl,h1,h2⟩
 ·rcases List.mem_cons.1 hf with rfl | hf
  ·refine ⟨fun s hs=>?_,fun s hs=>?_,rest_wf (.inr rfl) h1⟩
   ·rw [List.mem_singleton.1 hs];decide
   ·rw [List.mem_singleton.1 hs];exact ⟨fun _=>NameT.ofB (by decide),NameT.ofB (by decide)⟩
  ·rw [List.mem_singleton.1 hf]
   exact ⟨fun s hs=>(by cases hs),fun s hs=>(by cases hs),base_wf h2⟩
 ·rw [List.mem_singleton.1 hf]
  exact ⟨fun s hs=>(by cases hs),fun s hs=>(by cases hs),fun d hd=>(List.mem_append.1 hd).elim (base_wf h1 d) (rest_wf (.inl rfl) h2 d)⟩
end Go.Proofs.YteclejplbphkpaaGreat
namespace Go.Proofs.YteclejplbphkpaaGreat
theorem Good.split_ {L:List UInt8}:∀ {o:Nat} {ts:List TokV},Good L o ts→∃ ws x,ts=ws++[x]∧x.k=6∧∀ w ∈ ws,w.k≠6
 | _,[],h=>h.elim
 | _,[x],h=>⟨[],x,rfl,h.1,by simp⟩
 | _,x :: y :: r,h=>by
  obtain ⟨ws,z,e,h1,h2⟩:=Good.split_ h.2.2.2.2
  refine ⟨x :: ws,z,by rw [e];rfl,h1,fun w hw=>?_⟩
  rcases List.mem_cons.1 hw with rfl | hw
  ·exact h.1
  ·exact h2 w hw
def agnF (sh:Nat→List UInt8) (g:Nat→Nat):List TokV→Nat→List UInt8
 | [],_=>[]
 | x :: r,k=>gap6 (g k)++(wordT sh (bare x)++agnF sh g r (k+1))
theorem agnF_snoc (sh:Nat→List UInt8) (g:Nat→Nat):∀ (l:List TokV) (x:TokV) (k:Nat),agnF sh g (l++[x]) k=agnF sh g l k++gap6 (g (k+l.length))++wordT sh (bare x)
 | [],x,k=>by simp [agnF]
 | y :: l,x,k=>by
  have h:=agnF_snoc sh g l x (k+1)
  rw [List.cons_append]
  unfold agnF
  rw [h]
  simp [Nat.add_assoc,Nat.add_comm 1]
theorem agnF_step (sh:Nat→List UInt8) (g:Nat→Nat) (l:List TokV) (i:Nat) (hi:i<l.length):agnF sh g (l.take (i+1)) 0=agnF sh g (l.take i) 0++gap6 (g i)++wordT sh (bare l[i]):=by
 rw [List.take_add_one,List.getElem?_eq_getElem hi]
 show agnF sh g (l.take i++[l[i]]) 0=_
 rw [agnF_snoc,List.length_take,Nat.zero_add,Nat.min_eq_left (by omega)]
theorem agnF_lxs {sh:Nat→List UInt8} (g:Nat→Nat) (x:TokV) (hx:bare x=(6,[],0,0)):∀ (ws:List TokV) (k:Nat),(∀ w ∈ ws,Wd (bare w) (wordT sh (bare w)))→Lxs (agnF sh g (ws++[x]) k) (ws.map bare)
 | [],k,_=>by
  show Lxs (gap6 (g k)++(wordT sh (bare x)++[])) []
  rw [hx,show wordT sh (6,[],0,0)=[] from rfl,List.append_nil,List.append_nil]
  exact Lxs.end_ (Sk.gap6_ _)
 | w :: ws,k,h=>by
  show Lxs (gap6 (g k)++(wordT sh (bare w)++agnF sh g (ws++[x]) (k+1))) (bare w :: ws.map bare)
  refine Lxs.cons (Sk.gap6_ _) (h w (by simp)) ?_ (agnF_lxs g x hx ws (k+1) (fun v hv=>h v (by simp [hv])))
  cases ws with
  | nil=>exact gap6_bd _ _
  | cons v ws=>exact gap6_bd _ _
def ShowOk (sh:Nat→List UInt8):Prop:=∀ B,B<18446744073709551616→B % 9223372036854775808<LIM→ShowR B (sh B)∧parseS (sh B)=(B,0)
theorem words_back {sh:Nat→List UInt8} (hs:ShowOk sh) (g:Nat→Nat) {L:List UInt8} (h:(lexS L).2.1=0) (hl:(agnF sh g (lexS L).1 0).length≤2000) :
  ∃ ts,lexS (agnF sh g (lexS L).1 0)=(ts,0,0)∧ts.map bare=(lexS L).1.map bare:=by
 have hok:=lex_tok_ok L h
 obtain ⟨ws,x,e,h6,hn⟩:=((lex_places L).1 h).split_
 rw [e] at hok hl ⊢
 have hx:bare x=(6,[],0,0):=by
  have h1:=hok x (by simp)
  have hk:(bare x).1=6:=h6
  generalize bare x=v at h1 hk ⊢
  cases h1 <;> first | rfl | (exact absurd hk (by intro e;cases e))
 have hw:∀ w ∈ ws,Wd (bare w) (wordT sh (bare w)):=fun w hw=>(hok w (by simp [hw])).wd hs (hn w hw)
 obtain ⟨ts,h1,h2⟩:=(agnF_lxs g x hx ws 0 hw).lex hl
 exact ⟨ts,h1,by rw [h2,List.map_append,← hx];rfl⟩
theorem bare_at {a b:List TokV} (h:a.map bare=b.map bare):a.length=b.length∧∀ i (h1:i<a.length) (h2:i<b.length),a[i].k=b[i].k∧a[i].t=b[i].t∧a[i].n=b[i].n∧a[i].d=b[i].d:=by
 refine ⟨by simpa using congrArg List.length h,fun i h1 h2=>?_⟩
 have:=congrArg (fun l=>l[i]?) h
 simp only [List.getElem?_map,List.getElem?_eq_getElem h1,List.getElem?_eq_getElem h2,Option.map_some] at this
 have h3:bare a[i]=bare b[i]:=Option.some.inj this
 unfold bare at h3
 exact ⟨congrArg (·.1) h3,congrArg (·.2.1) h3,congrArg (·.2.2.1) h3,congrArg (·.2.2.2) h3⟩
end Go.Proofs.YteclejplbphkpaaGreat
namespace Go.Proofs.YteclejplbphkpaaGreat
open Go.RowKit
open Go.Sort
def Tab (w : World) : Prop := Lib.TabIs Tryz.prog w "internal/strconv.uint64pow10" .u64 Lib.pow10Tab
theorem Nx.grown {w w1:World} (k:Nat) (os:Array Obj) (h:w1=grow (w.drewN k) os):Nx w w1:=by
 subst h
 refine ⟨rfl,rfl,rfl,?_,fun i hi=>?_⟩
 ·simp [grow,World.drewN]
 ·simp [grow,World.drewN]
  rw [Array.getElem?_append_left hi]
end Go.Proofs.YteclejplbphkpaaGreat
namespace Go.Proofs.YteclejplbphkpaaGreat
open Go.RowKit
theorem Tab.nx {w w':World} (h:Tab w) (hb:Nx w w'):Tab w':=by
 unfold Tab Lib.TabIs at *
 unfold World.var? at *
 cases hg : Tryz.prog.globalNamed "internal/strconv.uint64pow10" with
 | none=>rw [hg] at h;cases h
 | some g =>
  rw [hg] at h
  simp only [Option.bind_some] at h ⊢
  rcases Nat.lt_or_ge g w.heap.size with h1 | h1
  ·rw [hb.block g h1];exact h
  ·rw [Array.getElem?_eq_none h1] at h;cases h
end Go.Proofs.YteclejplbphkpaaGreat
namespace Go.Proofs.YteclejplbphkpaaGreat
open Go.RowKit
end Go.Proofs.YteclejplbphkpaaGreat
namespace Go.Proofs.YteclejplbphkpaaGreat
open Go.RowKit
end Go.Proofs.YteclejplbphkpaaGreat
namespace Go.Proofs.YteclejplbphkpaaGreat
open Go.RowKit
theorem digit_is (n:Nat):isDig (UInt8.ofNat (48+n % 10))=true∧digV (UInt8.ofNat (48+n % 10))=n % 10:=by
 have h:(UInt8.ofNat (48+n % 10)).toNat=48+n % 10:=by
  have:(UInt8.ofNat (48+n % 10)).toNat=(48+n % 10) % 256:=by simp
  omega
 unfold isDig digV
 rw [h]
 constructor
 ·simp;omega
 ·omega
theorem decS_digs (n:Nat):digs (decS n):=by
 induction n using Nat.strongRecOn with
 | _ n ih =>
  by_cases h:n<10
  ·rw [decS_small n h]
   intro c hc
   rw [List.mem_singleton.1 hc];exact (digit_is n).1
  ·rw [decS_step n (by omega)]
   intro c hc
   rcases List.mem_append.1 hc with h1 | h1
   ·exact ih (n / 10) (by omega) c h1
   ·rw [List.mem_singleton.1 h1];exact (digit_is n).1
theorem valS_decS (n:Nat):valS (decS n)=n:=by
 induction n using Nat.strongRecOn with
 | _ n ih =>
  by_cases h:n<10
  ·rw [decS_small n h]
   show 10 * 0+digV _=n
   rw [(digit_is n).2];omega
  ·rw [decS_step n (by omega),valS_snoc,ih (n / 10) (by omega),(digit_is n).2];omega
theorem decS_ne (n:Nat):decS n≠[]:=by
 intro h;have:=decS_pos n;rw [h] at this;simp at this
theorem bigF_val (l:List UInt8) (hd:digs l):∀ v,v * 10 ^ l.length+valS l≤100000→bigF l v=v * 10 ^ l.length+valS l:=by
 induction l with
 | nil=>intro v _;simp [bigF,valS]
 | cons c l ih =>
  intro v h
  have hc:valS (c :: l)=digV c * 10 ^ l.length+valS l:=by
   have gen:∀ (l:List UInt8) (a:Nat),l.foldl (fun x c=>10 * x+digV c) a=a * 10 ^ l.length+valS l:=by
    intro l
    induction l with
    | nil=>intro a;simp [valS]
    | cons d l ih2 =>
     intro a
     unfold valS
     simp only [List.foldl_cons,List.length_cons]
     rw [ih2,ih2 (10 * 0+digV d),Nat.pow_succ,Nat.add_mul]
     have:10 * a * 10 ^ l.length=a * (10 ^ l.length * 10):=by rw [Nat.mul_comm 10 a,Nat.mul_assoc,Nat.mul_comm 10]
     rw [this]
     simp [Nat.add_assoc]
   show (l.foldl (fun x c=>10 * x+digV c) (10 * 0+digV c))=_
   rw [gen]
   simp
  rw [hc,List.length_cons,Nat.pow_succ] at h
  have e1:v * (10 ^ l.length * 10)=v * 10 * 10 ^ l.length:=by rw [Nat.mul_comm (10 ^ l.length),← Nat.mul_assoc]
  rw [e1] at h
  have hp:1≤10 ^ l.length:=Nat.pow_pos (by decide)
  have h1:v * 10+digV c≤(v * 10+digV c) * 10 ^ l.length:=Nat.le_mul_of_pos_right _ hp
  rw [Nat.add_mul] at h1
  unfold bigF
  rw [Nat.min_eq_left (by omega),ih (fun d hm=>hd d (List.mem_cons_of_mem _ hm)) _ (by rw [Nat.add_mul];omega),hc,List.length_cons,Nat.pow_succ,e1,Nat.add_mul,Nat.add_assoc]
def Sfx (s:List UInt8) (v:Int):Prop:=expS s=some (v,false)∧(s=[]∨∃ c t,s=c :: t∧isDig c=false∧c≠46)
theorem Sfx.nil:Sfx [] 0:=⟨rfl,.inl rfl⟩
theorem signS_dig (c:UInt8) (l:List UInt8) (h:isDig c=true):signS (c :: l)=(false,c :: l):=by
 have:=(isDig_iff c).1 h
 have h1:¬ c.toNat=43:=by omega
 have h2:¬ c.toNat=45:=by omega
 simp [signS,h1,h2]
theorem signS_decS (m:Nat) (l:List UInt8):signS (decS m++l)=(false,decS m++l):=by
 cases h:decS m with
 | nil=>exact absurd h (decS_ne m)
 | cons c t=>exact signS_dig c _ (decS_digs m c (by rw [h];exact List.mem_cons_self ..))
theorem expS_letter (c:UInt8) (l:List UInt8) (hc:c=101∨c=69) (neg:Bool) (m:Nat) (hm:m≤400) (h:signS l=(neg,decS m)):Sfx (c :: l) (if neg then -(m:Int) else (m:Int)):=by
 refine ⟨?_,.inr ⟨c,l,rfl,by rcases hc with rfl | rfl <;> decide,by rcases hc with rfl | rfl <;> decide⟩⟩
 have he:c.toNat=101∨c.toNat=69:=by rcases hc with rfl | rfl <;> decide
 have hv:=bigF_val (decS m) (decS_digs m) 0 (by rw [valS_decS];omega)
 rw [valS_decS,Nat.zero_mul,Nat.zero_add] at hv
 simp only [expS,if_pos he,h,if_neg (decS_ne m),expDigits_all _ (decS_digs m),hv]
 simp;omega
theorem Sfx.ten (k:Int) (h1 : -400≤k) (h2:k≤400):Sfx (101 :: tenS k) k:=by
 unfold tenS
 split
 ·rename_i h
  have:=expS_letter 101 (45 :: decS (-k).toNat) (.inl rfl) true (-k).toNat (by omega) rfl
  rw [if_pos rfl,show -(((-k).toNat:Nat):Int)=k from by omega] at this
  exact this
 ·rename_i h
  have hs:=signS_decS k.toNat []
  rw [List.append_nil] at hs
  have:=expS_letter 101 (decS k.toNat) (.inl rfl) false k.toNat (by omega) hs
  rw [if_neg (by decide),show ((k.toNat:Nat):Int)=k from by omega] at this
  exact this
theorem parse_main (sg:List UInt8) (neg:Bool) (hsg:sg=[]∧neg=false∨sg=[43]∧neg=false∨sg=[45]∧neg=true) (W F D:List UInt8) (hW:digs W) (hF:digs F)
  (hD:(D=[]∧W≠[]∧F=[])∨(D=46 :: F∧F≠[])) (hlen:W.length+F.length≤60) (sfx:List UInt8) (v:Int) (hs:Sfx sfx v) :
  parseS (sg++(W++(D++sfx)))=if numS (valS (W++F)) (v - F.length)<LIM then ((if neg then 9223372036854775808 else 0)+numS (valS (W++F)) (v - F.length),0) else (0,5):=by
 have hsgn:signS (sg++(W++(D++sfx)))=(neg,W++(D++sfx)):=by
  rcases hsg with ⟨rfl,rfl⟩ | ⟨rfl,rfl⟩ | ⟨rfl,rfl⟩
  ·rw [List.nil_append]
   cases W with
   | nil =>
    rcases hD with ⟨_,h,_⟩ | ⟨rfl,_⟩
    ·exact absurd rfl h
    ·rfl
   | cons c t=>exact signS_dig c _ (hW c (List.mem_cons_self ..))
  ·rfl
  ·rfl
 have hscan:scanS false (W++(D++sfx))=(W++F,F.length,!D.isEmpty,sfx):=by
  rw [scan_false]
  rcases hD with ⟨rfl,hw,rfl⟩ | ⟨rfl,hf⟩
  ·rw [List.nil_append]
   have h1:spanD (W++sfx)=(W,sfx):=spanD_is W sfx hW (by
    rcases hs.2 with h | ⟨c,t,h,h2,_⟩
    ·exact .inl h
    ·exact .inr ⟨c,t,h,h2⟩)
   rw [h1]
   have h2:stopS sfx=(false,sfx):=by
    rcases hs.2 with rfl | ⟨c,t,rfl,_,h3⟩
    ·rfl
    ·simp [stopS,h3]
   rw [h2]
   simp
  ·have h1:spanD (W++(46 :: F++sfx))=(W,46 :: F++sfx):=spanD_is W _ hW (.inr ⟨46,F++sfx,rfl,by decide⟩)
   rw [h1]
   have h2:stopS (46 :: F++sfx)=(true,F++sfx):=rfl
   rw [h2]
   have h3:spanD (F++sfx)=(F,sfx):=spanD_is F sfx hF (by
    rcases hs.2 with h | ⟨c,t,h,h2,_⟩
    ·exact .inl h
    ·exact .inr ⟨c,t,h,h2⟩)
   simp [h3]
 have hp:∀ l,parseS l=(if (scanS false (signS l).2).1=[]∨(scanS false (signS l).2).2.2.1=true∧(scanS false (signS l).2).2.1=0 then (0,2)
  else match expS (scanS false (signS l).2).2.2.2 with
  | none=>(0,2)
  | some (v,big) =>
   if 60<(scanS false (signS l).2).1.length then (0,4)
   else if big then (0,5)
   else if numS (valS (scanS false (signS l).2).1) (v - (scanS false (signS l).2).2.1)<LIM then ((if (signS l).1 then 9223372036854775808 else 0)+numS (valS (scanS false (signS l).2).1) (v - (scanS false (signS l).2).2.1),0)
   else (0,5)):=fun _=>rfl
 rw [hp,hsgn]
 dsimp only
 rw [hscan]
 dsimp only
 have hne:¬ (W++F=[]∨(!D.isEmpty)=true∧F.length=0):=by
  rcases hD with ⟨rfl,hw,rfl⟩ | ⟨rfl,hf⟩
  ·simp;exact hw
  ·simp;exact ⟨fun _=>hf,hf⟩
 rw [if_neg hne,hs.1]
 dsimp only
 rw [if_neg (by rw [List.length_append];omega),if_neg (by decide)]
theorem decS_len' (n k:Nat) (h:n<10 ^ k) (hk:1≤k):(decS n).length≤k:=by
 obtain ⟨j,rfl⟩:∃ j,k=j+1:=⟨k - 1,by omega⟩
 exact decS_len j n h
end Go.Proofs.YteclejplbphkpaaGreat
namespace Go.Proofs.YteclejplbphkpaaGreat
open Go.RowKit
theorem valS_gen (l:List UInt8):∀ a:Nat,l.foldl (fun x c=>10 * x+digV c) a=a * 10 ^ l.length+valS l:=by
 induction l with
 | nil=>intro a;simp [valS]
 | cons d l ih2 =>
  intro a
  unfold valS
  simp only [List.foldl_cons,List.length_cons]
  rw [ih2,ih2 (10 * 0+digV d),Nat.pow_succ,Nat.add_mul]
  have:10 * a * 10 ^ l.length=a * (10 ^ l.length * 10):=by rw [Nat.mul_comm 10 a,Nat.mul_assoc,Nat.mul_comm 10]
  rw [this]
  simp [Nat.add_assoc]
theorem valS_app (a b:List UInt8):valS (a++b)=valS a * 10 ^ b.length+valS b:=by
 rw [← valS_gen]
 unfold valS
 rw [List.foldl_append]
end Go.Proofs.YteclejplbphkpaaGreat
