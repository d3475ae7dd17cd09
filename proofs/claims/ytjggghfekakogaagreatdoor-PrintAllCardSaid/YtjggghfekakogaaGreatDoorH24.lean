/- The document's printer: a method. How definitions and files are printed: as functions. Plain. What the code's printer is asked for, and how it puts constants one behind the other. Plain. The contract of dec.Show: the digits that are shown. The contract of dec.Show. A region that draws its order: an invariant over what has been carried out and the values so far. Plain lemmas over any program. -/
import Derived.Test.YtjggghfekakogaaGreatDoorH23
import Derived.Test.YtjggghfekakogaaGreatDoorH18
import Derived.Laws.Bits64b
import Derived.Test.YtjggghfekakogaaGreatDoorH14
set_option linter.unusedVariables false
set_option linter.unusedSimpArgs false
set_option linter.unnecessarySimpa false
namespace Go.Proofs.YtjggghfekakogaaGreatDoor
open Go.RowKit
def oneF (b:Bool):List UInt8:=if b then [32,32,111,110,101,119,97,121,32] else [32,32]
def methodF (tn:Int→List UInt8) (sh:Nat→List UInt8) (m:Met):List UInt8 :=
 ((((((oneF m.one++m.ret)++[32])++m.nm)++[40])++fieldsF tn sh m.args)++[41])++(if 0<m.thr.length then ([32,116,104,114,111,119,115,32,40]++fieldsF tn sh m.thr)++[41] else [])++[44,10]
def okM (m:Met):Prop:=(m.args.length≤100000∧∀ y ∈ m.args,okF y)∧m.thr.length≤100000∧∀ y ∈ m.thr,okF y
theorem LF.keep {P Q:Nat→Prop} {w w':World} {x:Value} {c:List Fld} (h:LF w P x c) (hk:∀ g,P g→g<w.heap.size→w'.heap[g]? = w.heap[g]?) (hq:∀ g,P g→g<w.heap.size→Q g):LF w' Q x c:=LF.lasts ⟨hk,hq⟩ h
set_option maxRecDepth 100000 in
set_option maxHeartbeats 6400000 in
theorem docMethod_any {tn:Int→List UInt8} {sh:Nat→List UInt8} (hN:PrN tn sh) (w:World) (P:Nat→Prop) (x:MetS) (m:Met) (hr:RM w P x m) (hok:okM m)
  (hlen:((methodF tn sh m).length:Int)≤1000000000) :
  Calls Tryz.prog 90 #[.agg (metA x)] w fun e w'=>e = .returned (.string ⟨(methodF tn sh m).toArray⟩)∧Nx w w':=by
 obtain ⟨xn,xo,xr,xa,xt⟩:=x
 obtain ⟨mn,mo,mr,ma,mt⟩:=m
 obtain ⟨h1,h2,h3,hra,hrt⟩:=hr
 dsimp only at h1 h2 h3 hra hrt
 subst h1 h2 h3
 obtain ⟨⟨hal,hoka⟩,htl,hokt⟩:=hok
 dsimp only at hal hoka htl hokt
 have hrt':=hrt
 obtain ⟨tA,tc,-,rfl,-,-,-,-,-⟩:=hrt'.sl fldA_size
 obtain ⟨F,hF⟩:∃ F,Hid (methodF tn sh ⟨xn,xo,xr,ma,mt⟩=F):=⟨_,Lib.hid rfl⟩
 rw [hF.out] at hlen ⊢
 have hFe:=hF.out
 unfold methodF at hFe
 dsimp only at hFe
 obtain ⟨E1,hE1⟩:∃ E,Hid (fieldsF tn sh ma=E):=⟨_,Lib.hid rfl⟩
 obtain ⟨E2,hE2⟩:∃ E,Hid (fieldsF tn sh mt=E):=⟨_,Lib.hid rfl⟩
 rw [hE1.out,hE2.out] at hFe
 have hcall1:(E1.length:Int)≤1000000000→∀ wx,Nx w wx→Calls Tryz.prog 145 #[xa] wx fun e w'=>e = .returned (.string ⟨E1.toArray⟩)∧Nx wx w':=fun hl wx hx=>by
  have:=docFields_any hN wx P xa ma (hra.keep (fun g' _ hl=>hx.block g' hl) (fun g' h _=>h)) hal hoka (by rw [hE1.out];exact hl)
  rw [hE1.out] at this
  exact this
 have hcall2:(E2.length:Int)≤1000000000→∀ wx,Nx w wx→Calls Tryz.prog 145 #[.slice tA mt.length tc] wx fun e w'=>e = .returned (.string ⟨E2.toArray⟩)∧Nx wx w':=fun hl wx hx=>by
  have:=docFields_any hN wx P _ mt (hrt.keep (fun g' _ hl=>hx.block g' hl) (fun g' h _=>h)) htl hokt (by rw [hE2.out];exact hl)
  rw [hE2.out] at this
  exact this
 have hsz0:(oneF xo).length+xr.length+1+xn.length+1+E1.length+1+(if 0<mt.length then 9+E2.length+1 else 0)+2≤1000000000:=by
  have h:=congrArg List.length hFe
  split
  ·rename_i hp
   rw [if_pos hp] at h
   simp only [List.length_append,List.length_cons,List.length_nil] at h
   omega
  ·rename_i hp
   rw [if_neg hp] at h
   simp only [List.length_append,List.length_cons,List.length_nil] at h
   omega
 have HC1:=Lib.hid hcall1
 have HC2:=Lib.hid hcall2
 have HF:=Lib.hid hFe
 have HSZ0:=Lib.hid hsz0
 obtain ⟨g,hg⟩:∃ g,w.heap.size=g:=⟨_,rfl⟩
 have hB:=Blk.new w #[.string ⟨xn.toArray⟩,.bool xo,.string ⟨xr.toArray⟩,xa,.slice tA mt.length tc] 61
 rw [hg] at hB
 have hn0:Nx w (w.alloc (.cells #[.string ⟨xn.toArray⟩,.bool xo,.string ⟨xr.toArray⟩,xa,.slice tA mt.length tc] 61)):=nx0 _ _
 have HB:=Lib.hid hB
 have HN0:=Lib.hid hn0
 clear hra hrt hrt' hoka hokt hcall1 hcall2 hFe hlen hN hB hn0 hsz0
 show Calls _ _ #[.agg #[.string ⟨xn.toArray⟩,.bool xo,.string ⟨xr.toArray⟩,xa,.slice tA mt.length tc]] _ _
 go_enter Tryz.func90,Tryz.ntmps90
 go_upto_region 2 with fail
 generalize World.alloc w _=W at *
 have c1:W.cell? ⟨g,1,none⟩=some (.bool xo):=HB.out.cell 1
 clear hg
 go_upto_if 5 with fail
 go_cut [3] (fun v wx=>∃ S1:ByteArray,v = .string S1∧Hid (Tx S1 (oneF xo))∧W=wx)
 case first =>
  by_cases hb:xo=true
  ·subst hb
   go_wp2_with fail
   go_meet
   case rel=>exact ⟨_,rfl,(rfl:Tx ⟨#[32,32,111,110,101,119,97,121,32]⟩ [32,32,111,110,101,119,97,121,32]),rfl⟩
  ·obtain rfl:xo=false:=by simpa using hb
   clear hb
   go_wp2_with fail
   go_meet
   case rel=>exact ⟨_,rfl,(rfl:Tx ⟨#[32,32]⟩ [32,32]),rfl⟩
 case rest =>
 obtain ⟨S1,rfl,HS1,rfl⟩:=hcut
 have hSZ:S1.size+xr.length+1+xn.length+1+E1.length+1+(if 0<mt.length then 9+E2.length+1 else 0)+2≤1000000000:=by
  have:=HSZ0.out
  rw [HS1.out.size]
  exact this
 have HSZ:=Lib.hid hSZ
 have y1:¬ 9223372036854775807<S1.size+xr.length:=by omega
 have y2:¬ 9223372036854775807<S1.size+xr.length+1:=by omega
 have y3:¬ 9223372036854775807<S1.size+xr.length+1+xn.length:=by omega
 have y4:¬ 9223372036854775807<S1.size+xr.length+1+xn.length+1:=by omega
 have y5:¬ 9223372036854775807<S1.size+xr.length+1+xn.length+1+E1.length:=by omega
 have y6:¬ 9223372036854775807<S1.size+xr.length+1+xn.length+1+E1.length+1:=by omega
 have hEl1:(E1.length:Int)≤1000000000:=by omega
 have k0:∀ x:Gr W,x.1.cell? ⟨g,0,none⟩=some (.string ⟨xn.toArray⟩):=fun x=>(HB.out.below x.2).cell 0
 have k2:∀ x:Gr W,x.1.cell? ⟨g,2,none⟩=some (.string ⟨xr.toArray⟩):=fun x=>(HB.out.below x.2).cell 2
 have k3:∀ x:Gr W,x.1.cell? ⟨g,3,none⟩=some xa:=fun x=>(HB.out.below x.2).cell 3
 clear hSZ
 go_wp2_with fail
 refine wp_region_hyb [(0,true),(1,true),(2,true),(3,true),(4,true),(5,true),(6,true),(7,true),(8,true),(9,true),(10,true),(11,false),(12,true),(13,true),(14,true)] (by kernel_rfl) (by kernel_rfl) ?_
 iterate 11 (refine hyb_calm rfl (fun K hK=>?_);go_simp;refine hK _ ?_;clear hK K)
 refine hyb_alone rfl (fun w4 hn4 K hK=>?_)
 go_simp
 refine (HC1.out hEl1 w4 (HN0.out.trans hn4)).mono ?_;rintro e w5 ⟨rfl,hn5⟩
 refine hK _ _ hn5 ?_
 clear hK K
 iterate 3 (refine hyb_calm rfl (fun K hK=>?_);go_simp;refine hK _ ?_;clear hK K)
 refine hyb_nil (fun w8 hn8=>?_)
 have HNN:=Lib.hid ((hn4.trans hn5).trans hn8)
 clear hn4 hn5 hn8 k0 k2 k3 y1 y2 y3 y4 y5 y6
 obtain ⟨T,hT⟩:∃ T:ByteArray,((((((S1++⟨xr.toArray⟩)++⟨#[32]⟩)++⟨xn.toArray⟩)++⟨#[40]⟩)++⟨E1.toArray⟩)++⟨#[41]⟩)=T:=⟨_,rfl⟩
 have HT:Hid (Tx T ((((((oneF xo++xr)++[32])++xn)++[40])++E1)++[41])):=by
  rw [← hT]
  exact (((((HS1.out.cat (Tx.of xr)).cat (Tx.of [32])).cat (Tx.of xn)).cat (Tx.of [40])).cat (Tx.of E1)).cat (Tx.of [41])
 simp only [hT]
 clear hT
 have hTs:T.size+(if 0<mt.length then 9+E2.length+1 else 0)+2≤1000000000:=by
  have h1:=HSZ.out
  have h2:=HT.out.size
  have h3:=HS1.out.size
  simp only [List.length_append,List.length_cons,List.length_nil] at h2
  omega
 have c4:w8.cell? ⟨g,4,none⟩=some (.slice tA mt.length tc):=(HB.out.below HNN.out).cell 4
 by_cases hp:0<mt.length
 ·have q1:decide ((0:Int)<(mt.length:Int))=true:=decide_eq_true (by omega)
  have q2:(0:Int)<(mt.length:Int):=by omega
  rw [if_pos hp] at hTs
  have hEl2:(E2.length:Int)≤1000000000:=by omega
  have hze:((⟨E2.toArray⟩:ByteArray).size)=E2.length:=(Tx.of E2).size
  have HR:Hid ((((T++⟨#[32,116,104,114,111,119,115,32,40]⟩)++⟨E2.toArray⟩)++⟨#[41]⟩)++⟨#[44,10]⟩=⟨F.toArray⟩):=by
   have h:=((((HT.out.cat (Tx.of [32,116,104,114,111,119,115,32,40])).cat (Tx.of E2)).cat (Tx.of [41])).cat (Tx.of [44,10])).eq
   have hf:=HF.out
   rw [if_pos hp] at hf
   unfold Hid
   rw [← hf]
   refine h.trans ?_
   simp only [List.append_assoc]
  go_wp2_with fail
  refine (HC2.out hEl2 w8 (HN0.out.trans HNN.out)).mono ?_;rintro e w9 ⟨rfl,hn9⟩
  go_wp2_with fail
  go_ret
  exact ⟨by first | rfl | (rw [HR.out];rfl),(HN0.out.trans HNN.out).trans hn9⟩
 ·have q1:decide ((0:Int)<(mt.length:Int))=false:=decide_eq_false (by omega)
  rw [if_neg hp] at hTs
  have HR:Hid (T++⟨#[44,10]⟩=⟨F.toArray⟩):=by
   have h:=(HT.out.cat (Tx.of [44,10])).eq
   have hf:=HF.out
   rw [if_neg hp] at hf
   unfold Hid
   rw [← hf]
   refine h.trans ?_
   simp only [List.append_assoc,List.nil_append]
  go_wp2_with fail
  go_ret
  exact ⟨by first | rfl | (rw [HR.out];rfl),HN0.out.trans HNN.out⟩
end Go.Proofs.YtjggghfekakogaaGreatDoor
namespace Go.Proofs.YtjggghfekakogaaGreatDoor
theorem flat_step {α:Type} (f:α→List UInt8) (l:List α) (i:Nat) (h:i<l.length):(l.take (i+1)).flatMap f=(l.take i).flatMap f++f l[i]∧((l.take (i+1)).flatMap f).length≤(l.flatMap f).length:=by
 refine ⟨?_,?_⟩
 ·rw [← List.take_append_getElem h,List.flatMap_append]
  simp
 ·have:(l.flatMap f)=(l.take (i+1)).flatMap f++(l.drop (i+1)).flatMap f:=by rw [← List.flatMap_append,List.take_append_drop]
  rw [this,List.length_append]
  omega
section
variable (tn:Int→List UInt8) (sh:Nat→List UInt8)
def wordD:Nat→List UInt8
 | 1=>[116,121,112,101,100,101,102,32]
 | 2=>[101,110,117,109,32]
 | 3=>[99,111,110,115,116,32]
 | 4=>[115,116,114,117,99,116,32]
 | 5=>[117,110,105,111,110,32]
 | 6=>[101,120,99,101,112,116,105,111,110,32]
 | 7=>[115,101,114,118,105,99,101,32]
 | _=>[]
def memF (m:Mem):List UInt8:=((([32,32]++m.nm)++(if m.has then [32,61,32]++tn m.n else []))++[44,10])
def fldL (f:Fld):List UInt8:=([32,32]++fieldF tn sh f)++[44,10]
def defF (d:Dfn):List UInt8 :=
 if d.k=1 then (((wordD 1++d.ty)++[32])++d.nm)++[10]
 else if d.k=3 then (((((wordD 3++d.ty)++[32])++d.nm)++[32,61,32])++constF tn sh 13 d.ini)++[10]
 else ((((((wordD d.k++d.nm)++(if d.ext=[] then [] else [32,101,120,116,101,110,100,115,32]++d.ext))++[32,123,10])++d.mems.flatMap (memF tn))++d.fields.flatMap (fldL tn sh))++d.mets.flatMap (methodF tn sh))++[125,10]
def incF (s:List UInt8):List UInt8:=([105,110,99,108,117,100,101,32,34]++s)++[34,10]
def spcF (s:Spc):List UInt8:=((([110,97,109,101,115,112,97,99,101,32]++s.scope)++[32])++s.nm)++[10]
def printF (f:Fil):List UInt8:=(f.incs.flatMap incF++f.spaces.flatMap spcF)++f.defs.flatMap (defF tn sh)
end
def okD (d:Dfn):Prop:=d.k≤7∧okC 13 d.ini∧(d.fields.length≤100000∧∀ y ∈ d.fields,okF y)∧(d.mems.length≤100000∧∀ y ∈ d.mems,-9223372036854775808≤y.n∧y.n≤9223372036854775807)∧d.mets.length≤100000∧∀ y ∈ d.mets,okM y
def okFil (f:Fil):Prop:=f.incs.length≤100000∧f.spaces.length≤100000∧f.defs.length≤100000∧∀ y ∈ f.defs,okD y
end Go.Proofs.YtjggghfekakogaaGreatDoor
namespace Go.Proofs.YtjggghfekakogaaGreatDoor
def prC:Nat→Con→Prop
 | 0,_=>False
 | n+1,.mk k i d s l=>(1≤k∧k≤6)∧(k=6→l.length % 2=0)∧(-9223372036854775808≤i∧i≤9223372036854775807)∧d<18446744073709551616∧l.length≤100000∧∀ y ∈ l,prC n y
def sepF (sg:List UInt8) (i:Nat):List UInt8:=if i % 2=1 then sg else if 0<i then [44,32] else []
def innF (sg:List UInt8) (ts:List (List UInt8)):Nat→List UInt8
 | 0=>[]
 | i+1=>innF sg ts i++sepF sg i++ts.getD i []
theorem innF_list (ts:List (List UInt8)):∀ i,i≤ts.length→innF [44,32] ts i=commaF (ts.take i)
 | 0,_=>rfl
 | i+1,h=>by
  have h1:=(commaF_step ts i (by omega)).1
  rw [h1,← innF_list ts i (by omega)]
  show innF [44,32] ts i++sepF [44,32] i++ts.getD i []=_
  rw [List.getD_eq_getElem?_getD,List.getElem?_eq_getElem (show i<ts.length by omega)]
  unfold sepF
  by_cases h0:i=0
  ·subst h0;simp
  ·rw [if_neg h0,if_pos (show 0<i by omega)];simp
theorem innF_map (ts:List (List UInt8)):∀ m,2 * m≤ts.length→innF [58,32] ts (2 * m)=commaF (pairsF (ts.take (2 * m)))
 | 0,_=>by simp [innF,pairsF,commaF]
 | m+1,h=>by
  have h1:=(pairsF_step ts (2 * m) m rfl (by omega) (by omega)).1
  rw [show 2 * (m+1)=2 * m+2 by omega,h1,← innF_map ts m (by omega)]
  show innF [58,32] ts (2 * m)++sepF [58,32] (2 * m)++ts.getD (2 * m) []++sepF [58,32] (2 * m+1)++ts.getD (2 * m+1) []=_
  rw [List.getD_eq_getElem?_getD,List.getElem?_eq_getElem (show 2 * m<ts.length by omega),List.getD_eq_getElem?_getD,List.getElem?_eq_getElem (show 2 * m+1<ts.length by omega)]
  unfold sepF
  rw [if_neg (show ¬ 2 * m % 2=1 by omega),if_pos (show (2 * m+1) % 2=1 by omega)]
  by_cases h0:m=0
  ·subst h0;simp
  ·rw [if_pos (show 0<2 * m by omega),if_neg (show ¬ 2 * m=0 by omega)];simp
theorem innF_len (sg:List UInt8) (ts:List (List UInt8)) (i j:Nat) (h:i≤j):(innF sg ts i).length≤(innF sg ts j).length:=by
 induction j with
 | zero=>rw [show i=0 by omega];exact Nat.le_refl _
 | succ j ih =>
  by_cases he:i=j+1
  ·rw [he];exact Nat.le_refl _
  ·refine Nat.le_trans (ih (by omega)) ?_
   show _≤(innF sg ts j++sepF sg j++ts.getD j []).length
   rw [List.length_append,List.length_append];omega
theorem innF_step (sg:List UInt8) (ts:List (List UInt8)) (i:Nat) (h:i<ts.length):innF sg ts (i+1)=innF sg ts i++sepF sg i++ts[i]∧(innF sg ts i).length+(sepF sg i).length+(ts[i]).length≤(innF sg ts ts.length).length:=by
 have h1:innF sg ts (i+1)=innF sg ts i++sepF sg i++ts[i]:=by
  show innF sg ts i++sepF sg i++ts.getD i []=_
  rw [List.getD_eq_getElem?_getD,List.getElem?_eq_getElem h];rfl
 refine ⟨h1,?_⟩
 have h2:=innF_len sg ts (i+1) ts.length (by omega)
 rw [h1,List.length_append,List.length_append] at h2
 exact h2
def prF (f:Fld):Prop:=(-9223372036854775808≤f.id∧f.id≤9223372036854775807)∧(f.hasIn=true→prC 13 f.ini)
def prM (m:Met):Prop:=m.args.length≤100000∧(∀ f ∈ m.args,prF f)∧m.thr.length≤100000∧∀ f ∈ m.thr,prF f
def prD (d:Dfn):Prop:=(1≤d.k∧d.k≤7)∧(d.k=3→prC 13 d.ini)∧(d.fields.length≤100000∧∀ f ∈ d.fields,prF f)∧(d.mems.length≤100000∧∀ m ∈ d.mems,-9223372036854775808≤m.n∧m.n≤9223372036854775807)∧(d.mets.length≤100000∧∀ m ∈ d.mets,prM m) ∧
 (d.k≠7→d.ext=[]∧d.mets=[])∧(d.k≠2→d.mems=[])∧(d.k≠4→d.k≠5→d.k≠6→d.fields=[])
def prFil (f:Fil):Prop:=f.incs.length≤100000∧f.spaces.length≤100000∧f.defs.length≤100000∧∀ d ∈ f.defs,prD d
end Go.Proofs.YtjggghfekakogaaGreatDoor
namespace Go.Proofs.YtjggghfekakogaaGreatDoor
open Go.RowKit
set_option maxRecDepth 100000 in
set_option maxHeartbeats 1600000 in
theorem shortened_any (r:Value) (x y j:Nat) (w:World) (h:Ra w r x y j) (hj:j≤2000) (hx0:x≠0) (hy0:y≠0) (hlo:GE10 x y (-400)) (hhi:¬ GE10 x y 400) (ht:Tab w) :
  Calls Tryz.prog 152 #[r] w fun e w'=>∃ (T:Int) (t:ByteArray),e = .returned (.tuple #[.string t,.int .i64 (T+((decS (digQ x y T)).length:Nat) - 17)])∧Hid (GE10 x y T∧¬ GE10 x y (T+1))∧-400≤T∧T≤400∧Hid (Tx t (decS (digQ x y T)))∧Nx w w':=by
 have HX:=Lib.hid h
 obtain ⟨v,u,rfl,hv,hu,hx,hy⟩:=h
 obtain ⟨Av,lv,cv,rfl⟩:=hv.sl
 obtain ⟨Au,lu,cu,rfl⟩:=hu.sl
 have HLO:=Lib.hid hlo
 have HHI:=Lib.hid hhi
 clear hlo hhi
 obtain ⟨g,hg⟩:∃ g,w.heap.size=g:=⟨_,rfl⟩
 have hN:Nx w (w.alloc (Obj.cells #[.slice Av lv cv,.slice Au lu cu] 177)):=nx0 _ _
 have hB1:Blk (w.alloc (Obj.cells #[.slice Av lv cv,.slice Au lu cu] 177)) g g #[.slice Av lv cv,.slice Au lu cu] 177:=by rw [← hg];exact Blk.new w _ _
 go_enter Tryz.func152,Tryz.ntmps152
 go_wp2_with fail
 refine (log10_any _ x y j _ (HX.out.below hN) hj hx0 hy0 HLO.out HHI.out).mono ?_;rintro e w1 ⟨T,rfl,HT,hT1,hT2,hw1⟩
 have hN1:=Nx.trans hN hw1
 have hB2:=hB1.below hw1
 have c0:w1.cell? ⟨g,0,none⟩=some (.slice Av lv cv):=hB2.cell 0
 have c1:w1.cell? ⟨g,1,none⟩=some (.slice Au lu cu):=hB2.cell 1
 have hdb:=digQ_b x y T (Nat.pos_of_ne_zero hy0) HT.out.1 HT.out.2
 obtain ⟨D,HD⟩:∃ D,Hid (digQ x y T=D):=⟨_,rfl⟩
 rw [HD.out] at hdb
 have hd1:=hdb.1
 have hd2:=hdb.2
 clear hdb
 have hln:(decS D).length≤20:=decS_len 19 D (by omega)
 obtain ⟨n,hn⟩:∃ n,(decS D).length=n:=⟨_,rfl⟩
 have HN:=Lib.hid hn
 rw [hn] at hln
 clear hn
 go_wp2_with fail
 refine (timesTen_any _ x y j (16 - T) _ (HX.out.below hN1) (by omega) (by omega) (by omega)).mono ?_;rintro e w4 ⟨r4,rfl,hR4,hw4⟩
 obtain ⟨v4,u4,rfl,hv4,hu4,hx4,hy4⟩:=hR4
 have HR4:=Lib.hid (show Ra w4 (.agg #[v4,u4]) _ _ _ from ⟨v4,u4,rfl,hv4,hu4,hx4,hy4⟩)
 clear hv4 hu4 hx4 hy4
 have hyy:y * 10 ^ (-(16 - T)).toNat≠0:=Nat.pos_iff_ne_zero.1 (Nat.mul_pos (Nat.pos_of_ne_zero hy0) (Nat.pow_pos (by decide)))
 have HYY:=Lib.hid hyy
 clear hyy
 go_wp2_with fail
 have hdd:rnd (x * 10 ^ (16 - T).toNat) (y * 10 ^ (-(16 - T)).toNat)=D:=HD.out
 refine (rounded_any _ _ _ _ _ HR4.out (by omega) HYY.out (by rw [hdd];omega)).mono ?_;rintro e w5 ⟨rfl,hw5⟩
 rw [hdd]
 clear hdd
 have hN5:=Nx.trans (Nx.trans hN1 hw4) hw5
 clear c0 c1
 go_wp2_with fail
 refine (formatUint_any D _ (by omega) (by omega) (ht.nx hN5)).mono ?_;rintro e w6 ⟨t,rfl,HTx,hw6⟩
 have hts:t.size=n:=by rw [HTx.out.size,HN.out]
 go_wp2_with fail
 go_ret2
 refine ⟨T,t,?_,HT,hT1,hT2,by rw [HD.out];exact HTx,Nx.trans hN5 hw6⟩
 rw [HD.out,HN.out]
 rfl
end Go.Proofs.YtjggghfekakogaaGreatDoor
namespace Go.Proofs.YtjggghfekakogaaGreatDoor
open Go.RowKit
set_option maxRecDepth 100000 in
set_option maxHeartbeats 3200000 in
theorem dshow_any (B:Nat) (w:World) (hB:B<18446744073709551616) (ht:Tab w) :
  Calls Tryz.prog 103 #[.int .u64 B] w fun e w'=>∃ (t:ByteArray) (l:List UInt8),e = .returned (.string t)∧Hid (Tx t l)∧Hid (ShowR B l)∧Nx w w':=by
 have hand:=and63 B hB
 obtain ⟨b,hb⟩:∃ b,B % 9223372036854775808=b:=⟨_,rfl⟩
 have hsr:∀ l,ShowR B l↔(if LIM≤b then l=[] else if b=0 then l=sgS B++[48,46,48,101,48] else ∃ T:Int,GE10 (exX b) (exY b) T∧¬ GE10 (exX b) (exY b) (T+1)∧l=sgS B++showD T (digQ (exX b) (exY b) T)):=by
  intro l;unfold ShowR;rw [hb]
 have HSR:=Lib.hid hsr
 clear hsr
 have hB2:(B:Int)≤18446744073709551615:=by omega
 by_cases hneg:9223372036854775808≤B
 ·rw [if_pos hneg] at hand
  have hs:sgS B=[45]:=by unfold sgS;rw [if_pos hneg]
  have HS:=Lib.hid hs
  have hw1:(B:Int) - 9223372036854775808=(b:Int):=by omega
  have hb2:(b:Int)<9223372036854775808:=by omega
  clear hs hneg hb
  by_cases hinf:LIM≤b
  ·have b1:decide ((9218868437227405312:Int)≤(b:Int))=true:=decide_eq_true (by unfold LIM at hinf;omega)
   have HI:=Lib.hid hinf
   clear hinf
   go_enter Tryz.func103,Tryz.ntmps103
   go_wp2_with fail
   go_ret
   exact ⟨_,[],rfl,rfl,(HSR.out _).2 (by rw [if_pos HI.out]),Nx.refl _⟩
  ·have b1:decide ((9218868437227405312:Int)≤(b:Int))=false:=decide_eq_false (by unfold LIM at hinf;omega)
   have HI:=Lib.hid hinf
   by_cases h0:b=0
   ·subst h0
    clear hinf
    go_enter Tryz.func103,Tryz.ntmps103
    go_wp2_with fail
    go_ret
    exact ⟨_,rfl,[45,48,46,48,101,48],rfl,(HSR.out _).2 (by rw [if_neg HI.out];simp [HS.out]),Nx.refl _⟩
   ·have hbl:b<LIM:=by omega
    have b2:((b:Int) == 0)=false:=by rw [beq_eq_false_iff_ne];omega
    have hlo:=Lib.hid (ex_lo b hbl h0)
    have hhi:=Lib.hid (ex_hi b hbl h0)
    have hx0:=Lib.hid (Nat.pos_iff_ne_zero.1 (exX_pos b h0))
    have hy0:=Lib.hid (Nat.pos_iff_ne_zero.1 (exY_pos b))
    have hpb:=exP_b b hbl
    have HPB:=Lib.hid hpb
    have H0:=Lib.hid h0
    have HBL:=Lib.hid hbl
    have HT0:=Lib.hid ht
    clear hinf h0 hpb hbl ht
    go_enter Tryz.func103,Tryz.ntmps103
    go_wp2_with fail
    refine (exact_any b _ HBL.out).mono ?_;rintro e w1 ⟨r1,rfl,hR1,hw1'⟩
    obtain ⟨v1,u1,rfl,hv1,hu1,hx1,hy1⟩:=hR1
    have HR1:=Lib.hid (show Ra w1 (.agg #[v1,u1]) (exX b) (exY b) _ from ⟨v1,u1,rfl,hv1,hu1,hx1,hy1⟩)
    clear hv1 hu1 hx1 hy1
    go_wp2_with fail
    refine (shortened_any _ (exX b) (exY b) _ _ HR1.out (by have:=HPB.out;omega) hx0.out hy0.out hlo.out hhi.out (HT0.out.nx hw1')).mono ?_;rintro e w2 ⟨T,t,rfl,HT,hT1,hT2,HTx,hw2⟩
    obtain ⟨D,HD⟩:∃ D,Hid (digQ (exX b) (exY b) T=D):=⟨_,rfl⟩
    rw [HD.out] at HTx
    rw [HD.out]
    have hdb:=digQ_b (exX b) (exY b) T (Nat.pos_of_ne_zero hy0.out) HT.out.1 HT.out.2
    rw [HD.out] at hdb
    have hln:(decS D).length≤20:=decS_len 19 D (by omega)
    have hlp:=decS_pos D
    obtain ⟨n,hn⟩:∃ n,(decS D).length=n:=⟨_,rfl⟩
    have HN:=Lib.hid hn
    rw [hn] at hln hlp ⊢
    clear hdb hn
    obtain ⟨c,m,hcm⟩:∃ c m,decS D=c :: m:=by
     cases hq:decS D with
     | nil=>have:=HN.out;rw [hq] at this;simp at this;omega
     | cons c m=>exact ⟨c,m,rfl⟩
    have HCM:=Lib.hid hcm
    rw [hcm] at HTx
    obtain ⟨hp,t',e0,e1,ht',e2,e3⟩:=HTx.out.cons
    obtain ⟨d1,e4,hd1⟩:∃ d1,t.extract 0 1=d1∧Hid (Tx d1 [c]):=⟨_,rfl,by unfold Hid Tx;rw [Lib.extract_data,show t.data.toList=c :: m from HTx.out];rfl⟩
    have hts1:(1:Int)≤(t.size:Int):=by omega
    have hml:m.length≤20:=by have:=HN.out;rw [hcm] at this;simp at this;omega
    have HTP:=Lib.hid ht'
    have htl:=ht'.size
    have hE:∃ E:Int,T+(n:Int) - 17=E∧-1000≤E∧E≤1000:=⟨_,rfl,by omega,by omega⟩
    obtain ⟨E,hE0,hE1,hE2⟩:=hE
    have hE3 : -9223372036854775808≤E:=by omega
    have hE4:E≤9223372036854775807:=by omega
    have HTE:=Lib.hid hE0
    rw [hE0]
    have hN2:=Nx.trans hw1' hw2
    have hd1s:d1.size=1:=hd1.out.size
    clear hcm ht' e0 hE0
    have hres:ShowR B ([45]++(c :: 46 :: (tailS m++(101 :: tenS E)))):=by
     refine (HSR.out _).2 ?_
     rw [if_neg HI.out,if_neg H0.out]
     refine ⟨T,HT.out.1,HT.out.2,?_⟩
     rw [HS.out,HD.out]
     unfold showD
     rw [HN.out,HTE.out,HCM.out]
     rfl
    have HRES:=Lib.hid hres
    clear hres
    go_wp2_with fail
    refine (Tryz.strings_TrimRight_one t' 48 (by decide) _ (by omega)).mono ?_;rintro e w' ⟨rfl,hw'⟩
    rw [hw']
    obtain ⟨f1,hf1⟩:∃ f1:ByteArray,⟨(Lib.trimRightB t'.data.toList 48).toArray⟩=f1:=⟨_,rfl⟩
    have hff:Tx f1 (Lib.trimRightB m 48):=by rw [← hf1,show t'.data.toList=m from HTP.out];exact Tx.of _
    rw [hf1]
    clear hf1 hw'
    have hfl:=trimB_len m
    obtain ⟨q,HQ⟩:∃ q,Hid (Lib.trimRightB m 48=q):=⟨_,rfl⟩
    rw [HQ.out] at hff hfl
    cases q with
    | nil =>
     have z1:=hff.nil.1
     have HTL:Hid (tailS m=[48]):=by unfold Hid tailS;rw [HQ.out,if_pos rfl]
     clear hff
     go_wp2_with fail
     refine wp_region_hyb [(0,true),(1,true),(2,true),(3,true),(4,true),(5,true),(6,true),(7,true),(8,true),(9,false),(10,true),(11,true)] rfl (by kernel_rfl) ?_
     iterate 9 (refine hyb_calm rfl (fun K hK=>?_);go_simp;refine hK _ ?_;clear hK K)
     have hp1:Tx ((⟨#[45]⟩++d1++⟨#[46]⟩++⟨#[48]⟩++⟨#[101]⟩:ByteArray)) ([45]++(c :: 46 :: ([48]++[101]))):=by
      have:=Tx.app2 (Tx.app2 (Tx.app2 (Tx.app2 (Tx.of [45]) hd1.out) (Tx.of [46])) (Tx.of [48])) (Tx.of [101])
      unfold Tx at *
      rw [this];simp
     generalize hP:(⟨#[45]⟩++d1++⟨#[46]⟩++⟨#[48]⟩++⟨#[101]⟩:ByteArray)=P1 at *
     have hps:P1.size≤40:=hp1.sz 40 (by simp at hfl ⊢ <;> omega)
     have HP1:=Lib.hid hp1
     clear hP hp1
     refine hyb_alone rfl (fun w3 hn3 K hK=>?_)
     go_simp
     refine (itoa_any E _ hE3 hE4 (HT0.out.nx (Nx.trans hN2 hn3))).mono ?_;rintro e w4 ⟨t9,rfl,ht9,hw4⟩
     have hsum:P1.size+t9.size≤9223372036854775807:=by
      have:=ht9.out.sz 20 (tenS_len E hE1 hE2)
      omega
     have hsum':¬ 9223372036854775807<P1.size+t9.size:=by omega
     refine hK _ _ hw4 ?_
     clear hK K
     iterate 2 (refine hyb_calm rfl (fun K hK=>?_);go_simp;refine hK _ ?_;clear hK K)
     refine hyb_nil (fun w5 hn5=>?_)
     go_wp2_with fail
     go_ret
     have hN5:=Nx.trans (Nx.trans (Nx.trans hN2 hn3) hw4) hn5
     have hfin:Tx (P1++t9) ([45]++(c :: 46 :: (tailS m++(101 :: tenS E)))):=by
      have:=Tx.app2 HP1.out ht9.out
      unfold Tx at *
      rw [this,HTL.out];simp
     first
      | exact ⟨_,_,rfl,hfin,HRES.out,hN5⟩
      | exact ⟨_,rfl,_,hfin,HRES.out,hN5⟩
    | cons c9 q9 =>
     have z1:f1.toList=c9 :: q9:=hff.toL
     have hfs:f1.size≤20:=hff.sz 20 (by omega)
     have hfs0:¬ 9223372036854775807<3+f1.size:=by omega
     have hfs1:¬ 9223372036854775807<3+f1.size+1:=by omega
     have hfs2:¬ 9223372036854775807<2+f1.size:=by omega
     have hfs3:¬ 9223372036854775807<2+f1.size+1:=by omega
     have hfs4:¬ 9223372036854775807<f1.size+1:=by omega
     have HTL:Hid (tailS m=c9 :: q9):=by unfold Hid tailS;rw [HQ.out,if_neg (by simp)]
     have hff:=Lib.hid hff
     go_wp2_with fail
     refine wp_region_hyb [(0,true),(1,true),(2,true),(3,true),(4,true),(5,true),(6,true),(7,true),(8,true),(9,false),(10,true),(11,true)] rfl (by kernel_rfl) ?_
     iterate 9 (refine hyb_calm rfl (fun K hK=>?_);go_simp;refine hK _ ?_;clear hK K)
     have hp1:Tx ((⟨#[45]⟩++d1++⟨#[46]⟩++f1++⟨#[101]⟩:ByteArray)) ([45]++(c :: 46 :: (c9 :: q9++[101]))):=by
      have:=Tx.app2 (Tx.app2 (Tx.app2 (Tx.app2 (Tx.of [45]) hd1.out) (Tx.of [46])) hff.out) (Tx.of [101])
      unfold Tx at *
      rw [this];simp
     generalize hP:(⟨#[45]⟩++d1++⟨#[46]⟩++f1++⟨#[101]⟩:ByteArray)=P1 at *
     have hps:P1.size≤40:=hp1.sz 40 (by simp at hfl ⊢ <;> omega)
     have HP1:=Lib.hid hp1
     clear hP hp1
     refine hyb_alone rfl (fun w3 hn3 K hK=>?_)
     go_simp
     refine (itoa_any E _ hE3 hE4 (HT0.out.nx (Nx.trans hN2 hn3))).mono ?_;rintro e w4 ⟨t9,rfl,ht9,hw4⟩
     have hsum:P1.size+t9.size≤9223372036854775807:=by
      have:=ht9.out.sz 20 (tenS_len E hE1 hE2)
      omega
     have hsum':¬ 9223372036854775807<P1.size+t9.size:=by omega
     refine hK _ _ hw4 ?_
     clear hK K
     iterate 2 (refine hyb_calm rfl (fun K hK=>?_);go_simp;refine hK _ ?_;clear hK K)
     refine hyb_nil (fun w5 hn5=>?_)
     go_wp2_with fail
     go_ret
     have hN5:=Nx.trans (Nx.trans (Nx.trans hN2 hn3) hw4) hn5
     have hfin:Tx (P1++t9) ([45]++(c :: 46 :: (tailS m++(101 :: tenS E)))):=by
      have:=Tx.app2 HP1.out ht9.out
      unfold Tx at *
      rw [this,HTL.out];simp
     first
      | exact ⟨_,_,rfl,hfin,HRES.out,hN5⟩
      | exact ⟨_,rfl,_,hfin,HRES.out,hN5⟩
 ·rw [if_neg hneg] at hand
  have hs:sgS B=[]:=by unfold sgS;rw [if_neg hneg]
  have HS:=Lib.hid hs
  have hBb:B=b:=by omega
  subst hBb
  clear hs hneg hb
  by_cases hinf:LIM≤B
  ·have b1:decide ((9218868437227405312:Int)≤(B:Int))=true:=decide_eq_true (by unfold LIM at hinf;omega)
   have HI:=Lib.hid hinf
   clear hinf
   go_enter Tryz.func103,Tryz.ntmps103
   go_wp2_with fail
   go_ret
   exact ⟨_,[],rfl,rfl,(HSR.out _).2 (by rw [if_pos HI.out]),Nx.refl _⟩
  ·have b1:decide ((9218868437227405312:Int)≤(B:Int))=false:=decide_eq_false (by unfold LIM at hinf;omega)
   have HI:=Lib.hid hinf
   by_cases h0:B=0
   ·subst h0
    clear hinf
    go_enter Tryz.func103,Tryz.ntmps103
    go_wp2_with fail
    go_ret
    exact ⟨_,rfl,[48,46,48,101,48],rfl,(HSR.out _).2 (by rw [if_neg HI.out];simp [HS.out]),Nx.refl _⟩
   ·have hbl:B<LIM:=by omega
    have b2:((B:Int) == 0)=false:=by rw [beq_eq_false_iff_ne];omega
    have hlo:=Lib.hid (ex_lo B hbl h0)
    have hhi:=Lib.hid (ex_hi B hbl h0)
    have hx0:=Lib.hid (Nat.pos_iff_ne_zero.1 (exX_pos B h0))
    have hy0:=Lib.hid (Nat.pos_iff_ne_zero.1 (exY_pos B))
    have hpb:=exP_b B hbl
    have HPB:=Lib.hid hpb
    have H0:=Lib.hid h0
    have HBL:=Lib.hid hbl
    have HT0:=Lib.hid ht
    clear hinf h0 hpb hbl ht
    go_enter Tryz.func103,Tryz.ntmps103
    go_wp2_with fail
    refine (exact_any B _ HBL.out).mono ?_;rintro e w1 ⟨r1,rfl,hR1,hw1'⟩
    obtain ⟨v1,u1,rfl,hv1,hu1,hx1,hy1⟩:=hR1
    have HR1:=Lib.hid (show Ra w1 (.agg #[v1,u1]) (exX B) (exY B) _ from ⟨v1,u1,rfl,hv1,hu1,hx1,hy1⟩)
    clear hv1 hu1 hx1 hy1
    go_wp2_with fail
    refine (shortened_any _ (exX B) (exY B) _ _ HR1.out (by have:=HPB.out;omega) hx0.out hy0.out hlo.out hhi.out (HT0.out.nx hw1')).mono ?_;rintro e w2 ⟨T,t,rfl,HT,hT1,hT2,HTx,hw2⟩
    obtain ⟨D,HD⟩:∃ D,Hid (digQ (exX B) (exY B) T=D):=⟨_,rfl⟩
    rw [HD.out] at HTx
    rw [HD.out]
    have hdb:=digQ_b (exX B) (exY B) T (Nat.pos_of_ne_zero hy0.out) HT.out.1 HT.out.2
    rw [HD.out] at hdb
    have hln:(decS D).length≤20:=decS_len 19 D (by omega)
    have hlp:=decS_pos D
    obtain ⟨n,hn⟩:∃ n,(decS D).length=n:=⟨_,rfl⟩
    have HN:=Lib.hid hn
    rw [hn] at hln hlp ⊢
    clear hdb hn
    obtain ⟨c,m,hcm⟩:∃ c m,decS D=c :: m:=by
     cases hq:decS D with
     | nil=>have:=HN.out;rw [hq] at this;simp at this;omega
     | cons c m=>exact ⟨c,m,rfl⟩
    have HCM:=Lib.hid hcm
    rw [hcm] at HTx
    obtain ⟨hp,t',e0,e1,ht',e2,e3⟩:=HTx.out.cons
    obtain ⟨d1,e4,hd1⟩:∃ d1,t.extract 0 1=d1∧Hid (Tx d1 [c]):=⟨_,rfl,by unfold Hid Tx;rw [Lib.extract_data,show t.data.toList=c :: m from HTx.out];rfl⟩
    have hts1:(1:Int)≤(t.size:Int):=by omega
    have hml:m.length≤20:=by have:=HN.out;rw [hcm] at this;simp at this;omega
    have HTP:=Lib.hid ht'
    have htl:=ht'.size
    have hE:∃ E:Int,T+(n:Int) - 17=E∧-1000≤E∧E≤1000:=⟨_,rfl,by omega,by omega⟩
    obtain ⟨E,hE0,hE1,hE2⟩:=hE
    have hE3 : -9223372036854775808≤E:=by omega
    have hE4:E≤9223372036854775807:=by omega
    have HTE:=Lib.hid hE0
    rw [hE0]
    have hN2:=Nx.trans hw1' hw2
    have hd1s:d1.size=1:=hd1.out.size
    clear hcm ht' e0 hE0
    have hres:ShowR B ([]++(c :: 46 :: (tailS m++(101 :: tenS E)))):=by
     refine (HSR.out _).2 ?_
     rw [if_neg HI.out,if_neg H0.out]
     refine ⟨T,HT.out.1,HT.out.2,?_⟩
     rw [HS.out,HD.out]
     unfold showD
     rw [HN.out,HTE.out,HCM.out]
     rfl
    have HRES:=Lib.hid hres
    clear hres
    go_wp2_with fail
    refine (Tryz.strings_TrimRight_one t' 48 (by decide) _ (by omega)).mono ?_;rintro e w' ⟨rfl,hw'⟩
    rw [hw']
    obtain ⟨f1,hf1⟩:∃ f1:ByteArray,⟨(Lib.trimRightB t'.data.toList 48).toArray⟩=f1:=⟨_,rfl⟩
    have hff:Tx f1 (Lib.trimRightB m 48):=by rw [← hf1,show t'.data.toList=m from HTP.out];exact Tx.of _
    rw [hf1]
    clear hf1 hw'
    have hfl:=trimB_len m
    obtain ⟨q,HQ⟩:∃ q,Hid (Lib.trimRightB m 48=q):=⟨_,rfl⟩
    rw [HQ.out] at hff hfl
    cases q with
    | nil =>
     have z1:=hff.nil.1
     have HTL:Hid (tailS m=[48]):=by unfold Hid tailS;rw [HQ.out,if_pos rfl]
     clear hff
     go_wp2_with fail
     refine wp_region_hyb [(0,true),(1,true),(2,true),(3,true),(4,true),(5,true),(6,true),(7,true),(8,true),(9,false),(10,true),(11,true)] rfl (by kernel_rfl) ?_
     iterate 9 (refine hyb_calm rfl (fun K hK=>?_);go_simp;refine hK _ ?_;clear hK K)
     have hp1:Tx ((⟨#[]⟩++d1++⟨#[46]⟩++⟨#[48]⟩++⟨#[101]⟩:ByteArray)) ([]++(c :: 46 :: ([48]++[101]))):=by
      have:=Tx.app2 (Tx.app2 (Tx.app2 (Tx.app2 (Tx.of []) hd1.out) (Tx.of [46])) (Tx.of [48])) (Tx.of [101])
      unfold Tx at *
      rw [this];simp
     generalize hP:(⟨#[]⟩++d1++⟨#[46]⟩++⟨#[48]⟩++⟨#[101]⟩:ByteArray)=P1 at *
     have hps:P1.size≤40:=hp1.sz 40 (by simp at hfl ⊢ <;> omega)
     have HP1:=Lib.hid hp1
     clear hP hp1
     refine hyb_alone rfl (fun w3 hn3 K hK=>?_)
     go_simp
     refine (itoa_any E _ hE3 hE4 (HT0.out.nx (Nx.trans hN2 hn3))).mono ?_;rintro e w4 ⟨t9,rfl,ht9,hw4⟩
     have hsum:P1.size+t9.size≤9223372036854775807:=by
      have:=ht9.out.sz 20 (tenS_len E hE1 hE2)
      omega
     have hsum':¬ 9223372036854775807<P1.size+t9.size:=by omega
     refine hK _ _ hw4 ?_
     clear hK K
     iterate 2 (refine hyb_calm rfl (fun K hK=>?_);go_simp;refine hK _ ?_;clear hK K)
     refine hyb_nil (fun w5 hn5=>?_)
     go_wp2_with fail
     go_ret
     have hN5:=Nx.trans (Nx.trans (Nx.trans hN2 hn3) hw4) hn5
     have hfin:Tx (P1++t9) ([]++(c :: 46 :: (tailS m++(101 :: tenS E)))):=by
      have:=Tx.app2 HP1.out ht9.out
      unfold Tx at *
      rw [this,HTL.out];simp
     first
      | exact ⟨_,_,rfl,hfin,HRES.out,hN5⟩
      | exact ⟨_,rfl,_,hfin,HRES.out,hN5⟩
    | cons c9 q9 =>
     have z1:f1.toList=c9 :: q9:=hff.toL
     have hfs:f1.size≤20:=hff.sz 20 (by omega)
     have hfs0:¬ 9223372036854775807<3+f1.size:=by omega
     have hfs1:¬ 9223372036854775807<3+f1.size+1:=by omega
     have hfs2:¬ 9223372036854775807<2+f1.size:=by omega
     have hfs3:¬ 9223372036854775807<2+f1.size+1:=by omega
     have hfs4:¬ 9223372036854775807<f1.size+1:=by omega
     have HTL:Hid (tailS m=c9 :: q9):=by unfold Hid tailS;rw [HQ.out,if_neg (by simp)]
     have hff:=Lib.hid hff
     go_wp2_with fail
     refine wp_region_hyb [(0,true),(1,true),(2,true),(3,true),(4,true),(5,true),(6,true),(7,true),(8,true),(9,false),(10,true),(11,true)] rfl (by kernel_rfl) ?_
     iterate 9 (refine hyb_calm rfl (fun K hK=>?_);go_simp;refine hK _ ?_;clear hK K)
     have hp1:Tx ((⟨#[]⟩++d1++⟨#[46]⟩++f1++⟨#[101]⟩:ByteArray)) ([]++(c :: 46 :: (c9 :: q9++[101]))):=by
      have:=Tx.app2 (Tx.app2 (Tx.app2 (Tx.app2 (Tx.of []) hd1.out) (Tx.of [46])) hff.out) (Tx.of [101])
      unfold Tx at *
      rw [this];simp
     generalize hP:(⟨#[]⟩++d1++⟨#[46]⟩++f1++⟨#[101]⟩:ByteArray)=P1 at *
     have hps:P1.size≤40:=hp1.sz 40 (by simp at hfl ⊢ <;> omega)
     have HP1:=Lib.hid hp1
     clear hP hp1
     refine hyb_alone rfl (fun w3 hn3 K hK=>?_)
     go_simp
     refine (itoa_any E _ hE3 hE4 (HT0.out.nx (Nx.trans hN2 hn3))).mono ?_;rintro e w4 ⟨t9,rfl,ht9,hw4⟩
     have hsum:P1.size+t9.size≤9223372036854775807:=by
      have:=ht9.out.sz 20 (tenS_len E hE1 hE2)
      omega
     have hsum':¬ 9223372036854775807<P1.size+t9.size:=by omega
     refine hK _ _ hw4 ?_
     clear hK K
     iterate 2 (refine hyb_calm rfl (fun K hK=>?_);go_simp;refine hK _ ?_;clear hK K)
     refine hyb_nil (fun w5 hn5=>?_)
     go_wp2_with fail
     go_ret
     have hN5:=Nx.trans (Nx.trans (Nx.trans hN2 hn3) hw4) hn5
     have hfin:Tx (P1++t9) ([]++(c :: 46 :: (tailS m++(101 :: tenS E)))):=by
      have:=Tx.app2 HP1.out ht9.out
      unfold Tx at *
      rw [this,HTL.out];simp
     first
      | exact ⟨_,_,rfl,hfin,HRES.out,hN5⟩
      | exact ⟨_,rfl,_,hfin,HRES.out,hN5⟩
end Go.Proofs.YtjggghfekakogaaGreatDoor
namespace Go.Proofs.YtjggghfekakogaaGreatDoor
namespace RI
section
variable {P:Program} (L:List Oper) (a0:Act) (S:Array Bool→(Nat→Value)→World→Prop)
def StepX (P:Program) (i:Nat) (o:Oper):Prop :=
 ∀ (a:Act) (x:Nat→Value) (ls:Array Bool) (w:World),S ls x w→ls.size=L.length→ls.getD i true=false→Closed L ls→(∀ d i,slotB L d i=true→d<a0.tmps.size→a.eval (.tmp d)=x i)→(∀ d,(dsts L).contains d=false→a.eval (.tmp d)=a0.eval (.tmp d)) →
  (∀ e ∈ o.after.toList,Region.binds .any e=true→ls.getD e.on false=true) →
  ∀ K:Act→World→Prop,(∀ w' v,S (ls.setIfInBounds i true) (upd x i v) w'→K (a.put o.dst v) w')→o.wp P a w K (fun _ _ _=>False)
def StepsX (P:Program):List Oper→Nat→Prop
 | [],_=>True
 | o :: os,i=>StepX L a0 S P i o∧StepsX P os (i+1)
variable {L a0 S}
theorem StepsX.at_:∀ {os:List Oper} {k:Nat},StepsX L a0 S P os k→∀ i o,os[i]? = some o→StepX L a0 S P (k+i) o
 | [],_,_,i,o,h=>by simp at h
 | o' :: os,k,hs,i,o,h=>by
  cases i with
  | zero=>simp at h;subst h;exact hs.1
  | succ i=>rw [show k+(i+1)=k+1+i by omega];exact StepsX.at_ hs.2 i o (by simpa using h)
theorem inv_anyX {Q:Exit→Act→World→Prop} (hok:okB L=true) (hg:L.all (fun o=>o.guard == none)=true) (hs:StepsX L a0 S P L 0)
  (hend:∀ (x:Nat→Value) ls w,S ls x w→(∀ j,j<L.length→ls.getD j false=true)→Q .normal (PA L 0 x a0) w) :
  ∀ (f:Nat) (listed:Array Bool) (x:Nat→Value) (w:World),listed.size=L.length→unl L.length listed≤f→S listed x w→Closed L listed→wpAny P .any L.toArray Q f listed (PA L 0 x a0) w:=by
 simp only [okB,Bool.and_eq_true,decide_eq_true_eq] at hok
 obtain ⟨hb,hn⟩:=hok
 have fin:∀ (listed:Array Bool) (x:Nat→Value) (w:World),listed.size=L.length→S listed x w→(∀ i,i<L.length→listed.getD i true=true)→Q .normal (PA L 0 x a0) w:=by
  intro listed x w hz hS hall
  exact hend x listed w hS fun j hj=>by
   have h4:j<listed.size:=by omega
   simpa [h4] using hall j hj
 intro f
 induction f with
 | zero =>
  intro listed x w hz hf hS hcl
  have hall:∀ i,i<L.length→listed.getD i true=true:=by
   intro i hi
   cases h:listed.getD i true with
   | true=>rfl
   | false =>
    exfalso
    have:i ∈ (List.range L.length).filter fun i=>!listed.getD i true:=List.mem_filter.2 ⟨List.mem_range.2 hi,by rw [h];rfl⟩
    have:=List.length_pos_of_mem this
    unfold unl at hf
    omega
  refine ⟨?_,fin listed x w hz hS hall⟩
  rw [List.eq_nil_iff_forall_not_mem]
  intro i hi
  obtain ⟨h1,o,ho,-⟩:=mem_ready.1 hi
  have hi2:i<L.length:=by
   have:=(Array.getElem?_eq_some_iff.1 ho).1
   simpa using this
  rw [hall i hi2] at h1
  cases h1
 | succ f ih =>
  intro listed x w hz hf hS hcl
  refine ⟨fun hr=>fin listed x w hz hS (all_listed hb hz hr),fun i hi=>?_⟩
  obtain ⟨h1,o,ho,hdep⟩:=mem_ready.1 hi
  have hi2:i<L.length:=by
   have:=(Array.getElem?_eq_some_iff.1 ho).1
   simpa using this
  have hol:L[i]? = some o:=by simpa using ho
  have hgd:o.guard=none:=by
   have:=List.all_eq_true.1 hg o (List.mem_of_getElem? hol)
   simpa using this
  have hst:=hs.at_ i o hol
  rw [Nat.zero_add] at hst
  have h4:i<listed.size:=by omega
  have h:=hst (PA L 0 x a0) x listed w hS hz h1 hcl (fun d i g1 g2=>PA_slot g1 g2) (fun d g1=>PA_old_slot g1) (fun e he hbd=>hdep e (by simpa using he) hbd) (wpAny P .any L.toArray Q f (listed.setIfInBounds i true)) (by
   intro w' v hS'
   rw [PA_upd L 0 x a0 i o v hn hol,Nat.zero_add]
   refine ih (listed.setIfInBounds i true) (upd x i v) w' (by simpa using hz) ?_ hS' ?_
   ·have:unl L.length (listed.setIfInBounds i true)<unl L.length listed:=by
     refine filter_lt _ _ _ ?_ i (List.mem_range.2 hi2) ?_ ?_
     ·intro y hy hp
      by_cases hyi:i=y
      ·subst hyi
       simp [h4] at hp
      ·rw [getD_set_ne true hyi] at hp;exact hp
     ·simp [h4]
     ·rw [h1];rfl
    omega
   ·intro j o' ho' hj e he hbd
    by_cases hji:j=i
    ·subst hji
     rw [hol] at ho'
     obtain rfl:=Option.some.inj ho'
     have:=hdep e (by simpa using he) hbd
     by_cases hei:j=e.on
     ·rw [← hei];simp [h4]
     ·rw [getD_set_ne false hei];exact this
    ·rw [getD_set_ne false (Ne.symm hji)] at hj
     have:=hcl j o' ho' hj e he hbd
     by_cases hei:i=e.on
     ·rw [← hei];simp [h4]
     ·rw [getD_set_ne false hei];exact this)
  unfold wpOp
  rw [ho]
  dsimp only
  rw [if_pos (by unfold Region.wanted;rw [hgd])]
  exact .inl (wp_mono_both (fun _ _ h=>h) h trivial)
theorem wp_region_X {id:Nat} {Q:Exit→Act→World→Prop} {w:World} {ops:Array Oper} (S:Array Bool→(Nat→Value)→World→Prop) (hm:P.follows .mixedOrders=true) (hok:okB ops.toList=true) (hg:ops.toList.all (fun o=>o.guard == none)=true)
  (hS:∀ x,S (Array.replicate ops.size false) x { w with drawn:=w.drawn+1 }) (hs:StepsX ops.toList a0 S P ops.toList 0)
  (hend:∀ (A:Act) (x:Nat→Value) ls w,S ls x w→(∀ j,j<ops.toList.length→ls.getD j false=true)→(∀ d i,slotB ops.toList d i=true→d<a0.tmps.size→A.eval (.tmp d)=x i)→(∀ d,(dsts ops.toList).contains d=false→A.eval (.tmp d)=a0.eval (.tmp d)) →
   RowKit.Hid (A=⟨(setAll ops.toList 0 x a0.tmps.toList).toArray,a0.defers⟩)→Q .normal A w):(Code.region id ops true).wp P Q a0 w:=by
 refine wp_region_any hm ?_
 have hold:PA ops.toList 0 (old a0 ops.toList) a0=a0:=PA_old ops.toList 0 _ a0 (fun i o d h1 h2=>by unfold old;rw [Nat.zero_add,h1];simp [h2])
 have hrep:∀ j,(Array.replicate ops.size false).getD j false=false:=by
  intro j
  rw [Array.getD_eq_getD_getElem?]
  cases h:(Array.replicate ops.size false)[j]? with
  | none=>rfl
  | some b =>
   obtain ⟨h1,h2⟩:=Array.getElem?_eq_some_iff.1 h
   simp at h2
   simp [← h2]
 have:=inv_anyX (P:=P) (Q:=Q) hok hg hs (fun x ls w h1 h2=>hend (PA ops.toList 0 x a0) x ls w h1 h2 (fun d i g1 g2=>PA_slot g1 g2) (fun d g1=>PA_old_slot g1) (PA_list ops.toList 0 x a0)) ops.size (Array.replicate ops.size false) (old a0 ops.toList) { w with drawn:=w.drawn+1 } (by simp) ?_ (hS _) ?_
 ·rw [hold] at this
  simpa using this
 ·unfold unl
  have:=List.length_filter_le (fun i=>!(Array.replicate ops.size false).getD i true) (List.range ops.toList.length)
  simp only [List.length_range] at this
  simpa using this
 ·intro j o ho hj
  rw [hrep] at hj;cases hj
end
theorem off_of {ls:Array Bool} {i:Nat} (hz:i<ls.size) (h:ls.getD i true=false):ls.getD i false=false:=by simpa [hz] using h
end RI
end Go.Proofs.YtjggghfekakogaaGreatDoor
