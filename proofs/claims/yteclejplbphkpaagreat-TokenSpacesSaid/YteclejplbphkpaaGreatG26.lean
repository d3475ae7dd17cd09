/- The document's printer: a method. How definitions and files are printed: as functions. Plain. What play makes lies within the printer's bounds. Plain. Each number has one text, and how long it is. Plain. The document's printer of numbers is what its printer of constants is asked for. -/
import Derived.Test.YteclejplbphkpaaGreatG25
import Derived.Test.YteclejplbphkpaaGreatG24
import Derived.Test.YteclejplbphkpaaGreatG10
import Derived.Test.YteclejplbphkpaaGreatG12
set_option linter.unusedVariables false
set_option linter.unusedSimpArgs false
set_option linter.unnecessarySimpa false
namespace Go.Proofs.YteclejplbphkpaaGreat
open Go.RowKit
def oneF (b:Bool):List UInt8:=if b then [32,32,111,110,101,119,97,121,32] else [32,32]
def methodF (tn:Int→List UInt8) (sh:Nat→List UInt8) (m:Met):List UInt8 :=
 ((((((oneF m.one++m.ret)++[32])++m.nm)++[40])++fieldsF tn sh m.args)++[41])++(if 0<m.thr.length then ([32,116,104,114,111,119,115,32,40]++fieldsF tn sh m.thr)++[41] else [])++[44,10]
def okM (m:Met):Prop:=(m.args.length≤100000∧∀ y ∈ m.args,okF y)∧m.thr.length≤100000∧∀ y ∈ m.thr,okF y
theorem LF.keep {P Q:Nat→Prop} {w w':World} {x:Value} {c:List Fld} (h:LF w P x c) (hk:∀ g,P g→g<w.heap.size→w'.heap[g]? = w.heap[g]?) (hq:∀ g,P g→g<w.heap.size→Q g):LF w' Q x c:=LF.lasts ⟨hk,hq⟩ h
set_option maxRecDepth 100000 in
set_option maxHeartbeats 6400000 in
theorem docMethod_any {tn:Int→List UInt8} {sh:Nat→List UInt8} (hN:PrN tn sh) (w:World) (P:Nat→Prop) (x:MetS) (m:Met) (hr:RM w P x m) (hok:okM m)
  (hlen:((methodF tn sh m).length:Int)≤1000000000) :
  Calls Tryz.prog 23 #[.agg (metA x)] w fun e w'=>e = .returned (.string ⟨(methodF tn sh m).toArray⟩)∧Nx w w':=by
 obtain ⟨xn,xo,xr,xa,xt⟩:=x
 obtain ⟨mn,mo,mr,ma,mt⟩:=m
 obtain ⟨h1,h2,h3,hra,hrt⟩:=hr
 dsimp only at h1 h2 h3 hra hrt
 subst h1 h2 h3
 obtain ⟨⟨hal,hoka⟩,htl,hokt⟩:=hok
 dsimp only at hal hoka htl hokt
 have hrt':=hrt
 obtain ⟨tA,tc,-,rfl,-,-,-,-,-⟩:=hrt'.sl fldA_size
 obtain ⟨F,hF⟩:∃ F,Hid (methodF tn sh ⟨xn,xo,xr,ma,mt⟩=F):=⟨_,Lib.hid rfl⟩
 rw [hF.out] at hlen ⊢
 have hFe:=hF.out
 unfold methodF at hFe
 dsimp only at hFe
 obtain ⟨E1,hE1⟩:∃ E,Hid (fieldsF tn sh ma=E):=⟨_,Lib.hid rfl⟩
 obtain ⟨E2,hE2⟩:∃ E,Hid (fieldsF tn sh mt=E):=⟨_,Lib.hid rfl⟩
 rw [hE1.out,hE2.out] at hFe
 have hcall1:(E1.length:Int)≤1000000000→∀ wx,Nx w wx→Calls Tryz.prog 47 #[xa] wx fun e w'=>e = .returned (.string ⟨E1.toArray⟩)∧Nx wx w':=fun hl wx hx=>by
  have:=docFields_any hN wx P xa ma (hra.keep (fun g' _ hl=>hx.block g' hl) (fun g' h _=>h)) hal hoka (by rw [hE1.out];exact hl)
  rw [hE1.out] at this
  exact this
 have hcall2:(E2.length:Int)≤1000000000→∀ wx,Nx w wx→Calls Tryz.prog 47 #[.slice tA mt.length tc] wx fun e w'=>e = .returned (.string ⟨E2.toArray⟩)∧Nx wx w':=fun hl wx hx=>by
  have:=docFields_any hN wx P _ mt (hrt.keep (fun g' _ hl=>hx.block g' hl) (fun g' h _=>h)) htl hokt (by rw [hE2.out];exact hl)
  rw [hE2.out] at this
  exact this
 have hsz0:(oneF xo).length+xr.length+1+xn.length+1+E1.length+1+(if 0<mt.length then 9+E2.length+1 else 0)+2≤1000000000:=by
  have h:=congrArg List.length hFe
  split
  ·rename_i hp
   rw [if_pos hp] at h
   simp only [List.length_append,List.length_cons,List.length_nil] at h
   omega
  ·rename_i hp
   rw [if_neg hp] at h
   simp only [List.length_append,List.length_cons,List.length_nil] at h
   omega
 have HC1:=Lib.hid hcall1
 have HC2:=Lib.hid hcall2
 have HF:=Lib.hid hFe
 have HSZ0:=Lib.hid hsz0
 obtain ⟨g,hg⟩:∃ g,w.heap.size=g:=⟨_,rfl⟩
 have hB:=Blk.new w #[.string ⟨xn.toArray⟩,.bool xo,.string ⟨xr.toArray⟩,xa,.slice tA mt.length tc] 78
 rw [hg] at hB
 have hn0:Nx w (w.alloc (.cells #[.string ⟨xn.toArray⟩,.bool xo,.string ⟨xr.toArray⟩,xa,.slice tA mt.length tc] 78)):=nx0 _ _
 have HB:=Lib.hid hB
 have HN0:=Lib.hid hn0
 clear hra hrt hrt' hoka hokt hcall1 hcall2 hFe hlen hN hB hn0 hsz0
 show Calls _ _ #[.agg #[.string ⟨xn.toArray⟩,.bool xo,.string ⟨xr.toArray⟩,xa,.slice tA mt.length tc]] _ _
 go_enter Tryz.func23,Tryz.ntmps23
 go_upto_region 2 with fail
 generalize World.alloc w _=W at *
 have c1:W.cell? ⟨g,1,none⟩=some (.bool xo):=HB.out.cell 1
 clear hg
 go_upto_if 5 with fail
 go_cut [3] (fun v wx=>∃ S1:ByteArray,v = .string S1∧Hid (Tx S1 (oneF xo))∧W=wx)
 case first =>
  by_cases hb:xo=true
  ·subst hb
   go_wp2_with fail
   go_meet
   case rel=>exact ⟨_,rfl,(rfl:Tx ⟨#[32,32,111,110,101,119,97,121,32]⟩ [32,32,111,110,101,119,97,121,32]),rfl⟩
  ·obtain rfl:xo=false:=by simpa using hb
   clear hb
   go_wp2_with fail
   go_meet
   case rel=>exact ⟨_,rfl,(rfl:Tx ⟨#[32,32]⟩ [32,32]),rfl⟩
 case rest =>
 obtain ⟨S1,rfl,HS1,rfl⟩:=hcut
 have hSZ:S1.size+xr.length+1+xn.length+1+E1.length+1+(if 0<mt.length then 9+E2.length+1 else 0)+2≤1000000000:=by
  have:=HSZ0.out
  rw [HS1.out.size]
  exact this
 have HSZ:=Lib.hid hSZ
 have y1:¬ 9223372036854775807<S1.size+xr.length:=by omega
 have y2:¬ 9223372036854775807<S1.size+xr.length+1:=by omega
 have y3:¬ 9223372036854775807<S1.size+xr.length+1+xn.length:=by omega
 have y4:¬ 9223372036854775807<S1.size+xr.length+1+xn.length+1:=by omega
 have y5:¬ 9223372036854775807<S1.size+xr.length+1+xn.length+1+E1.length:=by omega
 have y6:¬ 9223372036854775807<S1.size+xr.length+1+xn.length+1+E1.length+1:=by omega
 have hEl1:(E1.length:Int)≤1000000000:=by omega
 have k0:∀ x:Gr W,x.1.cell? ⟨g,0,none⟩=some (.string ⟨xn.toArray⟩):=fun x=>(HB.out.below x.2).cell 0
 have k2:∀ x:Gr W,x.1.cell? ⟨g,2,none⟩=some (.string ⟨xr.toArray⟩):=fun x=>(HB.out.below x.2).cell 2
 have k3:∀ x:Gr W,x.1.cell? ⟨g,3,none⟩=some xa:=fun x=>(HB.out.below x.2).cell 3
 clear hSZ
 go_wp2_with fail
 refine wp_region_hyb [(0,true),(1,true),(2,true),(3,true),(4,true),(5,true),(6,true),(7,true),(8,true),(9,true),(10,true),(11,false),(12,true),(13,true),(14,true)] (by kernel_rfl) (by kernel_rfl) ?_
 iterate 11 (refine hyb_calm rfl (fun K hK=>?_);go_simp;refine hK _ ?_;clear hK K)
 refine hyb_alone rfl (fun w4 hn4 K hK=>?_)
 go_simp
 refine (HC1.out hEl1 w4 (HN0.out.trans hn4)).mono ?_;rintro e w5 ⟨rfl,hn5⟩
 refine hK _ _ hn5 ?_
 clear hK K
 iterate 3 (refine hyb_calm rfl (fun K hK=>?_);go_simp;refine hK _ ?_;clear hK K)
 refine hyb_nil (fun w8 hn8=>?_)
 have HNN:=Lib.hid ((hn4.trans hn5).trans hn8)
 clear hn4 hn5 hn8 k0 k2 k3 y1 y2 y3 y4 y5 y6
 obtain ⟨T,hT⟩:∃ T:ByteArray,((((((S1++⟨xr.toArray⟩)++⟨#[32]⟩)++⟨xn.toArray⟩)++⟨#[40]⟩)++⟨E1.toArray⟩)++⟨#[41]⟩)=T:=⟨_,rfl⟩
 have HT:Hid (Tx T ((((((oneF xo++xr)++[32])++xn)++[40])++E1)++[41])):=by
  rw [← hT]
  exact (((((HS1.out.cat (Tx.of xr)).cat (Tx.of [32])).cat (Tx.of xn)).cat (Tx.of [40])).cat (Tx.of E1)).cat (Tx.of [41])
 simp only [hT]
 clear hT
 have hTs:T.size+(if 0<mt.length then 9+E2.length+1 else 0)+2≤1000000000:=by
  have h1:=HSZ.out
  have h2:=HT.out.size
  have h3:=HS1.out.size
  simp only [List.length_append,List.length_cons,List.length_nil] at h2
  omega
 have c4:w8.cell? ⟨g,4,none⟩=some (.slice tA mt.length tc):=(HB.out.below HNN.out).cell 4
 by_cases hp:0<mt.length
 ·have q1:decide ((0:Int)<(mt.length:Int))=true:=decide_eq_true (by omega)
  have q2:(0:Int)<(mt.length:Int):=by omega
  rw [if_pos hp] at hTs
  have hEl2:(E2.length:Int)≤1000000000:=by omega
  have hze:((⟨E2.toArray⟩:ByteArray).size)=E2.length:=(Tx.of E2).size
  have HR:Hid ((((T++⟨#[32,116,104,114,111,119,115,32,40]⟩)++⟨E2.toArray⟩)++⟨#[41]⟩)++⟨#[44,10]⟩=⟨F.toArray⟩):=by
   have h:=((((HT.out.cat (Tx.of [32,116,104,114,111,119,115,32,40])).cat (Tx.of E2)).cat (Tx.of [41])).cat (Tx.of [44,10])).eq
   have hf:=HF.out
   rw [if_pos hp] at hf
   unfold Hid
   rw [← hf]
   refine h.trans ?_
   simp only [List.append_assoc]
  go_wp2_with fail
  refine (HC2.out hEl2 w8 (HN0.out.trans HNN.out)).mono ?_;rintro e w9 ⟨rfl,hn9⟩
  go_wp2_with fail
  go_ret
  exact ⟨by first | rfl | (rw [HR.out];rfl),(HN0.out.trans HNN.out).trans hn9⟩
 ·have q1:decide ((0:Int)<(mt.length:Int))=false:=decide_eq_false (by omega)
  rw [if_neg hp] at hTs
  have HR:Hid (T++⟨#[44,10]⟩=⟨F.toArray⟩):=by
   have h:=(HT.out.cat (Tx.of [44,10])).eq
   have hf:=HF.out
   rw [if_neg hp] at hf
   unfold Hid
   rw [← hf]
   refine h.trans ?_
   simp only [List.append_assoc,List.nil_append]
  go_wp2_with fail
  go_ret
  exact ⟨by first | rfl | (rw [HR.out];rfl),HN0.out.trans HNN.out⟩
end Go.Proofs.YteclejplbphkpaaGreat
namespace Go.Proofs.YteclejplbphkpaaGreat
theorem flat_step {α:Type} (f:α→List UInt8) (l:List α) (i:Nat) (h:i<l.length):(l.take (i+1)).flatMap f=(l.take i).flatMap f++f l[i]∧((l.take (i+1)).flatMap f).length≤(l.flatMap f).length:=by
 refine ⟨?_,?_⟩
 ·rw [← List.take_append_getElem h,List.flatMap_append]
  simp
 ·have:(l.flatMap f)=(l.take (i+1)).flatMap f++(l.drop (i+1)).flatMap f:=by rw [← List.flatMap_append,List.take_append_drop]
  rw [this,List.length_append]
  omega
section
variable (tn:Int→List UInt8) (sh:Nat→List UInt8)
def wordD:Nat→List UInt8
 | 1=>[116,121,112,101,100,101,102,32]
 | 2=>[101,110,117,109,32]
 | 3=>[99,111,110,115,116,32]
 | 4=>[115,116,114,117,99,116,32]
 | 5=>[117,110,105,111,110,32]
 | 6=>[101,120,99,101,112,116,105,111,110,32]
 | 7=>[115,101,114,118,105,99,101,32]
 | _=>[]
def memF (m:Mem):List UInt8:=((([32,32]++m.nm)++(if m.has then [32,61,32]++tn m.n else []))++[44,10])
def fldL (f:Fld):List UInt8:=([32,32]++fieldF tn sh f)++[44,10]
def defF (d:Dfn):List UInt8 :=
 if d.k=1 then (((wordD 1++d.ty)++[32])++d.nm)++[10]
 else if d.k=3 then (((((wordD 3++d.ty)++[32])++d.nm)++[32,61,32])++constF tn sh 13 d.ini)++[10]
 else ((((((wordD d.k++d.nm)++(if d.ext=[] then [] else [32,101,120,116,101,110,100,115,32]++d.ext))++[32,123,10])++d.mems.flatMap (memF tn))++d.fields.flatMap (fldL tn sh))++d.mets.flatMap (methodF tn sh))++[125,10]
def incF (s:List UInt8):List UInt8:=([105,110,99,108,117,100,101,32,34]++s)++[34,10]
def spcF (s:Spc):List UInt8:=((([110,97,109,101,115,112,97,99,101,32]++s.scope)++[32])++s.nm)++[10]
def printF (f:Fil):List UInt8:=(f.incs.flatMap incF++f.spaces.flatMap spcF)++f.defs.flatMap (defF tn sh)
end
def okD (d:Dfn):Prop:=d.k≤7∧okC 13 d.ini∧(d.fields.length≤100000∧∀ y ∈ d.fields,okF y)∧(d.mems.length≤100000∧∀ y ∈ d.mems,-9223372036854775808≤y.n∧y.n≤9223372036854775807)∧d.mets.length≤100000∧∀ y ∈ d.mets,okM y
def okFil (f:Fil):Prop:=f.incs.length≤100000∧f.spaces.length≤100000∧f.defs.length≤100000∧∀ y ∈ f.defs,okD y
end Go.Proofs.YteclejplbphkpaaGreat
namespace Go.Proofs.YteclejplbphkpaaGreat
theorem okC_leaf {n k d:Nat} {i:Int} {s:List UInt8} (h1 : -9223372036854775808≤i) (h2:i≤9223372036854775807) (h3:d<18446744073709551616):okC (n+1) (.mk k i d s []) :=
 ⟨⟨h1,h2⟩,h3,Nat.zero_le _,fun y hy=>by cases hy⟩
theorem okC_con0:okC 13 con0:=okC_leaf (by decide) (by decide) (by decide)
theorem flat_len {α:Type} (f:α→List UInt8) (n:Nat):∀ (l:List α),(∀ x ∈ l,(f x).length≤n)→(l.flatMap f).length≤l.length * n
 | [],_=>by simp
 | x :: l,h=>by
  have h1:=h x (List.mem_cons_self ..)
  have h2:=flat_len f n l fun y hy=>h y (List.mem_cons_of_mem _ hy)
  rw [List.flatMap_cons,List.length_append,List.length_cons,Nat.succ_mul]
  omega
theorem comma_len (n:Nat):∀ (l:List (List UInt8)),(∀ x ∈ l,x.length≤n)→(commaF l).length≤l.length * (n+2)
 | [],_=>by simp [commaF]
 | [x],h=>by have:=h x (List.mem_cons_self ..);simp [commaF];omega
 | x :: y :: r,h=>by
  have h1:=h x (List.mem_cons_self ..)
  have h2:=comma_len n (y :: r) fun y hy=>h y (List.mem_cons_of_mem _ hy)
  show (x++[44,32]++commaF (y :: r)).length≤(y :: r).length.succ * (n+2)
  rw [Nat.succ_mul]
  simp only [List.length_append,List.length_cons,List.length_nil] at h2 ⊢
  omega
theorem AllI.mem {α:Type} {P:Nat→α→Prop} {l:List α} (h:AllI P l) {x:α} (hx:x ∈ l):∃ i,i<l.length∧P i x:=by
 obtain ⟨i,hi,rfl⟩:=List.getElem_of_mem hx
 exact ⟨i,hi,h i _ (List.getElem?_eq_getElem hi)⟩
section
variable {tn:Int→List UInt8} {sh:Nat→List UInt8}
structure LenN (tn:Int→List UInt8) (sh:Nat→List UInt8):Prop where
 ten:∀ v:Int,-9223372036854775808≤v→v≤9223372036854775807→(tn v).length≤20
 sho:∀ B:Nat,B<18446744073709551616→(sh B).length≤50
theorem con_leaf_len (hL:LenN tn sh) {n k d:Nat} {i:Int} {s:List UInt8} (h1 : -9223372036854775808≤i) (h2:i≤9223372036854775807) (h3:d<18446744073709551616):(constF tn sh (n+1) (.mk k i d s [])).length≤50+s.length:=by
 unfold constF
 have:=hL.ten i h1 h2
 have:=hL.sho d h3
 split
 ·omega
 ·split
  ·omega
  ·split
   ·split <;> simp <;> omega
   ·split
    ·omega
    ·split <;> simp [commaF,pairsF] <;> omega
theorem init_in (hL:LenN tn sh) (t pre r:List UInt8) (hp:pre.length≤5):okC 13 (conO (initP t pre r).1)∧(constF tn sh 13 (conO (initP t pre r).1)).length≤58:=by
 have key:∀ (k d:Nat) (i:Int) (s:List UInt8),-9223372036854775808≤i→i≤9223372036854775807→d<18446744073709551616→s.length≤8→okC 13 (conO ⟨k,i,d,s⟩)∧(constF tn sh 13 (conO ⟨k,i,d,s⟩)).length≤58 :=
  fun k d i s a1 a2 a3 a4=>⟨okC_leaf a1 a2 a3,Nat.le_trans (con_leaf_len hL a1 a2 a3) (by show 50+s.length≤58;omega)⟩
 have n1:=numP_lt 200 (by decide) r
 have n2:=numP_lt 255 (by decide) r
 have n3:=numP_lt 255 (by decide) (numP 255 r).2
 unfold initP
 split
 ·exact key _ _ _ _ (by omega) (by omega) (by decide) (Nat.zero_le _)
 ·split
  ·exact key _ _ _ _ (by decide) (by decide) (by omega) (Nat.zero_le _)
  ·split
   ·refine key _ _ _ _ (by decide) (by decide) (by decide) (getD_len _ _ _ fun l hl=>?_)
    simp [initL] at hl
    rcases hl with rfl | rfl | rfl | rfl <;> simp
   ·split
    ·refine key _ _ _ _ (by decide) (by decide) (by decide) (getD_len _ _ _ fun l hl=>?_)
     simp [boolL] at hl
     rcases hl with rfl | rfl <;> simp
    ·split
     ·exact key _ _ _ _ (by decide) (by decide) (by decide) (by simp;omega)
     ·split
      ·exact key _ _ _ _ (by decide) (by decide) (by decide) (by simp;omega)
      ·exact key _ _ _ _ (by decide) (by decide) (by decide) (Nat.zero_le _)
theorem typOf_len {pre t:List UInt8} (h:TypOf pre t) (hp:pre.length≤5):t.length≤72:=by
 obtain ⟨r,rfl⟩:=h
 have:=typ_len pre 3 r
 have:(pre.length+13) * (3+1)≤18 * 4:=Nat.mul_le_mul (by omega) (by omega)
 omega
theorem field_len (hL:LenN tn sh) (f:Fld) (h1 : -9223372036854775808≤f.id) (h2:f.id≤9223372036854775807) (h3:f.ty.length≤72) (h4:f.nm.length≤2) (h5:(constF tn sh 13 f.ini).length≤58):(fieldF tn sh f).length≤200:=by
 have:=hL.ten f.id h1 h2
 unfold fieldF
 simp only [List.length_append]
 split <;> split <;> split <;> (try split) <;> simp <;> omega
theorem fld_in (hL:LenN tn sh) {pre:List UInt8} (hp:pre.length≤5) {un:Bool} {i:Nat} (hi:i<21) {f:Fld} (h:PFld pre un i f):okF f∧(fieldF tn sh f).length≤200:=by
 obtain ⟨n,hn,hid⟩:=h.id
 have hb : -9223372036854775808≤f.id∧f.id≤9223372036854775807:=by
  rw [hid]
  have:i * n≤21 * 3:=Nat.mul_le_mul (by omega) (by omega)
  have e:(i:Int) * (n:Int)=((i * n:Nat):Int):=by rw [Int.natCast_mul]
  split
  ·rw [e];omega
  ·omega
 have hc:okC 13 f.ini∧(constF tn sh 13 f.ini).length≤58:=by
  rcases h.ini with ⟨_,e⟩ | ⟨_,r,e⟩
  ·rw [e];exact ⟨okC_con0,Nat.le_trans (con_leaf_len hL (by decide) (by decide) (by decide)) (by decide)⟩
  ·rw [e];exact init_in hL _ _ _ hp
 exact ⟨⟨hb,hc.1⟩,field_len hL f hb.1 hb.2 (typOf_len h.ty hp) (by rw [h.nm];exact Nat.le_refl _) hc.2⟩
theorem arg_in (hL:LenN tn sh) {pre:List UInt8} (hp:pre.length≤5) {i:Nat} (hi:i<21) {f:Fld} (h:PArg pre i f):okF f∧(fieldF tn sh f).length≤200:=by
 obtain ⟨T,hT,rfl⟩:=h
 have hb : -9223372036854775808≤1+(i:Int)∧1+(i:Int)≤9223372036854775807:=by omega
 exact ⟨⟨hb,okC_con0⟩,field_len hL _ hb.1 hb.2 (typOf_len hT hp) (Nat.le_refl _) (Nat.le_trans (con_leaf_len hL (by decide) (by decide) (by decide)) (by decide))⟩
theorem thr_in (hL:LenN tn sh):okF thrX∧(fieldF tn sh thrX).length≤200 :=
 ⟨⟨by decide,okC_con0⟩,field_len hL _ (by decide) (by decide) (by decide) (by decide) (Nat.le_trans (con_leaf_len hL (by decide) (by decide) (by decide)) (by decide))⟩
theorem fields_len (l:List Fld) (k:Nat) (hk:l.length≤k) (h:∀ f ∈ l,(fieldF tn sh f).length≤200):(fieldsF tn sh l).length≤k * 202:=by
 have:=comma_len 200 (l.map (fieldF tn sh)) fun x hx=>by
  obtain ⟨f,hf,rfl⟩:=List.mem_map.1 hx
  exact h f hf
 unfold fieldsF
 rw [List.length_map] at this
 exact Nat.le_trans this (Nat.mul_le_mul_right _ hk)
theorem met_in (hL:LenN tn sh) {pre:List UInt8} (hp:pre.length≤5) {i:Nat} {m:Met} (h:PMet pre i m):okM m∧(methodF tn sh m).length≤1000:=by
 have ha:∀ f ∈ m.args,okF f∧(fieldF tn sh f).length≤200:=fun f hf=>by
  obtain ⟨j,hj,hP⟩:=h.args.mem hf
  exact arg_in hL hp (by have:=h.alen;omega) hP
 have ht:m.thr.length≤1∧∀ f ∈ m.thr,okF f∧(fieldF tn sh f).length≤200:=by
  have:m.thr=[]∨m.thr=[thrX]:=by
   rcases h.rest with ⟨_,_,e⟩ | ⟨_,_,e⟩ | ⟨_,_,e⟩
   ·exact .inl e
   ·exact .inr e
   ·exact e
  rcases this with e | e
  ·rw [e];exact ⟨by decide,fun f hf=>by cases hf⟩
  ·rw [e];exact ⟨by decide,fun f hf=>by rw [List.mem_singleton.1 hf];exact thr_in hL⟩
 have hr:m.ret.length≤72:=by
  rcases h.rest with ⟨_,e,_⟩ | ⟨_,e,_⟩ | ⟨_,e,_⟩
  ·rw [e];decide
  ·rw [e];decide
  ·exact typOf_len e hp
 refine ⟨⟨⟨by have:=h.alen;omega,fun f hf=>(ha f hf).1⟩,by have:=ht.1;omega,fun f hf=>(ht.2 f hf).1⟩,?_⟩
 have l1:=fields_len (tn:=tn) (sh:=sh) m.args 3 h.alen fun f hf=>(ha f hf).2
 have l2:=fields_len (tn:=tn) (sh:=sh) m.thr 1 ht.1 fun f hf=>(ht.2 f hf).2
 have l3:(oneF m.one).length≤9:=by cases m.one <;> decide
 have l4:m.nm.length=2:=by rw [h.nm];rfl
 unfold methodF
 simp only [List.length_append,List.length_cons,List.length_nil]
 split <;> simp <;> omega
theorem dfnF_in (hL:LenN tn sh) (k:Nat) (nm:List UInt8) (fs:List Fld) (hk:k=4∨k=5∨k=6) (hn:nm.length=1) (hl:fs.length≤21) (h:∀ f ∈ fs,okF f∧(fieldF tn sh f).length≤200) :
  okD (dfnF k nm fs)∧(defF tn sh (dfnF k nm fs)).length≤4500:=by
 refine ⟨⟨by show k≤7;omega,okC_con0,⟨by show fs.length≤100000;omega,fun y hy=>(h y hy).1⟩,⟨Nat.zero_le _,fun y hy=>by cases hy⟩,Nat.zero_le _,fun y hy=>by cases hy⟩,?_⟩
 have hw:(wordD k).length≤10:=by rcases hk with rfl | rfl | rfl <;> decide
 have h1:k≠1:=by omega
 have h3:k≠3:=by omega
 have hf:=flat_len (fldL tn sh) 204 fs fun f hf=>by
  have:=(h f hf).2
  unfold fldL
  simp
  omega
 have:fs.length * 204≤21 * 204:=Nat.mul_le_mul_right _ hl
 unfold defF dfnF
 dsimp only
 rw [if_neg h1,if_neg h3,if_pos rfl]
 simp only [List.length_append,List.flatMap_nil,List.length_nil,List.length_cons]
 omega
theorem rest_in (hL:LenN tn sh) {pre:List UInt8} (hp:pre.length≤5) {ds:List Dfn} (h:PRest pre ds):ds.length≤10∧(∀ d ∈ ds,okD d)∧(ds.flatMap (defF tn sh)).length≤15000:=by
 obtain ⟨fq,fx,ms,rfl,h1,h2,h3,h4,h5,h6⟩:=h.is
 have q1:∀ f ∈ fq,okF f∧(fieldF tn sh f).length≤200:=fun f hf=>by
  obtain ⟨j,hj,hP⟩:=h1.mem hf
  exact fld_in hL hp (by omega) hP
 have q2:∀ f ∈ fx,okF f∧(fieldF tn sh f).length≤200:=fun f hf=>by
  obtain ⟨j,hj,hP⟩:=h3.mem hf
  exact fld_in hL hp (by omega) hP
 have q3:∀ m ∈ ms,okM m∧(methodF tn sh m).length≤1000:=fun m hm=>by
  obtain ⟨j,hj,hP⟩:=h5.mem hm
  exact met_in hL hp hP
 obtain ⟨a1,a2⟩:=dfnF_in hL 4 [81] fq (by omega) rfl h2 q1
 obtain ⟨b1,b2⟩:=dfnF_in hL 6 [88] fx (by omega) rfl h4 q2
 have hm:=flat_len (methodF tn sh) 1000 ms fun m hm=>(q3 m hm).2
 have hm2:ms.length * 1000≤4 * 1000:=Nat.mul_le_mul_right _ h6
 have c2:(defF tn sh ⟨7,[86],[],con0,[],[],[],ms⟩).length≤4100:=by
  unfold defF
  dsimp only
  rw [if_neg (by decide),if_neg (by decide),if_pos rfl]
  simp only [List.length_append,List.flatMap_nil,List.length_nil,List.length_cons,wordD]
  omega
 have d2:(defF tn sh ⟨7,[87],[],con0,[],[],[86],[⟨[111,119,110],false,[105,51,50],[],[]⟩]⟩).length≤100:=by
  unfold defF
  dsimp only
  rw [if_neg (by decide),if_neg (by decide)]
  simp [wordD,methodF,oneF,fieldsF,commaF]
 refine ⟨by simp,fun d hd=>?_,?_⟩
 ·simp only [List.mem_cons,List.not_mem_nil,or_false] at hd
  rcases hd with rfl | rfl | rfl | rfl
  ·exact a1
  ·exact b1
  ·exact ⟨by simp,okC_con0,⟨Nat.zero_le _,fun y hy=>by cases hy⟩,⟨Nat.zero_le _,fun y hy=>by cases hy⟩,by show ms.length≤100000;omega,fun y hy=>(q3 y hy).1⟩
  ·exact ⟨by simp,okC_con0,⟨Nat.zero_le _,fun y hy=>by cases hy⟩,⟨Nat.zero_le _,fun y hy=>by cases hy⟩,by decide,fun y hy=>by
    rw [List.mem_singleton.1 hy];exact ⟨⟨Nat.zero_le _,fun y hy=>by cases hy⟩,Nat.zero_le _,fun y hy=>by cases hy⟩⟩
 ·simp only [List.flatMap_cons,List.flatMap_nil,List.length_append,List.length_nil]
  omega
theorem mem_in (hL:LenN tn sh) {i:Nat} (hi:i<3) {m:Mem} (h:PMem i m):(-9223372036854775808≤m.n∧m.n≤9223372036854775807)∧(memF tn m).length≤40:=by
 have hb:(-9223372036854775808≤m.n∧m.n≤9223372036854775807)∧m.nm.length=1:=by
  unfold PMem at h
  split at h
  ·rw [h];exact ⟨by decide,rfl⟩
  ·obtain ⟨h1,h2⟩:=h
   refine ⟨?_,by rw [h1];rfl⟩
   rcases h2 with ⟨_,e⟩ | ⟨_,k,hk,e⟩
   ·rw [e];decide
   ·rw [e];omega
 refine ⟨hb.1,?_⟩
 have:=hL.ten m.n hb.1.1 hb.1.2
 have:=hb.2
 unfold memF
 split <;> simp <;> omega
theorem con_in (hL:LenN tn sh) {ty:List UInt8} {c:Con} (h:PCon ty c):ty.length≤20∧okC 13 c∧(constF tn sh 13 c).length≤120:=by
 rcases h with ⟨rfl,k,hk,rfl⟩ | ⟨rfl,rfl⟩ | ⟨rfl,rfl⟩ | ⟨rfl,rfl⟩
 ·exact ⟨by decide,okC_leaf (by omega) (by omega) (by decide),Nat.le_trans (con_leaf_len hL (by omega) (by omega) (by decide)) (by simp)⟩
 ·refine ⟨by decide,⟨by decide,by decide,by decide,fun y hy=>?_⟩,?_⟩
  ·simp only [List.mem_cons,List.not_mem_nil,or_false] at hy
   rcases hy with rfl | rfl
   ·exact okC_leaf (by decide) (by decide) (by decide)
   ·exact okC_leaf (by decide) (by decide) (by decide)
  ·have:=hL.ten 0 (by decide) (by decide)
   show (91 :: (([69,46,65]++[44,32]++tn 0)++[93])).length≤120
   simp
   omega
 ·exact ⟨by decide,okC_leaf (by decide) (by decide) (by decide),Nat.le_trans (con_leaf_len hL (by decide) (by decide) (by decide)) (by simp)⟩
 ·exact ⟨by decide,okC_leaf (by decide) (by decide) (by decide),Nat.le_trans (con_leaf_len hL (by decide) (by decide) (by decide)) (by simp)⟩
theorem base_in (hL:LenN tn sh) {ds:List Dfn} (h:PBase ds):ds.length≤10∧(∀ d ∈ ds,okD d)∧(ds.flatMap (defF tn sh)).length≤15000:=by
 obtain ⟨ms,ty,c,fs,fu,rfl,h1,h2,h3,h4,h5,h6,h7,h8,h9⟩:=h.is
 have q1:∀ f ∈ fs,okF f∧(fieldF tn sh f).length≤200:=fun f hf=>by
  obtain ⟨j,hj,hP⟩:=h5.mem hf
  exact fld_in hL (by decide) (by omega) hP
 have q2:∀ f ∈ fu,okF f∧(fieldF tn sh f).length≤200:=fun f hf=>by
  obtain ⟨j,hj,hP⟩:=h7.mem hf
  exact fld_in hL (by decide) (by omega) hP
 have q3:∀ m ∈ ms,(-9223372036854775808≤m.n∧m.n≤9223372036854775807)∧(memF tn m).length≤40:=fun m hm=>by
  obtain ⟨j,hj,hP⟩:=h1.mem hm
  exact mem_in hL (by omega) hP
 obtain ⟨a1,a2⟩:=dfnF_in hL 4 [80] fs (by omega) rfl h6 q1
 obtain ⟨b1,b2⟩:=dfnF_in hL 5 [85] fu (by omega) rfl h8 q2
 obtain ⟨c1,c2,c3⟩:=con_in hL h4
 have hm:=flat_len (memF tn) 40 ms fun m hm=>(q3 m hm).2
 have hm2:ms.length * 40≤3 * 40:=Nat.mul_le_mul_right _ h3
 have d1:(defF tn sh ⟨2,[69],[],con0,[],ms,[],[]⟩).length≤200:=by
  unfold defF
  dsimp only
  rw [if_neg (by decide),if_neg (by decide),if_pos rfl]
  simp only [List.length_append,List.flatMap_nil,List.length_nil,List.length_cons,wordD]
  omega
 have d2:(defF tn sh ⟨1,[84],ty,con0,[],[],[],[]⟩).length≤100:=by
  unfold defF
  dsimp only
  rw [if_pos rfl]
  simp only [List.length_append,List.length_nil,List.length_cons,wordD]
  omega
 have d3:(defF tn sh ⟨3,[67],[84],c,[],[],[],[]⟩).length≤200:=by
  unfold defF
  dsimp only
  rw [if_neg (by decide),if_pos rfl]
  simp only [List.length_append,List.length_nil,List.length_cons,wordD]
  omega
 refine ⟨by simp,fun d hd=>?_,?_⟩
 ·simp only [List.mem_cons,List.not_mem_nil,or_false] at hd
  rcases hd with rfl | rfl | rfl | rfl | rfl
  ·exact ⟨by simp,okC_con0,⟨Nat.zero_le _,fun y hy=>by cases hy⟩,⟨by show ms.length≤100000;omega,fun y hy=>(q3 y hy).1⟩,Nat.zero_le _,fun y hy=>by cases hy⟩
  ·exact ⟨by simp,okC_con0,⟨Nat.zero_le _,fun y hy=>by cases hy⟩,⟨Nat.zero_le _,fun y hy=>by cases hy⟩,Nat.zero_le _,fun y hy=>by cases hy⟩
  ·exact ⟨by simp,c2,⟨Nat.zero_le _,fun y hy=>by cases hy⟩,⟨Nat.zero_le _,fun y hy=>by cases hy⟩,Nat.zero_le _,fun y hy=>by cases hy⟩
  ·exact a1
  ·exact b1
 ·simp only [List.flatMap_cons,List.flatMap_nil,List.length_append,List.length_nil]
  omega
theorem files_in (hL:LenN tn sh) {fls:List Fil} (h:PFiles fls):0<fls.length∧fls.length≤2∧∀ f ∈ fls,okFil f∧(printF tn sh f).length≤40000:=by
 rcases h with ⟨d1,d2,rfl,hr,hb⟩ | ⟨d1,d2,rfl,hb,hr⟩
 ·obtain ⟨r1,r2,r3⟩:=rest_in hL (by decide) hr
  obtain ⟨b1,b2,b3⟩:=base_in (tn:=tn) (sh:=sh) hL hb
  refine ⟨by simp,by simp,fun f hf=>?_⟩
  simp only [List.mem_cons,List.not_mem_nil,or_false] at hf
  rcases hf with rfl | rfl
  ·refine ⟨⟨by simp,by simp,by show d1.length≤100000;omega,r2⟩,?_⟩
   unfold printF
   simp only [List.length_append,List.flatMap_cons,List.flatMap_nil,List.length_nil,incF,spcF,List.length_cons]
   omega
  ·refine ⟨⟨by simp,by simp,by show d2.length≤100000;omega,b2⟩,?_⟩
   unfold printF
   simp only [List.length_append,List.flatMap_nil,List.length_nil]
   omega
 ·obtain ⟨r1,r2,r3⟩:=rest_in (tn:=tn) (sh:=sh) hL (by decide) hr
  obtain ⟨b1,b2,b3⟩:=base_in (tn:=tn) (sh:=sh) hL hb
  refine ⟨by simp,by simp,fun f hf=>?_⟩
  simp only [List.mem_cons,List.not_mem_nil,or_false] at hf
  subst hf
  refine ⟨⟨by simp,by simp,by show (d1++d2).length≤100000;rw [List.length_append];omega,fun y hy=>(List.mem_append.1 hy).elim (b2 y) (r2 y)⟩,?_⟩
  unfold printF
  simp only [List.length_append,List.flatMap_nil,List.length_nil,List.flatMap_append]
  omega
end
end Go.Proofs.YteclejplbphkpaaGreat
namespace Go.Proofs.YteclejplbphkpaaGreat
open Go.RowKit
theorem ge10_ex (x y:Nat):∀ (n:Nat) (a:Int),GE10 x y a→¬ GE10 x y (a+(n:Int))→∃ T,a≤T∧GE10 x y T∧¬ GE10 x y (T+1)
 | 0,a,h1,h2=>absurd (by simpa using h1) h2
 | n+1,a,h1,h2=>by
  by_cases h:GE10 x y (a+1)
  ·obtain ⟨T,t1,t2,t3⟩:=ge10_ex x y n (a+1) h (by rw [show a+1+(n:Int)=a+((n+1:Nat):Int) by omega];exact h2)
   exact ⟨T,by omega,t2,t3⟩
  ·exact ⟨a,Int.le_refl _,h1,h⟩
theorem tail_len (l:List UInt8):(tailS l).length≤l.length+1:=by
 have:=trimB_len l
 unfold tailS
 split
 ·simp
 ·omega
theorem showR_ex (B:Nat):∃ l,ShowR B l∧l.length≤50:=by
 obtain ⟨b,hb⟩:∃ b,B % 9223372036854775808=b:=⟨_,rfl⟩
 have hs:(sgS B).length≤1:=by unfold sgS;split <;> simp
 unfold ShowR
 rw [hb]
 by_cases h1:LIM≤b
 ·exact ⟨[],by rw [if_pos h1],by simp⟩
 ·by_cases h2:b=0
  ·refine ⟨sgS B++[48,46,48,101,48],by rw [if_neg h1,if_pos h2],?_⟩
   rw [List.length_append];simp;omega
  ·have hlt:b<LIM:=by omega
   have hlo:=ex_lo b hlt h2
   have hhi:=ex_hi b hlt h2
   obtain ⟨T,t1,t2,t3⟩:=ge10_ex (exX b) (exY b) 800 (-400) hlo hhi
   have t4:T<400:=by
    rcases Int.lt_or_le T 400 with h | h
    ·exact h
    ·exact absurd (ge10_mono t2 h) hhi
   obtain ⟨d1,d2⟩:=digQ_b (exX b) (exY b) T (exY_pos b) t2 t3
   have hdl:=decS_len 17 (digQ (exX b) (exY b) T) (by omega)
   refine ⟨sgS B++showD T (digQ (exX b) (exY b) T),by rw [if_neg h1,if_neg h2];exact ⟨T,t2,t3,rfl⟩,?_⟩
   have htl:=tail_len ((decS (digQ (exX b) (exY b) T)).drop 1)
   have htn:=tenS_len (T+((decS (digQ (exX b) (exY b) T)).length:Nat) - 17) (by omega) (by omega)
   unfold showD
   simp only [List.length_append,List.length_cons,List.length_take]
   rw [List.length_drop] at htl
   omega
theorem tenS_len20 (v:Int) (h1 : -9223372036854775808≤v) (h2:v≤9223372036854775807):(tenS v).length≤20:=by
 unfold tenS
 split
 ·have:=decS_len 18 (-v).toNat (by omega);simp;omega
 ·have:=decS_len 18 v.toNat (by omega);omega
theorem sh_ex:∃ sh:Nat→List UInt8,(∀ B l,ShowR B l→l=sh B)∧∀ B,(sh B).length≤50 :=
 ⟨fun B=>Classical.choose (showR_ex B),fun B l h=>showR_one h (Classical.choose_spec (showR_ex B)).1,fun B=>(Classical.choose_spec (showR_ex B)).2⟩
end Go.Proofs.YteclejplbphkpaaGreat
namespace Go.Proofs.YteclejplbphkpaaGreat
open Go.RowKit
theorem prN_is {sh:Nat→List UInt8} (hsh:∀ B l,ShowR B l→l=sh B):PrN tenS sh where
 ten:=fun v w h1 h2=>tenText_any v w h1 h2
 sho:=fun B w hB=>(refShow_any B w hB).mono fun e w' ⟨t,l,he,ht,hs,hn⟩=>by
  subst he
  obtain rfl:=hsh B l hs.out
  exact ⟨by rw [ht.out.eq],hn⟩
end Go.Proofs.YteclejplbphkpaaGreat
