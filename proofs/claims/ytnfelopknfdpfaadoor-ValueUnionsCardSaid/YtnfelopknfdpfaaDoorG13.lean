/- value's hasFields. value's hasFields: what it tells. value's Check at simple types, at an enum's, at a struct's; Fields; Kind. value.Check at simple types and at an enum's. value.Check at a struct's, value.Fields. value.Fields, value.Kind, value.Valid. A region that draws its order, holds calls that make memory, and ends in a store: the walk of Hyb, the store aside. Plain. -/
import Derived.Test.YtnfelopknfdpfaaDoorG11
import Derived.Test.YtnfelopknfdpfaaDoorG12
import Derived.Shelf.Unicode.ValidAny
import Derived.Test.YtnfelopknfdpfaaDoorG00
set_option linter.unusedVariables false
set_option linter.unusedSimpArgs false
set_option linter.unnecessarySimpa false
namespace Go.Proofs.YtnfelopknfdpfaaDoor
open Go.RowKit
set_option maxRecDepth 100000 in
set_option maxHeartbeats 25600000 in
theorem hf4 {W B gc gm g5 gr gp F n N Ic Lc fc:Nat} {IA LA fA:Option Addr} {K xn:Int} {xk:Nat} {xs nm:List UInt8} {s0 s1 s2:Value} {m:List (List UInt8×Option Nat)} {w w1:World} (hg5:w.heap.size=g5) (hw1:w.alloc (.cells #[.int .i64 (xk:Int),.int .i64 xn,.string ⟨xs.toArray⟩,.slice LA N Lc,.slice IA N Ic] 41)=w1) (HC1:Hid (Chk W B gc gm s0 s1 s2 (n:Int) m w1)) (HF1:Hid (FrW W B w w1)) (HG5:Hid (B≤g5)) (HB1:Hid (Blk w1 g5 g5 #[.int .i64 (xk:Int),.int .i64 xn,.string ⟨xs.toArray⟩,.slice LA N Lc,.slice IA N Ic] 41)) (HR3:Hid (Blk w1 B gr #[.int .i64 K,.string ⟨nm.toArray⟩,.slice fA F fc,.map (some gp)] 90)) (HD:Hid (∀ wx,Nx w1 wx→Calls Tryd.prog 26 #[.slice IA N Ic] wx fun e w'=>e = .returned (.bool true)∧Nx wx w')) (HMY:Hid (mayB K N=true)) (HRQ:Hid (∀ wx,Nx w1 wx→Calls Tryd.prog 28 #[.agg #[.int .i64 K,.string ⟨nm.toArray⟩,.slice fA F fc],.slice IA N Ic] wx fun e w'=>e = .returned (.bool true)∧Nx wx w')) {EA:Bool} (HAO:Hid (∀ wx,Nx w1 wx→Calls Tryd.prog 29 #[.pointer (some ⟨gc,0,none⟩),.pointer (some ⟨gr,0,none⟩),.agg #[.int .i64 (xk:Int),.int .i64 xn,.string ⟨xs.toArray⟩,.slice LA N Lc,.slice IA N Ic]] wx fun e w'=>e = .returned (.bool EA)∧(∃ m',Chk W B gc gm s0 s1 s2 (n:Int) m' w')∧FrW W B wx w')) :
  Calls Tryd.prog 16 #[.pointer (some ⟨gc,0,none⟩),.pointer (some ⟨gr,0,none⟩),.agg #[.int .i64 (xk:Int),.int .i64 xn,.string ⟨xs.toArray⟩,.slice LA N Lc,.slice IA N Ic]] w fun e w'=>e = .returned (.bool EA)∧(∃ m',Chk W B gc gm s0 s1 s2 (n:Int) m' w')∧FrW W B w w':=by
 have e0:((N:Int) == (N:Int))=true:=by simp
 have HNE:Hid (g5≠gm∧gr≠gm):=by have h1:=HC1.out.m2;have h2:=HR3.out.1;have h3:=HC1.out.m1;have h4:=HC1.out.sz;unfold Hid;have h5:=HG5.out;omega
 go_enter Tryd.func16,Tryd.ntmps16
 go_upto_region 1 with (fail)
 try rw [hw1]
 clear hw1 hg5
 refine ED.wp_region_hyb ⟨[36],gm,[[1,2,6,7,11,12,22,23,31,32,36],[2,6,7,11,12,22,23,31,32,36],[6,7,11,12,22,23,31,32,36],[4,5,6,7,11,12,22,23,31,32,36],[5,6,7,11,12,22,23,31,32,36],[6,7,11,12,22,23,31,32,36],[7,11,12,22,23,31,32,36],[11,12,22,23,31,32,36],[9,10,12,22,23,31,32,36],[10,12,22,23,31,32,36],[12,22,23,31,32,36],[12,22,23,31,32,36],[22,23,31,32,36],[14,15,16,17,21,23,31,32,36],[15,16,17,21,23,31,32,36],[16,17,21,23,31,32,36],[17,21,23,31,32,36],[21,23,31,32,36],[19,20,21,23,31,32,36],[20,21,23,31,32,36],[21,23,31,32,36],[23,31,32,36],[23,31,32,36],[31,32,36],[25,26,27,30,32,36],[26,27,30,32,36],[27,30,32,36],[30,32,36],[29,30,32,36],[30,32,36],[32,36],[32,36],[36],[36],[36],[36],[],[],[]]⟩ [(0,1),(1,1),(2,1),(3,1),(4,1),(5,1),(6,1),(7,1),(8,1),(9,1),(10,0),(11,1),(12,1),(13,1),(14,1),(15,1),(16,1),(17,1),(18,1),(19,1),(20,1),(21,0),(22,1),(23,1),(24,1),(25,1),(26,1),(27,1),(28,1),(29,1),(30,0),(31,1),(32,1),(33,1),(34,1),(35,1),(36,0),(37,2),(38,2)] (by kernel_rfl) (by kernel_rfl) ?_
 have v3:∀ x:ED.GrO gm w1,x.1.cell? ⟨g5,3,none⟩=some (.slice LA N Lc):=fun x=>(x.2.blk (HB1.out) HNE.out.1).cell 3
 have v4:∀ x:ED.GrO gm w1,x.1.cell? ⟨g5,4,none⟩=some (.slice IA N Ic):=fun x=>(x.2.blk (HB1.out) HNE.out.1).cell 4
 have v0:∀ x:ED.GrO gm w1,x.1.cell? ⟨g5,0,none⟩=some (.int .i64 (xk:Int)):=fun x=>(x.2.blk (HB1.out) HNE.out.1).cell 0
 have v1:∀ x:ED.GrO gm w1,x.1.cell? ⟨g5,1,none⟩=some (.int .i64 xn):=fun x=>(x.2.blk (HB1.out) HNE.out.1).cell 1
 have v2:∀ x:ED.GrO gm w1,x.1.cell? ⟨g5,2,none⟩=some (.string ⟨xs.toArray⟩):=fun x=>(x.2.blk (HB1.out) HNE.out.1).cell 2
 have r0:∀ x:ED.GrO gm w1,x.1.cell? ⟨gr,0,none⟩=some (.int .i64 K):=fun x=>(x.2.blk (HR3.out) HNE.out.2).cell 0
 have r1:∀ x:ED.GrO gm w1,x.1.cell? ⟨gr,1,none⟩=some (.string ⟨nm.toArray⟩):=fun x=>(x.2.blk (HR3.out) HNE.out.2).cell 1
 have r2:∀ x:ED.GrO gm w1,x.1.cell? ⟨gr,2,none⟩=some (.slice fA F fc):=fun x=>(x.2.blk (HR3.out) HNE.out.2).cell 2
 iterate 10 (refine ED.hyb_calm rfl (fun K hK=>?_);go_simp;refine hK _ ?_;clear hK K)
 clear v0 v1 v2 v3 v4 r0 r1 r2
 refine ED.hyb_alone rfl (fun wa1 hnwa1 KK hK=>?_)
 go_simp
 refine (HD.out wa1 hnwa1).mono ?_;rintro e wb1 ⟨rfl,hnwb1⟩
 refine hK _ _ (.inr (Oth.nx hnwb1)) ?_
 clear hK KK
 have HX1:=Lib.hid (hnwa1.trans hnwb1)
 clear hnwa1 hnwb1
 have v3:∀ x:ED.GrO gm wb1,x.1.cell? ⟨g5,3,none⟩=some (.slice LA N Lc):=fun x=>(x.2.blk (HB1.out.below HX1.out) HNE.out.1).cell 3
 have v4:∀ x:ED.GrO gm wb1,x.1.cell? ⟨g5,4,none⟩=some (.slice IA N Ic):=fun x=>(x.2.blk (HB1.out.below HX1.out) HNE.out.1).cell 4
 have v0:∀ x:ED.GrO gm wb1,x.1.cell? ⟨g5,0,none⟩=some (.int .i64 (xk:Int)):=fun x=>(x.2.blk (HB1.out.below HX1.out) HNE.out.1).cell 0
 have v1:∀ x:ED.GrO gm wb1,x.1.cell? ⟨g5,1,none⟩=some (.int .i64 xn):=fun x=>(x.2.blk (HB1.out.below HX1.out) HNE.out.1).cell 1
 have v2:∀ x:ED.GrO gm wb1,x.1.cell? ⟨g5,2,none⟩=some (.string ⟨xs.toArray⟩):=fun x=>(x.2.blk (HB1.out.below HX1.out) HNE.out.1).cell 2
 have r0:∀ x:ED.GrO gm wb1,x.1.cell? ⟨gr,0,none⟩=some (.int .i64 K):=fun x=>(x.2.blk (HR3.out.below HX1.out) HNE.out.2).cell 0
 have r1:∀ x:ED.GrO gm wb1,x.1.cell? ⟨gr,1,none⟩=some (.string ⟨nm.toArray⟩):=fun x=>(x.2.blk (HR3.out.below HX1.out) HNE.out.2).cell 1
 have r2:∀ x:ED.GrO gm wb1,x.1.cell? ⟨gr,2,none⟩=some (.slice fA F fc):=fun x=>(x.2.blk (HR3.out.below HX1.out) HNE.out.2).cell 2
 iterate 10 (refine ED.hyb_calm rfl (fun K hK=>?_);go_simp;refine hK _ ?_;clear hK K)
 clear v0 v1 v2 v3 v4 r0 r1 r2
 refine ED.hyb_alone rfl (fun wa2 hnwa2 KK hK=>?_)
 go_simp
 refine (mayHave_any wa2 K N).mono ?_;rintro e wb2 ⟨rfl,hwwb2⟩
 obtain rfl:=hwwb2.symm
 rw [HMY.out]
 refine hK _ _ (.inr (Oth.refl _ _)) ?_
 clear hK KK
 have HX2:=Lib.hid (HX1.out.trans hnwa2)
 clear hnwa2
 have v3:∀ x:ED.GrO gm wa2,x.1.cell? ⟨g5,3,none⟩=some (.slice LA N Lc):=fun x=>(x.2.blk (HB1.out.below HX2.out) HNE.out.1).cell 3
 have v4:∀ x:ED.GrO gm wa2,x.1.cell? ⟨g5,4,none⟩=some (.slice IA N Ic):=fun x=>(x.2.blk (HB1.out.below HX2.out) HNE.out.1).cell 4
 have v0:∀ x:ED.GrO gm wa2,x.1.cell? ⟨g5,0,none⟩=some (.int .i64 (xk:Int)):=fun x=>(x.2.blk (HB1.out.below HX2.out) HNE.out.1).cell 0
 have v1:∀ x:ED.GrO gm wa2,x.1.cell? ⟨g5,1,none⟩=some (.int .i64 xn):=fun x=>(x.2.blk (HB1.out.below HX2.out) HNE.out.1).cell 1
 have v2:∀ x:ED.GrO gm wa2,x.1.cell? ⟨g5,2,none⟩=some (.string ⟨xs.toArray⟩):=fun x=>(x.2.blk (HB1.out.below HX2.out) HNE.out.1).cell 2
 have r0:∀ x:ED.GrO gm wa2,x.1.cell? ⟨gr,0,none⟩=some (.int .i64 K):=fun x=>(x.2.blk (HR3.out.below HX2.out) HNE.out.2).cell 0
 have r1:∀ x:ED.GrO gm wa2,x.1.cell? ⟨gr,1,none⟩=some (.string ⟨nm.toArray⟩):=fun x=>(x.2.blk (HR3.out.below HX2.out) HNE.out.2).cell 1
 have r2:∀ x:ED.GrO gm wa2,x.1.cell? ⟨gr,2,none⟩=some (.slice fA F fc):=fun x=>(x.2.blk (HR3.out.below HX2.out) HNE.out.2).cell 2
 iterate 8 (refine ED.hyb_calm rfl (fun K hK=>?_);go_simp;refine hK _ ?_;clear hK K)
 clear v0 v1 v2 v3 v4 r0 r1 r2
 refine ED.hyb_alone rfl (fun wa3 hnwa3 KK hK=>?_)
 go_simp
 refine (HRQ.out wa3 (HX2.out.trans hnwa3)).mono ?_;rintro e wb3 ⟨rfl,hnwb3⟩
 refine hK _ _ (.inr (Oth.nx hnwb3)) ?_
 clear hK KK
 have HX3:=Lib.hid ((HX2.out.trans hnwa3).trans hnwb3)
 clear hnwa3 hnwb3
 have v3:∀ x:ED.GrO gm wb3,x.1.cell? ⟨g5,3,none⟩=some (.slice LA N Lc):=fun x=>(x.2.blk (HB1.out.below HX3.out) HNE.out.1).cell 3
 have v4:∀ x:ED.GrO gm wb3,x.1.cell? ⟨g5,4,none⟩=some (.slice IA N Ic):=fun x=>(x.2.blk (HB1.out.below HX3.out) HNE.out.1).cell 4
 have v0:∀ x:ED.GrO gm wb3,x.1.cell? ⟨g5,0,none⟩=some (.int .i64 (xk:Int)):=fun x=>(x.2.blk (HB1.out.below HX3.out) HNE.out.1).cell 0
 have v1:∀ x:ED.GrO gm wb3,x.1.cell? ⟨g5,1,none⟩=some (.int .i64 xn):=fun x=>(x.2.blk (HB1.out.below HX3.out) HNE.out.1).cell 1
 have v2:∀ x:ED.GrO gm wb3,x.1.cell? ⟨g5,2,none⟩=some (.string ⟨xs.toArray⟩):=fun x=>(x.2.blk (HB1.out.below HX3.out) HNE.out.1).cell 2
 have r0:∀ x:ED.GrO gm wb3,x.1.cell? ⟨gr,0,none⟩=some (.int .i64 K):=fun x=>(x.2.blk (HR3.out.below HX3.out) HNE.out.2).cell 0
 have r1:∀ x:ED.GrO gm wb3,x.1.cell? ⟨gr,1,none⟩=some (.string ⟨nm.toArray⟩):=fun x=>(x.2.blk (HR3.out.below HX3.out) HNE.out.2).cell 1
 have r2:∀ x:ED.GrO gm wb3,x.1.cell? ⟨gr,2,none⟩=some (.slice fA F fc):=fun x=>(x.2.blk (HR3.out.below HX3.out) HNE.out.2).cell 2
 iterate 5 (refine ED.hyb_calm rfl (fun K hK=>?_);go_simp;refine hK _ ?_;clear hK K)
 clear v0 v1 v2 v3 v4 r0 r1 r2
 refine ED.hyb_alone rfl (fun wa4 hnwa4 KK hK=>?_)
 go_simp
 refine (HAO.out wa4 (HX3.out.trans hnwa4)).mono ?_;rintro e wb4 ⟨rfl,hcwb4,hfwb4⟩
 refine hK _ _ (.inl (List.mem_singleton.2 rfl)) ?_
 clear hK KK
 have HC9:=Lib.hid hcwb4
 have HF9:=Lib.hid ((FrW.nx (W:=W) (B:=B) (HX3.out.trans hnwa4)).trans hfwb4)
 clear hnwa4 hcwb4 hfwb4
 iterate 2 (refine ED.hyb_pure rfl (fun K hK=>?_);go_simp;refine hK _ ?_;clear hK K)
 refine ED.hyb_nil (fun wz hnz=>?_)
 have HCZ:Hid (∃ m',Chk W B gc gm s0 s1 s2 (n:Int) m' wz):=by obtain ⟨m2,h⟩:=HC9.out;exact ⟨m2,h.nx hnz⟩
 have HFZ:=Lib.hid (HF1.out.trans (HF9.out.trans (FrW.nx hnz)))
 clear hnz
 go_wp2_with fail
 go_ret
 exact ⟨rfl,HCZ.out,HFZ.out⟩
end Go.Proofs.YtnfelopknfdpfaaDoor
namespace Go.Proofs.YtnfelopknfdpfaaDoor
open Go.RowKit
def hasP (K:Int) (fs:List FldP) (ids:List Int) (l:List Val):Bool:=decide (ids.length=l.length) && (ascB ids && (mayB K ids.length && (reqB fs ids && eachB fs ids l)))
theorem hasP_fld (K:Int) (fs:List FldP) (k:Nat) (a:Int) (s:List UInt8) (l:List Val) (ids:List Int):fldV K fs (.mk k a s l ids)=(decide (k=12) && hasP K fs ids l):=by
 simp only [fldV,hasP,mayB,reqB]
 cases decide (k=12) <;> cases decide (ids.length=l.length) <;> cases ascB ids <;> cases eachB fs ids l <;> cases (fs.all fun f=>!decide (f.req=1) || decide (f.id ∈ ids)) <;> cases (!decide (K=5) || decide (ids.length=1)) <;> cases (!decide (K=8) || decide (ids.length≤1)) <;> rfl
set_option maxRecDepth 100000 in
set_option maxHeartbeats 3200000 in
theorem hasFields_any {w0 w:World} {W B gc gm:Nat} {s0 s1 s2:Value} {n:Nat} {m:List (List UInt8×Option Nat)} (hn0:Nx w0 w) (hW:w0.heap.size≤W) (hc:Chk W B gc gm s0 s1 s2 (n:Int) m w) (h0:IsSlv s0) (h1:IsSlv s1) (h2:IsSlv s2) (hn9:n≤900)
  (gr:Nat) (K:Int) (nm:List UInt8) (fl:Value) (fs:List FldS) (hrec:RecS w B gr K nm fl fs) (hfs:RdFs w0 fl fs) (xk:Nat) (xn:Int) (xs:List UInt8) (xl xd:Value) (l:List Val) (ids:List Int) (hL:RdL (RdV 1 w0) w0 xl l) (hI:RdI w0 xd ids) (hl9:l.length≤20) (hi9:ids.length≤20)
  (hleaf:∀ v ∈ l,leafB v) (hids:∀ z ∈ ids,okZ z) (ht:TabK w0) (hm:MaxC w0) :
  Calls Tryd.prog 16 #[.pointer (some ⟨gc,0,none⟩),.pointer (some ⟨gr,0,none⟩),.agg #[.int .i64 (xk:Int),.int .i64 xn,.string ⟨xs.toArray⟩,xl,xd]] w fun e w'=>e = .returned (.bool (hasP K (fs.map pF) ids l))∧(∃ m',Chk W B gc gm s0 s1 s2 (n:Int) m' w')∧FrW W B w w':=by
 obtain ⟨LA,Lc,ys,hxl,-⟩:=id hL
 obtain ⟨IA,Ic,hxd,hI1,hI2,hI3⟩:=id hI
 obtain ⟨⟨fA,fc,hfl,hf1,hf2,hf3⟩,hf4,hf5,hf6⟩:=id hfs
 obtain ⟨gp,hr1,hr2,hr3,hr4⟩:=id hrec
 obtain ⟨g5,hg5⟩:∃ g,w.heap.size=g:=⟨_,rfl⟩
 obtain ⟨w1,hw1⟩:∃ x,w.alloc (.cells #[.int .i64 (xk:Int),.int .i64 xn,.string ⟨xs.toArray⟩,xl,xd] 41)=x:=⟨_,rfl⟩
 have hn1:Nx w w1:=by rw [← hw1];exact nx0 _ _
 have hb1:Blk w1 g5 g5 #[.int .i64 (xk:Int),.int .i64 xn,.string ⟨xs.toArray⟩,xl,xd] 41:=by rw [← hw1,← hg5];exact Blk.new w _ _
 have HC1:=Lib.hid (hc.nx hn1)
 have HG5:Hid (B≤g5):=by unfold Hid;rw [← hg5];exact hc.sz
 have HF1:=Lib.hid (FrW.nx (W:=W) (B:=B) hn1)
 have HB1:=Lib.hid hb1
 have HR3:=Lib.hid (hr3.below hn1)
 have HD:Hid (∀ wx,Nx w1 wx→Calls Tryd.prog 26 #[xd] wx fun e w'=>e = .returned (.bool (ascB ids))∧Nx wx w'):=fun wx hx=>by
  rw [hxd];exact distinct_any wx IA ids.length Ic ids rfl (by omega) (hI3.below (hn0.trans (hn1.trans hx)))
 have HRQ0:Hid (ascB ids=true→∀ wx,Nx w1 wx→Calls Tryd.prog 28 #[.agg #[.int .i64 K,.string ⟨nm.toArray⟩,fl],xd] wx fun e w'=>e = .returned (.bool (reqB (fs.map pF) ids))∧Nx wx w'):=fun ha wx hx=>by
  rw [hxd];exact hasReq_any wx K nm fl fs (hfs.nx (hn0.trans (hn1.trans hx))) IA ids.length Ic ids rfl (by omega) (hI3.below (hn0.trans (hn1.trans hx))) ha
 have HAO0:Hid (ids.length=l.length→∀ wx,Nx w1 wx→Calls Tryd.prog 29 #[.pointer (some ⟨gc,0,none⟩),.pointer (some ⟨gr,0,none⟩),.agg #[.int .i64 (xk:Int),.int .i64 xn,.string ⟨xs.toArray⟩,xl,xd]] wx fun e w'=>e = .returned (.bool (eachB (fs.map pF) ids l))∧(∃ m',Chk W B gc gm s0 s1 s2 (n:Int) m' w')∧FrW W B wx w'):=fun hlen wx hx =>
  areOf_any (hn0.trans (hn1.trans hx)) hW (hc.nx (hn1.trans hx)) h0 h1 h2 hn9 gr K nm fl fs (hrec.nx (hn1.trans hx)) hfs xk xn xs xl xd l ids hL hI hlen hl9 hleaf hids ht hm
 have HHP:Hid (hasP K (fs.map pF) ids l=(decide (ids.length=l.length) && (ascB ids && (mayB K ids.length && (reqB (fs.map pF) ids && eachB (fs.map pF) ids l))))):=rfl
 rw [HHP.out]
 obtain ⟨N,hN⟩:∃ N,ids.length=N:=⟨_,rfl⟩
 obtain ⟨M,hM⟩:∃ M,l.length=M:=⟨_,rfl⟩
 obtain ⟨F,hF⟩:∃ F,fs.length=F:=⟨_,rfl⟩
 obtain ⟨AS,hAS⟩:∃ b,ascB ids=b:=⟨_,rfl⟩
 obtain ⟨RQ,hRQ⟩:∃ b,reqB (fs.map pF) ids=b:=⟨_,rfl⟩
 obtain ⟨EA,hEA⟩:∃ b,eachB (fs.map pF) ids l=b:=⟨_,rfl⟩
 obtain ⟨MY,hMY⟩:∃ b,mayB K N=b:=⟨_,rfl⟩
 have HMY:=Lib.hid hMY
 subst hxl hxd hfl
 rw [hN,hM,hAS,hRQ,hEA,hMY]
 rw [hN,hAS] at HD
 rw [hN,hF,hAS,hRQ] at HRQ0
 rw [hN,hM,hEA] at HAO0
 rw [hM,hN] at HB1 hw1
 rw [hF] at HR3
 clear hL hI hfs hrec hI1 hI2 hI3 hf1 hf2 hf3 hf4 hf5 hf6 hr1 hr2 hr3 hr4 hn1 hb1 hc hn0 hW h0 h1 h2 hleaf hids ht hm hN hM hF hAS hRQ hEA hMY hl9 hi9 HHP
 by_cases hlen:N=M
 ·have HRQ1:=HRQ0.out
  have HAO:=Lib.hid (HAO0.out hlen)
  subst hlen
  rw [decide_eq_true rfl,Bool.true_and]
  cases AS with
  | false=>exact hf1 hg5 hw1 HC1 HF1 HG5 HB1 HR3 HD
  | true =>
   have HRQ:=Lib.hid (HRQ1 rfl)
   cases MY with
   | false=>exact hf2 hg5 hw1 HC1 HF1 HG5 HB1 HR3 HD HMY
   | true =>
    cases RQ with
    | false=>exact hf3 hg5 hw1 HC1 HF1 HG5 HB1 HR3 HD HMY HRQ
    | true=>exact hf4 hg5 hw1 HC1 HF1 HG5 HB1 HR3 HD HMY HRQ HAO
 ·have e0:((N:Int) == (M:Int))=false:=by simp;omega
  rw [decide_eq_false hlen,Bool.false_and]
  exact hf0 hg5 hw1 HC1 HF1 HG5 HB1 HR3 e0
end Go.Proofs.YtnfelopknfdpfaaDoor
namespace Go.Proofs.YtnfelopknfdpfaaDoor
open Go.RowKit
theorem check_of {w:World} (s0 s1 s2:Value) (h0:IsSlv s0) (h1:IsSlv s1) (h2:IsSlv s2) (t:List UInt8) (xk:Nat) (xn:Int) (xs:List UInt8) (lA dA:Option Addr) (lu lc du dc:Nat) (R:Bool) (P:Nat→Nat→Nat→World→Prop)
  (hP:∀ (B gm g:Nat) (w w':World),P B gm g w→Nx w w'→P B gm g w')
  (hsh:∀ (W B gc gm:Nat) (wx:World),Nx w wx→w.heap.size≤W→Chk W B gc gm s0 s1 s2 ((0:Nat):Int) [] wx→Calls Tryd.prog 14 #[.pointer (some ⟨gc,0,none⟩),.string ⟨t.toArray⟩] wx fun e w'=>∃ g m',e = .returned (.pointer (some ⟨g,0,none⟩))∧P B gm g w'∧Chk W B gc gm s0 s1 s2 ((0:Nat):Int) m' w'∧Oth gm wx w')
  (hft:∀ (W B gc gm g:Nat) (m:List (List UInt8×Option Nat)) (wx:World),Nx w wx→w.heap.size≤W→Chk W B gc gm s0 s1 s2 ((0:Nat):Int) m wx→P B gm g wx→Calls Tryd.prog 13 #[.pointer (some ⟨gc,0,none⟩),.pointer (some ⟨g,0,none⟩),.agg #[.int .i64 (xk:Int),.int .i64 xn,.string ⟨xs.toArray⟩,.slice lA lu lc,.slice dA du dc]] wx fun e w'=>e = .returned (.bool R)∧(∃ m',Chk W B gc gm s0 s1 s2 ((0:Nat):Int) m' w')∧FrW W B wx w') :
  Calls Tryd.prog 7 #[.agg #[s0,s1,s2],.string ⟨t.toArray⟩,.agg #[.int .i64 (xk:Int),.int .i64 xn,.string ⟨xs.toArray⟩,.slice lA lu lc,.slice dA du dc]] w fun e w'=>e = .returned (.bool R)∧Nx w w':=by
 have HNC:=@newChecker_any
 obtain ⟨A0,u0,c0,rfl⟩:=h0
 obtain ⟨A1,u1,c1,rfl⟩:=h1
 obtain ⟨A2,u2,c2,rfl⟩:=h2
 obtain ⟨g1,hg1⟩:∃ g,w.heap.size=g:=⟨_,rfl⟩
 obtain ⟨g2,hg2⟩:∃ g,g1+1=g:=⟨_,rfl⟩
 obtain ⟨w1,hw1⟩:∃ x,w.alloc (.cells #[.slice A0 u0 c0,.slice A1 u1 c1,.slice A2 u2 c2] 32)=x:=⟨_,rfl⟩
 have hz1:w1.heap.size=g2:=by rw [← hw1];simp;omega
 obtain ⟨w2,hw2⟩:∃ x,w1.alloc (.cells #[.int .i64 (xk:Int),.int .i64 xn,.string ⟨xs.toArray⟩,.slice lA lu lc,.slice dA du dc] 41)=x:=⟨_,rfl⟩
 have hb1:Blk w2 g1 g1 #[.slice A0 u0 c0,.slice A1 u1 c1,.slice A2 u2 c2] 32:=by rw [← hw2,← hw1,← hg1];exact (Blk.new w _ _).alloc _
 have hb2:Blk w2 g2 g2 #[.int .i64 (xk:Int),.int .i64 xn,.string ⟨xs.toArray⟩,.slice lA lu lc,.slice dA du dc] 41:=by rw [← hw2,← hz1];exact Blk.new w1 _ _
 have hn2:Nx w w2:=by rw [← hw2,← hw1];exact nx (nx0 _ _) (nx0 _ _)
 have a0:w2.cell? ⟨g1,0,none⟩=some (.slice A0 u0 c0):=hb1.cell 0
 have a1:w2.cell? ⟨g1,1,none⟩=some (.slice A1 u1 c1):=hb1.cell 1
 have a2:w2.cell? ⟨g1,2,none⟩=some (.slice A2 u2 c2):=hb1.cell 2
 have HB2:=Lib.hid hb2
 have HN2:=Lib.hid hn2
 have HC:=Lib.hid (HNC w2 (.slice A0 u0 c0) (.slice A1 u1 c1) (.slice A2 u2 c2) ⟨_,_,_,rfl⟩ ⟨_,_,_,rfl⟩ ⟨_,_,_,rfl⟩)
 have HSH:=Lib.hid hsh
 have HFT:=Lib.hid hft
 have HP:=Lib.hid hP
 clear hb1 hb2 hn2 hsh hft HNC hP
 go_enter Tryd.func7,Tryd.ntmps7
 go_upto_region 1 with (fail)
 try rw [hw1]
 try rw [hw2]
 clear hw1 hw2 hg1 hg2 hz1
 go_wp2_with fail
 refine HC.out.mono ?_;rintro e w3 ⟨gc,gm,rfl,hc3,hn3⟩
 have HC3:Hid (Chk w2.heap.size w3.heap.size gc gm (.slice A0 u0 c0) (.slice A1 u1 c1) (.slice A2 u2 c2) ((0:Nat):Int) [] w3):=hc3
 have HN3:=Lib.hid hn3
 have HBX:=Lib.hid (HB2.out.below hn3)
 have hgm:g2≠gm:=by have h1:=HB2.out.lt;have h2:=hc3.m1;omega
 have v0:∀ x:EO.GrO gm w3,x.1.cell? ⟨g2,0,none⟩=some (.int .i64 (xk:Int)):=fun x=>(x.2.blk HBX.out hgm).cell 0
 have v1:∀ x:EO.GrO gm w3,x.1.cell? ⟨g2,1,none⟩=some (.int .i64 xn):=fun x=>(x.2.blk HBX.out hgm).cell 1
 have v2:∀ x:EO.GrO gm w3,x.1.cell? ⟨g2,2,none⟩=some (.string ⟨xs.toArray⟩):=fun x=>(x.2.blk HBX.out hgm).cell 2
 have v3:∀ x:EO.GrO gm w3,x.1.cell? ⟨g2,3,none⟩=some (.slice lA lu lc):=fun x=>(x.2.blk HBX.out hgm).cell 3
 have v4:∀ x:EO.GrO gm w3,x.1.cell? ⟨g2,4,none⟩=some (.slice dA du dc):=fun x=>(x.2.blk HBX.out hgm).cell 4
 have HW:Hid (w.heap.size≤w2.heap.size):=HN2.out.size
 clear a0 a1 a2 hc3 hn3
 go_upto_region 2 with (fail)
 refine EO.wp_region_hyb ⟨[5],gm⟩ [(0,1),(1,1),(2,1),(4,1),(3,0),(5,0),(6,2)] (by kernel_rfl) (by kernel_rfl) ?_
 iterate 4 (refine EO.hyb_calm rfl (fun K hK=>?_);go_simp;refine hK _ ?_;clear hK K)
 clear v0 v1 v2 v3 v4
 refine EO.hyb_alone rfl (fun w4 hn4 K hK=>?_)
 go_simp
 refine (HSH.out _ _ _ _ _ (HN2.out.trans (HN3.out.trans hn4)) HW.out (HC3.out.nx hn4)).mono ?_;rintro e w5 ⟨g,m',rfl,hp5,hc5,ho5⟩
 refine hK _ _ (.inr ho5) ?_
 clear hK K
 refine EO.hyb_alone rfl (fun w6 hn6 K hK=>?_)
 go_simp
 have hn5:Nx w w5:=(FrW.oth ho5 (HC3.out).m1 (HC3.out).m2).to (HN2.out.trans (HN3.out.trans hn4)) HW.out
 refine (HFT.out _ _ _ _ _ _ _ (hn5.trans hn6) HW.out (hc5.nx hn6) (HP.out _ _ _ _ _ hp5 hn6)).mono ?_;rintro e w7 ⟨rfl,hc7,hf7⟩
 refine hK _ _ (.inl (List.mem_singleton.2 rfl)) ?_
 clear hK K
 have HN7:Hid (Nx w w7):=hf7.to (hn5.trans hn6) HW.out
 clear hf7 hc7 hn5 hn6 hp5 hc5 ho5 hn4
 iterate 1 (refine EO.hyb_pure rfl (fun K hK=>?_);go_simp;refine hK _ ?_;clear hK K)
 refine EO.hyb_nil (fun wz hnz=>?_)
 have HNZ:=Lib.hid (HN7.out.trans hnz)
 clear hnz
 go_wp2_with fail
 go_ret
 exact ⟨rfl,HNZ.out⟩
end Go.Proofs.YtnfelopknfdpfaaDoor
namespace Go.Proofs.YtnfelopknfdpfaaDoor
open Go.RowKit
theorem Sch0.sl {Sv:Value} (h:Sch0 Sv):∃ s0 s1 s2,Sv = .agg #[s0,s1,s2]∧IsSlv s0∧IsSlv s1∧IsSlv s2:=by
 obtain ⟨A,u,c,Ae,ue,ce,As,us,cs,rfl⟩:=h
 exact ⟨_,_,_,rfl,⟨_,_,_,rfl⟩,⟨_,_,_,rfl⟩,⟨_,_,_,rfl⟩⟩
theorem chkB_any (w:World) (Sv:Value) (x:ValS) (A:Val) (ty:List UInt8) (k:Nat) (ht:TabK w) (hm:MaxC w) (hs:Sch0 Sv) (hx:RdV 2 w x A) (hA:smallV A) (hk:baseT ty=some k) :
  Calls Tryd.prog 7 #[Sv,.string ⟨ty.toArray⟩,.agg (valA x)] w fun e w'=>e = .returned (.bool (chkB k A))∧Nx w w':=by
 obtain ⟨s0,s1,s2,rfl,h0,h1,h2⟩:=hs.sl
 obtain ⟨k',a,s,l,i⟩:=A
 obtain ⟨xk,xn,xs,xl,xd⟩:=x
 obtain ⟨z1,z2,z3,⟨lA,lc,lys,z4,-⟩,⟨dA,dc,z5,-⟩⟩:=hx
 dsimp only at z1 z2 z3 z4 z5
 subst z1 z2 z3 z4 z5
 obtain ⟨b1,b2,-⟩:=hA
 refine check_of s0 s1 s2 h0 h1 h2 ty xk xn xs lA dA l.length lc i.length dc _ (fun B gm g w=>Blk w B g (shB k) 77) (fun _ _ _ _ _ h hn=>h.below hn) ?_ ?_
 ·intro W B gc gm wx hn hW hc
  exact (shapeB_any h0 h1 h2 hc (ht.nx hn) (hm.nx hn) ty k hk).mono fun e w' h=>h
 ·intro W B gc gm g m wx hn hW hc hb
  exact fits_base hc (by omega) g k (head_base hk).2.2.2 hb ⟨xk,xn,xs,.slice lA l.length lc,.slice dA i.length dc⟩ (by show xk≤100;omega) b2 ⟨_,_,_,rfl⟩ ⟨_,_,_,rfl⟩
theorem ShE.nx {w w':World} {B g:Nat} {ns:List Int} (h:ShE w B g ns) (hn:Nx w w'):ShE w' B g ns:=by
 obtain ⟨ge,h1,h2,h3,h4⟩:=h
 exact ⟨ge,h1,h2,h3.below hn,h4.nx hn⟩
theorem ShE.fr {W B g:Nat} {w w':World} {ns:List Int} (h:ShE w B g ns) (hn:FrW W B w w'):ShE w' B g ns:=by
 obtain ⟨ge,h1,h2,h3,h4⟩:=h
 exact ⟨ge,h1,h2,hn.blk h3 h3.1,hn.mpb h4 h1⟩
theorem ShE.less {B B' g:Nat} {w:World} {ns:List Int} (h:ShE w B' g ns) (hB:B≤B'):ShE w B g ns:=by
 obtain ⟨ge,h1,h2,h3,h4⟩:=h
 exact ⟨ge,Nat.le_trans hB h1,h2,h3.less hB,h4⟩
set_option maxRecDepth 100000 in
set_option maxHeartbeats 6400000 in
theorem has_enm (w:World) (gc gx B:Nat) (ns:List Int) (hx:ShE w B gx ns) (xk:Nat) (xn:Int) (xs:List UInt8) (lA dA:Option Addr) (lu lc du dc:Nat) (hn:i64B xn) :
  Calls Tryd.prog 23 #[.pointer (some ⟨gc,0,none⟩),.pointer (some ⟨gx,0,none⟩),.agg #[.int .i64 (xk:Int),.int .i64 xn,.string ⟨xs.toArray⟩,.slice lA lu lc,.slice dA du dc]] w fun e w'=>e = .returned (.bool (decide (xn ∈ ns)))∧Nx w w':=by
 obtain ⟨ge,-,-,hb,hmp⟩:=hx
 obtain ⟨g1,hg1⟩:∃ g,w.heap.size=g:=⟨_,rfl⟩
 obtain ⟨w1,hw1⟩:∃ x,w.alloc (.cells #[.int .i64 (xk:Int),.int .i64 xn,.string ⟨xs.toArray⟩,.slice lA lu lc,.slice dA du dc] 41)=x:=⟨_,rfl⟩
 have hn1:Nx w w1:=by rw [← hw1];exact nx0 _ _
 have hb1:Blk w1 g1 g1 #[.int .i64 (xk:Int),.int .i64 xn,.string ⟨xs.toArray⟩,.slice lA lu lc,.slice dA du dc] 41:=by rw [← hw1,← hg1];exact Blk.new w _ _
 have k0:w1.cell? ⟨gx,0,none⟩=some (.int .i64 17):=(hb.below hn1).cell 0
 have a1:w1.cell? ⟨g1,1,none⟩=some (.int .i64 xn):=hb1.cell 1
 have k4:w1.cell? ⟨gx,4,none⟩=some (.map (some ge)):=(hb.below hn1).cell 4
 have a1':∀ o,(w1.alloc o).cell? ⟨g1,1,none⟩=some (.int .i64 xn):=fun o=>(hb1.alloc o).cell 1
 have k4':∀ o,(w1.alloc o).cell? ⟨gx,4,none⟩=some (.map (some ge)):=fun o=>((hb.below hn1).alloc o).cell 4
 obtain ⟨b,hbb⟩:∃ b,decide (xn ∈ ns)=b:=⟨_,rfl⟩
 have hlo:∀ wx,Nx w1 wx→(Instr.lookup 75 (.map (some ge)) (.int .i64 xn) true).run Tryd.prog wx = .ok (.tuple #[.agg #[],.bool b]) wx:=fun wx hx=>by
  have h:=(mapE.look ((hmp.nx hn1).nx hx) xn hn).2
  rw [ens_get,hbb] at h
  exact h
 have hlk:(Instr.lookup 75 (.map (some ge)) (.int .i64 xn) true).run Tryd.prog w1.drew = .ok (.tuple #[.agg #[],.bool b]) w1.drew:=hlo _ (Nx.drawn w1)
 have hlk':∀ o,(Instr.lookup 75 (.map (some ge)) (.int .i64 xn) true).run Tryd.prog (w1.alloc o).drew = .ok (.tuple #[.agg #[],.bool b]) (w1.alloc o).drew:=fun o=>hlo _ (nx (nx0 w1 o) (Nx.drawn (w1.alloc o)))
 rw [hbb]
 have HN1:=Lib.hid hn1
 clear hn1 hb1 hb hn hmp hlo hbb
 go_enter Tryd.func23,Tryd.ntmps23
 go_upto_region 1 with (fail)
 try rw [hw1]
 clear hw1 hg1
 go_upto_region 13 with (fail)
 go_region
 all_goals
  go_wp2_with fail
  go_ret
  first | exact ⟨rfl,HN1.out.trans (nx (Nx.drawn w1) (nx0 _ _))⟩ | exact ⟨rfl,HN1.out.trans (nx (nx0 w1 _) (Nx.drawn _))⟩ | exact ⟨rfl,HN1.out.trans (nx (nx (nx0 w1 _) (Nx.drawn _)) (nx0 _ _))⟩
theorem chkE_any (w:World) (Sv:Value) (x:ValS) (A:Val) (ms:List MemS) (ht:TabK w) (hm:MaxC w) (hs:SchE w Sv aE ms) (hx:RdV 2 w x A) (hA:smallV A) (hid:∀ m ∈ ms,i64B m.n) :
  Calls Tryd.prog 7 #[Sv,.string ⟨aE.toArray⟩,.agg (valA x)] w fun e w'=>e = .returned (.bool (chkE (ms.map fun (m:MemS)=>m.n) A))∧Nx w w':=by
 have hs0:=hs
 obtain ⟨s0,s1,s2,Ae,ce,Am,cm,rfl,-,-,-,-,-,-,-,h0,h1,h2,-⟩:=hs.g
 obtain ⟨k',a,s,l,i⟩:=A
 obtain ⟨xk,xn,xs,xl,xd⟩:=x
 obtain ⟨z1,z2,z3,⟨lA,lc,lys,z4,-⟩,⟨dA,dc,z5,-⟩⟩:=hx
 dsimp only at z1 z2 z3 z4 z5
 subst z1 z2 z3 z4 z5
 obtain ⟨b1,b2,-⟩:=hA
 refine check_of s0 s1 s2 h0 h1 h2 aE xk xn xs lA dA l.length lc i.length dc _ (fun B gm g w=>ShE w B g (ms.map fun (m:MemS)=>m.n)) (fun _ _ _ _ _ h hn=>h.nx hn) ?_ ?_
 ·intro W B gc gm wx hn hW hc
  have hnew:=newShape_enm wx _ ms (hs0.nx hn) hid (ht.nx hn) (hm.nx hn)
  obtain ⟨A0,u0,c0,rfl⟩:=h0
  obtain ⟨A1,u1,c1,rfl⟩:=h1
  obtain ⟨A2,u2,c2,rfl⟩:=h2
  refine (shape_of (Q:=fun g w'=>ShE w' wx.heap.size g (ms.map fun (m:MemS)=>m.n)) A0 A1 A2 u0 u1 u2 c0 c1 c2 hc aE (by decide) rfl hnew).mono ?_
  rintro e w' ⟨g,w2,o,rfl,hq,hn2,rfl,hp⟩
  have hc2:=hc.nx hn2
  refine ⟨g,_,rfl,(hq.less hc.sz).fr (FrW.putm hc2),hc2.putm hp ?_,(Oth.nx hn2).trans (setB_oth w2 gm o)⟩
  intro y hy j hj
  rcases putG_mem [] aE (some g) y hy with rfl | h
  ·exact absurd (show baseT aE=some j from hj) (by rw [show baseT aE=none from rfl];simp)
  ·cases h
 ·intro W B gc gm g m wx hn hW hc hb
  have hb0:=hb
  obtain ⟨ge,q1,q2,q3,q4⟩:=hb0
  have:=fits_of (R:=decide (xn ∈ ms.map fun (m:MemS)=>m.n)) hc (by omega) g 17 (by decide) (by decide) (q3.cell 0) ⟨q3.1,q3.lt⟩ xk xn xs lA dA l.length lc i.length dc (by omega) fun _ w1 hf hc1=>by
   refine (has_enm w1 gc g B _ (hb.fr hf) xk xn xs lA dA l.length lc i.length dc b2).mono ?_
   rintro e w2 ⟨rfl,hn2⟩
   exact ⟨rfl,⟨m,hc1.nx hn2⟩,FrW.nx hn2⟩
  exact this
end Go.Proofs.YtnfelopknfdpfaaDoor
namespace Go.Proofs.YtnfelopknfdpfaaDoor
open Go.RowKit
theorem RecS.less {w:World} {B B' gr:Nat} {K:Int} {nm:List UInt8} {fl:Value} {fs:List FldS} (h:RecS w B' gr K nm fl fs) (hB:B≤B'):RecS w B gr K nm fl fs:=by
 obtain ⟨gm,h1,h2,h3,h4⟩:=h
 exact ⟨gm,Nat.le_trans hB h1,h2,h3.less hB,h4⟩
theorem ShS.nx {w w':World} {B g:Nat} {K:Int} {nm:List UInt8} {fl:Value} {fs:List FldS} (h:ShS w B g K nm fl fs) (hn:Nx w w'):ShS w' B g K nm fl fs:=by
 obtain ⟨gr,h1,h2,h3⟩:=h
 exact ⟨gr,h1,h2.below hn,h3.nx hn⟩
theorem ShS.fr {W B g:Nat} {w w':World} {K:Int} {nm:List UInt8} {fl:Value} {fs:List FldS} (h:ShS w B g K nm fl fs) (hn:FrW W B w w'):ShS w' B g K nm fl fs:=by
 obtain ⟨gr,h1,h2,h3⟩:=h
 exact ⟨gr,h1,hn.blk h2 h2.1,h3.fr hn⟩
theorem ShS.less {w:World} {B B' g:Nat} {K:Int} {nm:List UInt8} {fl:Value} {fs:List FldS} (h:ShS w B' g K nm fl fs) (hB:B≤B'):ShS w B g K nm fl fs:=by
 obtain ⟨gr,h1,h2,h3⟩:=h
 exact ⟨gr,h1,h2.less hB,h3.less hB⟩
theorem leafB_of {v:Val} (h:match v with | .mk k' a' s' l' i'=>k'<32∧i64B a'∧s'=[]∧l'=[]∧i'=[]):leafB v:=h
set_option maxRecDepth 100000 in
set_option maxHeartbeats 6400000 in
theorem has_str {w0 w:World} {W B gc gm:Nat} {s0 s1 s2:Value} {n:Nat} {m:List (List UInt8×Option Nat)} (hn0:Nx w0 w) (hW:w0.heap.size≤W) (hc:Chk W B gc gm s0 s1 s2 (n:Int) m w) (h0:IsSlv s0) (h1:IsSlv s1) (h2:IsSlv s2) (hn9:n≤900)
  (gx:Nat) (K:Int) (nm:List UInt8) (fl:Value) (fs:List FldS) (hx:ShS w B gx K nm fl fs) (hfs:RdFs w0 fl fs) (xk:Nat) (xn:Int) (xs:List UInt8) (lA dA:Option Addr) (lc dc:Nat) (l:List Val) (ids:List Int) (hL:RdL (RdV 1 w0) w0 (.slice lA l.length lc) l) (hI:RdI w0 (.slice dA ids.length dc) ids) (hl9:l.length≤20) (hi9:ids.length≤20)
  (hleaf:∀ v ∈ l,leafB v) (hids:∀ z ∈ ids,okZ z) (ht:TabK w0) (hm:MaxC w0) :
  Calls Tryd.prog 23 #[.pointer (some ⟨gc,0,none⟩),.pointer (some ⟨gx,0,none⟩),.agg #[.int .i64 (xk:Int),.int .i64 xn,.string ⟨xs.toArray⟩,.slice lA l.length lc,.slice dA ids.length dc]] w fun e w'=>e = .returned (.bool (hasP K (fs.map pF) ids l))∧(∃ m',Chk W B gc gm s0 s1 s2 (n:Int) m' w')∧FrW W B w w':=by
 obtain ⟨gr,-,hb,hrec⟩:=hx
 obtain ⟨g1,hg1⟩:∃ g,w.heap.size=g:=⟨_,rfl⟩
 have HHF:Hid (∀ wx,Nx w wx→Calls Tryd.prog 16 #[.pointer (some ⟨gc,0,none⟩),.pointer (some ⟨gr,0,none⟩),.agg #[.int .i64 (xk:Int),.int .i64 xn,.string ⟨xs.toArray⟩,.slice lA l.length lc,.slice dA ids.length dc]] wx fun e w'=>e = .returned (.bool (hasP K (fs.map pF) ids l))∧(∃ m',Chk W B gc gm s0 s1 s2 (n:Int) m' w')∧FrW W B wx w'):=fun wx hx =>
  hasFields_any (hn0.trans hx) hW (hc.nx hx) h0 h1 h2 hn9 gr K nm fl fs (hrec.nx hx) hfs xk xn xs _ _ l ids hL hI hl9 hi9 hleaf hids ht hm
 obtain ⟨R,hR⟩:∃ R,hasP K (fs.map pF) ids l=R:=⟨_,rfl⟩
 obtain ⟨lu,hlu⟩:∃ R,l.length=R:=⟨_,rfl⟩
 obtain ⟨du,hdu⟩:∃ R,ids.length=R:=⟨_,rfl⟩
 rw [hR,hlu,hdu] at HHF
 rw [hR,hlu,hdu]
 obtain ⟨w1,hw1⟩:∃ x,w.alloc (.cells #[.int .i64 (xk:Int),.int .i64 xn,.string ⟨xs.toArray⟩,.slice lA lu lc,.slice dA du dc] 41)=x:=⟨_,rfl⟩
 have hn1:Nx w w1:=by rw [← hw1];exact nx0 _ _
 have hb1:Blk w1 g1 g1 #[.int .i64 (xk:Int),.int .i64 xn,.string ⟨xs.toArray⟩,.slice lA lu lc,.slice dA du dc] 41:=by rw [← hw1,← hg1];exact Blk.new w _ _
 have k0:w1.cell? ⟨gx,0,none⟩=some (.int .i64 12):=(hb.below hn1).cell 0
 have HB1:=Lib.hid hb1
 have HBX:=Lib.hid (hb.below hn1)
 have HN1:=Lib.hid hn1
 have HNE:Hid (g1≠gm∧gx≠gm):=by have h1:=hc.m2;have h2:=hb.1;have h4:=hc.sz;unfold Hid;omega
 clear hb hrec hn1 hb1 hc hn0 hW h0 h1 h2 hfs hL hI hl9 hi9 hleaf hids ht hm hR hlu hdu
 go_enter Tryd.func23,Tryd.ntmps23
 go_upto_region 1 with (fail)
 try rw [hw1]
 clear hw1 hg1
 go_upto_region 20 with (fail)
 have v0:∀ x:ED.GrO gm w1,x.1.cell? ⟨g1,0,none⟩=some (.int .i64 (xk:Int)):=fun x=>(x.2.blk HB1.out HNE.out.1).cell 0
 have v1:∀ x:ED.GrO gm w1,x.1.cell? ⟨g1,1,none⟩=some (.int .i64 xn):=fun x=>(x.2.blk HB1.out HNE.out.1).cell 1
 have v2:∀ x:ED.GrO gm w1,x.1.cell? ⟨g1,2,none⟩=some (.string ⟨xs.toArray⟩):=fun x=>(x.2.blk HB1.out HNE.out.1).cell 2
 have v3:∀ x:ED.GrO gm w1,x.1.cell? ⟨g1,3,none⟩=some (.slice lA lu lc):=fun x=>(x.2.blk HB1.out HNE.out.1).cell 3
 have v4:∀ x:ED.GrO gm w1,x.1.cell? ⟨g1,4,none⟩=some (.slice dA du dc):=fun x=>(x.2.blk HB1.out HNE.out.1).cell 4
 have r3:∀ x:ED.GrO gm w1,x.1.cell? ⟨gx,3,none⟩=some (.pointer (some ⟨gr,0,none⟩)):=fun x=>(x.2.blk HBX.out HNE.out.2).cell 3
 refine ED.wp_region_hyb ⟨[6],gm,[[6],[2,3,4,6],[3,4,6],[4,6],[6],[6],[],[]]⟩ [(0,1),(1,1),(2,1),(3,1),(4,1),(5,1),(6,0),(7,2)] (by kernel_rfl) (by kernel_rfl) ?_
 iterate 6 (refine ED.hyb_calm rfl (fun K hK=>?_);go_simp;refine hK _ ?_;clear hK K)
 clear v0 v1 v2 v3 v4 r3
 refine ED.hyb_alone rfl (fun w2 hn2 KK hK=>?_)
 go_simp
 refine (HHF.out w2 (HN1.out.trans hn2)).mono ?_;rintro e w3 ⟨rfl,⟨m',hc3⟩,hf3⟩
 refine hK _ _ (.inl (List.mem_singleton.2 rfl)) ?_
 clear hK KK
 have HC3:=Lib.hid hc3
 have HF3:Hid (FrW W B w w3):=(FrW.nx (HN1.out.trans hn2)).trans hf3
 clear hc3 hf3 hn2
 iterate 1 (refine ED.hyb_pure rfl (fun K hK=>?_);go_simp;refine hK _ ?_;clear hK K)
 refine ED.hyb_nil (fun w4 hn4=>?_)
 have HC4:=Lib.hid (HC3.out.nx hn4)
 have HF4:=Lib.hid (HF3.out.trans (FrW.nx hn4))
 clear hn4
 go_wp2_with fail
 go_ret
 exact ⟨rfl,⟨m',HC4.out⟩,HF4.out⟩
theorem chkS_any (w:World) (Sv:Value) (x:ValS) (A:Val) (K:Int) (fs:List FldS) (ht:TabK w) (hm:MaxC w) (hs:SchS w Sv K aA fs) (hx:RdV 2 w x A) (hA:smallV A) (hid:∀ f ∈ fs,i64B f.id) (hI:idsB A) :
  Calls Tryd.prog 7 #[Sv,.string ⟨aA.toArray⟩,.agg (valA x)] w fun e w'=>e = .returned (.bool (fldV K (fs.map pF) A))∧Nx w w':=by
 have hs0:=hs
 obtain ⟨s0,s1,s2,fl0,A0',c0',rfl,-,-,-,h0,h1,h2,-⟩:=hs.g
 obtain ⟨k',a,s,l,i⟩:=A
 obtain ⟨xk,xn,xs,xl,xd⟩:=x
 have hx0:=hx
 obtain ⟨z1,z2,z3,hl,hd⟩:=hx
 obtain ⟨lA,lc,lys,z4,-⟩:=id hl
 obtain ⟨dA,dc,z5,-⟩:=id hd
 dsimp only at z1 z2 z3 z4 z5 hl hd
 subst z1 z2 z3 z4 z5
 obtain ⟨b1,b2,b3,b4,b5,b6⟩:=hA
 rw [hasP_fld]
 refine check_of s0 s1 s2 h0 h1 h2 aA xk xn xs lA dA l.length lc i.length dc _ (fun B gm g wx=>∃ fl,RdFs w fl fs∧ShS wx B g K aA fl fs) (fun _ _ _ _ _ h hn=>by obtain ⟨fl,h1,h2⟩:=h;exact ⟨fl,h1,h2.nx hn⟩) ?_ ?_
 ·intro W B gc gm wx hn hW hc
  have hnew:=newShape_str w wx hn _ K fs hs0 hid (ht.nx hn) (hm.nx hn)
  obtain ⟨A0,u0,c0,rfl⟩:=h0
  obtain ⟨A1,u1,c1,rfl⟩:=h1
  obtain ⟨A2,u2,c2,rfl⟩:=h2
  refine (shape_of (Q:=fun g w'=>∃ fl,RdFs w fl fs∧ShS w' wx.heap.size g K aA fl fs) A0 A1 A2 u0 u1 u2 c0 c1 c2 hc aA (by decide) rfl (hnew.mono fun e w' h=>by obtain ⟨g,fl,q1,q2,q3,q4⟩:=h;exact ⟨g,q1,⟨fl,q3,q2⟩,q4⟩)).mono ?_
  rintro e w' ⟨g,w2,o,rfl,⟨fl,hq1,hq2⟩,hn2,rfl,hp⟩
  have hc2:=hc.nx hn2
  refine ⟨g,_,rfl,⟨fl,hq1,(hq2.less hc.sz).fr (FrW.putm hc2)⟩,hc2.putm hp ?_,(Oth.nx hn2).trans (setB_oth w2 gm o)⟩
  intro y hy j hj
  rcases putG_mem [] aA (some g) y hy with rfl | h
  ·exact absurd (show baseT aA=some j from hj) (by rw [show baseT aA=none from rfl];simp)
  ·cases h
 ·intro W B gc gm g m wx hn hW hc hb
  obtain ⟨fl,hfs,hsh⟩:=hb
  obtain ⟨gr,q1,q2,q3⟩:=id hsh
  refine fits_of (R:=hasP K (fs.map pF) i l) hc (by omega) g 12 (by decide) (by decide) (q2.cell 0) ⟨q2.1,q2.lt⟩ xk xn xs lA dA l.length lc i.length dc (by omega) fun _ w1 hf hc1=>?_
  have hn1:Nx w w1:=hf.to hn hW
  have hc1':Chk W B gc gm s0 s1 s2 ((1:Nat):Int) m w1:=hc1
  exact has_str hn1 hW hc1' h0 h1 h2 (by decide) g K aA fl fs (hsh.fr hf) hfs xk xn xs lA dA lc dc l i hl hd b4 b5 (fun v hv=>leafB_of (b6 v hv)) hI ht hm
end Go.Proofs.YtnfelopknfdpfaaDoor
namespace Go.Proofs.YtnfelopknfdpfaaDoor
open Go.RowKit
set_option maxRecDepth 100000 in
set_option maxHeartbeats 6400000 in
theorem fields_any (w:World) (Sv:Value) (x:ValS) (A:Val) (K:Int) (nm:List UInt8) (fl:Value) (fs:List FldS) (ht:TabK w) (hm:MaxC w) (hs:Sch0 Sv) (hfs:RdFs w fl fs) (hx:RdV 2 w x A) (hA:smallV A) (hid:∀ f ∈ fs,i64B f.id) (hI:idsB A) :
  Calls Tryd.prog 9 #[Sv,.agg #[.int .i64 K,.string ⟨nm.toArray⟩,fl],.agg (valA x)] w fun e w'=>e = .returned (.bool (fldV K (fs.map pF) A))∧Nx w w':=by
 obtain ⟨A0,u0,c0,A1,u1,c1,A2,u2,c2,rfl⟩:=hs
 obtain ⟨k',a,s,l,i⟩:=A
 obtain ⟨xk,xn,xs,xl,xd⟩:=x
 obtain ⟨z1,z2,z3,hl,hd⟩:=hx
 obtain ⟨lA,lc,lys,z4,-⟩:=id hl
 obtain ⟨dA,dc,z5,-⟩:=id hd
 obtain ⟨⟨fA,fc,hfl,-⟩,-⟩:=id hfs
 dsimp only at z1 z2 z3 z4 z5 hl hd
 subst z1 z2 z3 z4 z5
 obtain ⟨b1,b2,b3,b4,b5,b6⟩:=hA
 have HHF:Hid (∀ {W B gc gm:Nat} {m:List (List UInt8×Option Nat)} {wx:World} (gr:Nat),Nx w wx→w.heap.size≤W→Chk W B gc gm (.slice A0 u0 c0) (.slice A1 u1 c1) (.slice A2 u2 c2) ((0:Nat):Int) m wx→RecS wx B gr K nm fl fs→Calls Tryd.prog 16 #[.pointer (some ⟨gc,0,none⟩),.pointer (some ⟨gr,0,none⟩),.agg #[.int .i64 (xk:Int),.int .i64 xn,.string ⟨xs.toArray⟩,.slice lA l.length lc,.slice dA i.length dc]] wx fun e w'=>e = .returned (.bool (hasP K (fs.map pF) i l))∧(∃ m',Chk W B gc gm (.slice A0 u0 c0) (.slice A1 u1 c1) (.slice A2 u2 c2) ((0:Nat):Int) m' w')∧FrW W B wx w'):=fun gr hn hW hc hr =>
  hasFields_any hn hW hc ⟨_,_,_,rfl⟩ ⟨_,_,_,rfl⟩ ⟨_,_,_,rfl⟩ (by decide) gr K nm fl fs hr hfs xk xn xs _ _ l i hl hd b4 b5 (fun v hv=>leafB_of (b6 v hv)) hI ht hm
 have HNR:Hid (∀ wx,Nx w wx→Calls Tryd.prog 17 #[.agg #[.int .i64 K,.string ⟨nm.toArray⟩,fl]] wx fun e w'=>∃ gr,e = .returned (.pointer (some ⟨gr,0,none⟩))∧RecS w' wx.heap.size gr K nm fl fs∧Nx wx w'):=fun wx hx=>newRecord_any wx K nm fl fs (hfs.nx hx) hid
 have HNC:Hid (∀ wx,Calls Tryd.prog 12 #[.agg #[.slice A0 u0 c0,.slice A1 u1 c1,.slice A2 u2 c2]] wx fun e w'=>∃ gc gm,e = .returned (.pointer (some ⟨gc,0,none⟩))∧Chk wx.heap.size w'.heap.size gc gm (.slice A0 u0 c0) (.slice A1 u1 c1) (.slice A2 u2 c2) 0 [] w'∧Nx wx w'):=fun wx=>newChecker_any wx _ _ _ ⟨_,_,_,rfl⟩ ⟨_,_,_,rfl⟩ ⟨_,_,_,rfl⟩
 rw [hasP_fld,valA_agg]
 dsimp only
 obtain ⟨R,hR⟩:∃ R,hasP K (fs.map pF) i l=R:=⟨_,rfl⟩
 obtain ⟨lu,hlu⟩:∃ R,l.length=R:=⟨_,rfl⟩
 obtain ⟨du,hdu⟩:∃ R,i.length=R:=⟨_,rfl⟩
 obtain ⟨fu,hfu⟩:∃ R,fs.length=R:=⟨_,rfl⟩
 subst hfl
 rw [hR,hlu,hdu,hfu] at HHF
 rw [hfu] at HNR
 rw [hR,hlu,hdu,hfu]
 obtain ⟨g1,hg1⟩:∃ g,w.heap.size=g:=⟨_,rfl⟩
 obtain ⟨g2,hg2⟩:∃ g,g1+1=g:=⟨_,rfl⟩
 obtain ⟨g3,hg3⟩:∃ g,g2+1=g:=⟨_,rfl⟩
 obtain ⟨w1,hw1⟩:∃ x,w.alloc (.cells #[.slice A0 u0 c0,.slice A1 u1 c1,.slice A2 u2 c2] 32)=x:=⟨_,rfl⟩
 have hz1:w1.heap.size=g2:=by rw [← hw1];simp;omega
 obtain ⟨w2,hw2⟩:∃ x,w1.alloc (.cells #[.int .i64 K,.string ⟨nm.toArray⟩,.slice fA fu fc] 48)=x:=⟨_,rfl⟩
 have hz2:w2.heap.size=g3:=by rw [← hw2];simp;omega
 obtain ⟨w3,hw3⟩:∃ x,w2.alloc (.cells #[.int .i64 (xk:Int),.int .i64 xn,.string ⟨xs.toArray⟩,.slice lA lu lc,.slice dA du dc] 41)=x:=⟨_,rfl⟩
 have hb1:Blk w3 g1 g1 #[.slice A0 u0 c0,.slice A1 u1 c1,.slice A2 u2 c2] 32:=by rw [← hw3,← hw2,← hw1,← hg1];exact ((Blk.new w _ _).alloc _).alloc _
 have hb2:Blk w3 g2 g2 #[.int .i64 K,.string ⟨nm.toArray⟩,.slice fA fu fc] 48:=by rw [← hw3,← hw2,← hz1];exact (Blk.new w1 _ _).alloc _
 have hb3:Blk w3 g3 g3 #[.int .i64 (xk:Int),.int .i64 xn,.string ⟨xs.toArray⟩,.slice lA lu lc,.slice dA du dc] 41:=by rw [← hw3,← hz2];exact Blk.new w2 _ _
 have hn3:Nx w w3:=by rw [← hw3,← hw2,← hw1];exact nx (nx0 _ _) (nx (nx0 _ _) (nx0 _ _))
 have HN3:=Lib.hid hn3
 have HSZ:Hid (w.heap.size≤w3.heap.size):=hn3.size
 have p0:∀ x:Gr w3,x.1.cell? ⟨g1,0,none⟩=some (.slice A0 u0 c0):=fun x=>(hb1.below x.2).cell 0
 have p1:∀ x:Gr w3,x.1.cell? ⟨g1,1,none⟩=some (.slice A1 u1 c1):=fun x=>(hb1.below x.2).cell 1
 have p2:∀ x:Gr w3,x.1.cell? ⟨g1,2,none⟩=some (.slice A2 u2 c2):=fun x=>(hb1.below x.2).cell 2
 have q0:∀ x:Gr w3,x.1.cell? ⟨g2,0,none⟩=some (.int .i64 K):=fun x=>(hb2.below x.2).cell 0
 have q1:∀ x:Gr w3,x.1.cell? ⟨g2,1,none⟩=some (.string ⟨nm.toArray⟩):=fun x=>(hb2.below x.2).cell 1
 have q2:∀ x:Gr w3,x.1.cell? ⟨g2,2,none⟩=some (.slice fA fu fc):=fun x=>(hb2.below x.2).cell 2
 have v0:∀ x:Gr w3,x.1.cell? ⟨g3,0,none⟩=some (.int .i64 (xk:Int)):=fun x=>(hb3.below x.2).cell 0
 have v1:∀ x:Gr w3,x.1.cell? ⟨g3,1,none⟩=some (.int .i64 xn):=fun x=>(hb3.below x.2).cell 1
 have v2:∀ x:Gr w3,x.1.cell? ⟨g3,2,none⟩=some (.string ⟨xs.toArray⟩):=fun x=>(hb3.below x.2).cell 2
 have v3:∀ x:Gr w3,x.1.cell? ⟨g3,3,none⟩=some (.slice lA lu lc):=fun x=>(hb3.below x.2).cell 3
 have v4:∀ x:Gr w3,x.1.cell? ⟨g3,4,none⟩=some (.slice dA du dc):=fun x=>(hb3.below x.2).cell 4
 clear hb1 hb2 hb3 hn3 hfs hl hd ht hm hid hI b1 b2 b3 b4 b5 b6 hR hlu hdu hfu
 by_cases hk:xk=12
 ·have e1:((xk:Int) == 12)=true:=by simp;omega
  have e2:(xk:Int)=12:=by omega
  rw [decide_eq_true hk,Bool.true_and]
  clear e2 hk
  go_enter Tryd.func9,Tryd.ntmps9
  go_upto_region 1 with (fail)
  try rw [hw1]
  try rw [hw2]
  try rw [hw3]
  clear hw1 hw2 hw3 hg1 hg2 hg3 hz1 hz2
  refine EH.wp_region_hyb [9] [(0,1),(1,1),(2,1),(3,1),(4,1),(6,1),(8,1),(5,0),(7,0),(9,0),(10,2),(11,2)] (by kernel_rfl) (by kernel_rfl) ?_
  iterate 7 (refine EH.hyb_calm rfl (fun K hK=>?_);go_simp;refine hK _ ?_;clear hK K)
  clear p0 p1 p2 q0 q1 q2 v0 v1 v2 v3 v4
  refine EH.hyb_alone rfl (fun w4 hn4 KK hK=>?_)
  go_simp
  refine (HNC.out w4).mono ?_;rintro e w5 ⟨gc,gm,rfl,hc5,hn5⟩
  refine hK _ _ (.inr hn5) ?_
  clear hK KK
  have HC5:Hid (Chk w4.heap.size w5.heap.size gc gm (.slice A0 u0 c0) (.slice A1 u1 c1) (.slice A2 u2 c2) ((0:Nat):Int) [] w5):=hc5
  have HW:Hid (w.heap.size≤w4.heap.size):=Nat.le_trans HSZ.out hn4.size
  have HN5:=Lib.hid (HN3.out.trans (hn4.trans hn5))
  clear hc5 hn4 hn5
  refine EH.hyb_alone rfl (fun w6 hn6 KK hK=>?_)
  go_simp
  refine (HNR.out w6 (HN5.out.trans hn6)).mono ?_;rintro e w7 ⟨gr,rfl,hr7,hn7⟩
  refine hK _ _ (.inr hn7) ?_
  clear hK KK
  have HR7:Hid (RecS w7 w5.heap.size gr K nm (.slice fA fu fc) fs):=hr7.less hn6.size
  have HC7:=Lib.hid ((HC5.out.nx hn6).nx hn7)
  have HN7:=Lib.hid (HN5.out.trans (hn6.trans hn7))
  clear hr7 hn6 hn7
  refine EH.hyb_alone rfl (fun w8 hn8 KK hK=>?_)
  go_simp
  refine (HHF.out gr (HN7.out.trans hn8) HW.out (HC7.out.nx hn8) (HR7.out.nx hn8)).mono ?_;rintro e w9 ⟨rfl,-,hf9⟩
  refine hK _ _ (.inl (List.mem_singleton.2 rfl)) ?_
  clear hK KK
  have HN9:Hid (Nx w w9):=hf9.to (HN7.out.trans hn8) HW.out
  clear hf9 hn8
  iterate 2 (refine EH.hyb_pure rfl (fun K hK=>?_);go_simp;refine hK _ ?_;clear hK K)
  refine EH.hyb_nil (fun wz hnz=>?_)
  have HNZ:=Lib.hid (HN9.out.trans hnz)
  clear hnz
  go_wp2_with fail
  go_ret
  exact ⟨rfl,HNZ.out⟩
 ·have e1:((xk:Int) == 12)=false:=by simp;omega
  have e2:¬ (xk:Int)=12:=by omega
  rw [decide_eq_false hk,Bool.false_and]
  go_enter Tryd.func9,Tryd.ntmps9
  go_upto_region 1 with (fail)
  try rw [hw1]
  try rw [hw2]
  try rw [hw3]
  clear hw1 hw2 hw3 hg1 hg2 hg3 hz1 hz2
  refine EH.wp_region_hyb [9] [(0,1),(1,1),(2,1),(3,1),(4,1),(6,1),(8,1),(5,0),(7,0),(9,0),(10,2),(11,2)] (by kernel_rfl) (by kernel_rfl) ?_
  iterate 7 (refine EH.hyb_calm rfl (fun K hK=>?_);go_simp;refine hK _ ?_;clear hK K)
  clear p0 p1 p2 q0 q1 q2 v0 v1 v2 v3 v4
  refine EH.hyb_alone rfl (fun w4 hn4 KK hK=>?_)
  go_simp
  refine hK _ _ (.inr (Nx.refl _)) ?_
  clear hK KK
  refine EH.hyb_alone rfl (fun w5 hn5 KK hK=>?_)
  go_simp
  refine hK _ _ (.inr (Nx.refl _)) ?_
  clear hK KK
  refine EH.hyb_alone rfl (fun w6 hn6 KK hK=>?_)
  go_simp
  refine hK _ _ (.inr (Nx.refl _)) ?_
  clear hK KK
  iterate 2 (refine EH.hyb_pure rfl (fun K hK=>?_);go_simp;refine hK _ ?_;clear hK K)
  refine EH.hyb_nil (fun wz hnz=>?_)
  have HNZ:=Lib.hid (HN3.out.trans (hn4.trans (hn5.trans (hn6.trans hnz))))
  clear hn4 hn5 hn6 hnz
  go_wp2_with fail
  go_ret
  exact ⟨rfl,HNZ.out⟩
set_option maxRecDepth 100000 in
set_option maxHeartbeats 1600000 in
theorem kind_any (w:World) (Sv:Value) (K:Int) (fs:List FldS) (ht:TabK w) (hm:MaxC w) (hs:SchS w Sv K aA fs) :
  Calls Tryd.prog 11 #[Sv,.string ⟨aA.toArray⟩] w fun e w'=>e = .returned (.int .i64 12)∧Nx w w':=by
 obtain ⟨s0,s1,s2,fl,A,c,rfl,hs0,hrd,hfs,-,⟨A1,u1,c1,rfl⟩,⟨A2,u2,c2,rfl⟩,hg⟩:=hs.g
 subst hs0
 obtain ⟨e1,e2⟩:=head_aA
 obtain ⟨gS,hgS⟩:∃ g,w.heap.size=g:=⟨_,rfl⟩
 obtain ⟨w1,hw1⟩:∃ x,w.alloc (.cells #[.slice A 1 c,.slice A1 u1 c1,.slice A2 u2 c2] 32)=x:=⟨_,rfl⟩
 have hn1:Nx w w1:=by rw [← hw1];exact nx0 _ _
 have hb1:Blk w1 gS gS #[.slice A 1 c,.slice A1 u1 c1,.slice A2 u2 c2] 32:=by rw [← hw1,← hgS];exact Blk.new w _ _
 have hh:=head_any w1 ⟨aA.toArray⟩ aA (tx_ aA) (by decide) (ht.nx hn1) (hm.nx hn1)
 rw [e1,e2] at hh
 have HH:=Lib.hid hh
 have HN1:=Lib.hid hn1
 have HB1:=Lib.hid hb1
 have HG:=Lib.hid hg
 have hfind:findP ([(⟨K,aA,fl⟩:StrS)].map (·.nm)) (([]:List EnmS).map (·.nm)) aA=(12,0):=by unfold findP;rw [show ([(⟨K,aA,fl⟩:StrS)].map (·.nm))=[aA] from rfl,nmN_one]
 have HFI:=Lib.hid hfind
 clear hh e1 e2 ht hm hn1 hb1 hg hfs hrd hfind hs
 go_enter Tryd.func11,Tryd.ntmps11
 go_upto_region 1 with (fail)
 try rw [hw1]
 clear hw1 hgS
 go_wp2_with fail
 refine HH.out.mono ?_;rintro e w2 ⟨rfl,hn2⟩
 dsimp only [bA]
 have HN2:=Lib.hid (HN1.out.trans hn2)
 have hb2:=HB1.out.below hn2
 have a0:w2.cell? ⟨gS,0,none⟩=some (.slice A 1 c):=hb2.cell 0
 have a1:w2.cell? ⟨gS,1,none⟩=some (.slice A1 u1 c1):=hb2.cell 1
 have a2:w2.cell? ⟨gS,2,none⟩=some (.slice A2 u2 c2):=hb2.cell 2
 have hfi:=find_any w2 _ _ _ _ _ (HG.out.nx HN2.out) aA
 rw [HFI.out] at hfi
 have HFD:=Lib.hid hfi
 clear hn2 hb2 hfi
 go_wp2_with fail
 refine HFD.out.mono ?_;rintro e w3 ⟨rfl,hn3⟩
 dsimp only
 have HN3:=Lib.hid (HN2.out.trans hn3)
 clear hn3
 go_wp2_with fail
 go_ret
 exact ⟨rfl,HN3.out⟩
def U8W (w:World):Prop:=Lib.Utf8Tabs (Tryd.laysValid_ren.g 3) (Tryd.laysValid_ren.g 4) w
theorem valid_any (w:World) (l:List UInt8) (hl:l.length≤60) (h:U8W w) :
  Calls Tryd.prog 8 #[.string ⟨l.toArray⟩] w fun e w'=>e = .returned (.bool (Lib.validD l))∧Nx w w':=by
 have HV:=Lib.hid (Any.utf8_ValidString Tryd.laysValid ⟨l.toArray⟩ w (by simp [ByteArray.size];omega) h)
 rw [show (ByteArray.mk l.toArray).data.toList=l from rfl] at HV
 obtain ⟨R,hR⟩:∃ R,Lib.validD l=R:=⟨_,rfl⟩
 rw [hR] at HV ⊢
 clear h hR
 go_enter Tryd.func8,Tryd.ntmps8
 go_wp2_with fail
 refine HV.out.mono ?_;rintro e w' ⟨rfl,hb⟩
 go_wp2_with fail
 go_ret
 exact ⟨rfl,hb⟩
end Go.Proofs.YtnfelopknfdpfaaDoor
namespace Go.Proofs.YtnfelopknfdpfaaDoor
open Go.RowKit
namespace EF
section
variable {st:Nat} {P:Program} {ops:Array Oper} {md:Region.Mode}
def GA (st:Nat) (P:Program) (md:Region.Mode) (ops:Array Oper) (Q:Act→World→Prop):Nat→Array Bool→Act→World→Prop
 | 0,listed,a,w=>Region.ready md ops listed=[]∧∀ w1,Nx w w1→Q a w1
 | f+1,listed,a,w=>∀ w1,Nx w w1→(Region.ready md ops listed=[]→Q a w1) ∧
   ∀ i ∈ Region.ready md ops listed,gOp P ops i (fun a' w'=>(i=st∨Nx w1 w')∧GA st P md ops Q f (listed.setIfInBounds i true) a' w') a w1
theorem GA.grow {Q:Act→World→Prop} {f:Nat} {listed:Array Bool} {a:Act} {w w1:World} (h:GA st P md ops Q f listed a w) (hn:Nx w w1):GA st P md ops Q f listed a w1:=by
 cases f with
 | zero=>exact ⟨h.1,fun w2 h2=>h.2 w2 (hn.trans h2)⟩
 | succ f=>exact fun w2 h2=>h w2 (hn.trans h2)
theorem wpAny_of_GA {Q:Act→World→Prop} {Q':Exit→Act→World→Prop} (hQ:∀ a w,Q a w→Q' .normal a w):∀ (f:Nat) (listed:Array Bool) (a:Act) (w:World),
  GA st P md ops Q f listed a w→wpAny P md ops Q' f listed a w
 | 0,_,_,w,h=>⟨h.1,hQ _ _ (h.2 w (Nx.refl w))⟩
 | f+1,listed,a,w,h=>by
  refine ⟨fun h0=>hQ _ _ ((h w (Nx.refl w)).1 h0),fun i hi=>?_⟩
  have:=(h w (Nx.refl w)).2 i hi
  unfold gOp at this
  unfold wpOp
  split
  ·rename_i ho;simp only [ho] at this;exact wpAny_of_GA hQ f _ _ _ this.2
  ·rename_i o ho
   simp only [ho] at this
   split
   ·rename_i hw;simp only [hw,if_true] at this;exact .inl (wp_mono_both (fun a' w' h'=>wpAny_of_GA hQ f _ _ _ h'.2) this trivial)
   ·rename_i hw;simp only [hw] at this;exact wpAny_of_GA hQ f _ _ _ this.2
theorem GA_first {Q:Act→World→Prop} {i:Nat} {oi:Oper} {v:Value} (hi:ops[i]? = some oi) (hsel:∀ (j:Nat) (o:Oper) cs b,ops[j]? = some o→o.op≠.select cs b)
  (D:Nat→Bool) (hD1:D st=true) (hD2:∀ j o,ops[j]? = some o→D j=true→∃ e ∈ o.after,Region.binds md e=true∧(e.on=i∨D e.on=true)) :
  ∀ (f:Nat) (listed:Array Bool) (a:Act) (w:World),
   (∀ j oj,ops[j]? = some oj→j≠i→listed.getD j true=false→(∀ e ∈ oj.after,Region.binds md e=true→e.on≠i)→oi.apart ops oj=true) →
   (∀ j,D j=true→listed.getD j true=false) →
   i ∈ Region.ready md ops listed→YG P ops w oi v a →
   GA st P md ops Q f (listed.setIfInBounds i true) (a.put oi.dst v) w→GA st P md ops Q (f+1) listed a w:=by
 intro f
 induction f with
 | zero =>
  intro listed a w _ _ hr hy H w1 hn
  refine ⟨fun h=>(by rw [h] at hr;cases hr),fun j hj=>?_⟩
  by_cases hji:j=i
  ·subst hji;exact (hy.grow hn).gOp hi ⟨.inr (Nx.refl _),H.grow hn⟩
  ·have:=ready_mono hj hji
   rw [H.1] at this
   cases this
 | succ f ih =>
  intro listed a w hfree hl hr hy H w1 hn
  refine ⟨fun h=>(by rw [h] at hr;cases hr),fun j hj=>?_⟩
  by_cases hji:j=i
  ·subst hji;exact (hy.grow hn).gOp hi ⟨.inr (Nx.refl _),H.grow hn⟩
  ·have h1:=(H w1 hn).2 j (ready_mono hj hji)
   obtain ⟨hjun,oj,hoj,hall⟩:=mem_ready.1 hj
   have hnot:∀ e ∈ oj.after,Region.binds md e=true→e.on≠i:=fun e he hb heq=>by
    have h1:=hall e he hb
    have h0:=(mem_ready.1 hr).1
    rw [heq] at h1
    rcases Nat.lt_or_ge i listed.size with h' | h'
    ·simp [h'] at h0 h1;rw [h0] at h1;cases h1
    ·simp [Array.getElem?_eq_none h'] at h1
   have h2:=gOp_put hoj (hfree j oj hoj hji hjun hnot) (fun cs b=>hsel i oi cs b hi) (fun cs b=>hsel j oj cs b hoj) (hy.grow hn) h1
   have hfree':∀ k ok,ops[k]? = some ok→k≠i→(listed.setIfInBounds j true).getD k true=false →
     (∀ e ∈ ok.after,Region.binds md e=true→e.on≠i)→oi.apart ops ok=true:=fun k ok hk hki hun hno=>by
    refine hfree k ok hk hki ?_ hno
    by_cases hjk:j=k
    ·subst hjk;exact hjun
    ·rw [getD_set_ne true hjk] at hun;exact hun
   have hjD:D j=false:=by
    rw [Bool.eq_false_iff]
    intro hd
    obtain ⟨e,he,hb,heq⟩:=hD2 j oj hoj hd
    rcases heq with heq | heq
    ·exact hnot e he hb heq
    ·have h1:=hall e he hb
     have h0:=hl _ heq
     rcases Nat.lt_or_ge e.on listed.size with h' | h'
     ·simp [h'] at h0 h1;rw [h0] at h1;cases h1
     ·simp [Array.getElem?_eq_none h'] at h1
   have hjst:j≠st:=by
    rintro rfl
    rw [hD1] at hjD;cases hjD
   have hl':∀ k,D k=true→(listed.setIfInBounds j true).getD k true=false:=fun k hk=>by
    have hne:j≠k:=by rintro rfl;rw [hk] at hjD;cases hjD
    rw [getD_set_ne true hne];exact hl k hk
   refine gOp_mono (fun a' w' h3=>have hN:=h3.2.1.resolve_left hjst;⟨.inr hN,ih (listed.setIfInBounds j true) a' w' hfree' hl' (ready_mono hr (Ne.symm hji)) (h3.1.grow hN) ?_⟩) h2
   rw [Array.setIfInBounds_comm _ _ hji]
   exact h3.2.2
def wpHyb (st:Nat) (P:Program) (ops:Array Oper) (Q:Act→World→Prop):List (Nat×Bool)→Act→World→Prop
 | [],a,w=>∀ w1,Nx w w1→Q a w1
 | (k,true) :: rest,a,w=>match ops[k]? with
  | none=>False
  | some o=>if Region.wanted o (yielded ops a.tmps) then calm P o a w (fun a'=>wpHyb st P ops Q rest a' w) else wpHyb st P ops Q rest (a.put o.dst undef) w
 | (k,false) :: rest,a,w=>∀ w1,Nx w w1→match ops[k]? with
  | none=>False
  | some o=>if Region.wanted o (yielded ops a.tmps) then o.wp P a w1 (fun a' w'=>(k=st∨Nx w1 w')∧wpHyb st P ops Q rest a' w') (fun _ _ _=>False) else wpHyb st P ops Q rest (a.put o.dst undef) w1
def dep (md:Region.Mode) (ops:Array Oper) (k:Nat):Nat→Nat→Bool
 | 0,_=>false
 | f+1,j=>match ops[j]? with
  | some o=>o.after.any (fun e=>Region.binds md e && (e.on == k || dep md ops k f e.on))
  | none=>false
def edge (st:Nat) (md:Region.Mode) (ops:Array Oper) (k:Nat) (listed:Array Bool):Bool :=
 dep md ops k ops.size st && (List.range ops.size).all (fun j=>!dep md ops k ops.size j || ((match ops[j]? with | some o=>o.after.any (fun e=>Region.binds md e && (e.on == k || dep md ops k ops.size e.on)) | none=>false) && !listed.getD j true))
theorem edge_spec {st k:Nat} {listed:Array Bool} (h:edge st md ops k listed=true):dep md ops k ops.size st=true∧(∀ j o,ops[j]? = some o→dep md ops k ops.size j=true→∃ e ∈ o.after,Region.binds md e=true∧(e.on=k∨dep md ops k ops.size e.on=true))∧∀ j,dep md ops k ops.size j=true→listed.getD j true=false:=by
 unfold edge at h
 simp only [Bool.and_eq_true,List.all_eq_true,List.mem_range] at h
 obtain ⟨h1,h2⟩:=h
 have hlt:∀ j,dep md ops k ops.size j=true→j<ops.size:=by
  intro j hj
  rcases Nat.lt_or_ge j ops.size with h | h
  ·exact h
  ·exfalso
   generalize ops.size=f at hj
   cases f with
   | zero=>cases hj
   | succ f=>unfold dep at hj;rw [Array.getElem?_eq_none h] at hj;cases hj
 refine ⟨h1,fun j o ho hj=>?_,fun j hj=>?_⟩
 ·have:=h2 j (hlt j hj)
  rw [hj,ho] at this
  simp only [Bool.not_true,Bool.false_or,Bool.and_eq_true] at this
  obtain ⟨e,he,hb⟩:=Array.any_eq_true'.1 this.1
  simp only [Bool.and_eq_true,Bool.or_eq_true,beq_iff_eq] at hb
  exact ⟨e,he,hb.1,hb.2⟩
 ·have:=h2 j (hlt j hj)
  rw [hj] at this
  simp only [Bool.not_true,Bool.false_or,Bool.and_eq_true,Bool.not_eq_true'] at this
  exact this.2
def hybFrom (st:Nat) (md:Region.Mode) (ops:Array Oper):List (Nat×Bool)→Array Bool→Bool
 | [],listed=>(Region.ready md ops listed).isEmpty
 | (k,true) :: rest,listed=>(Region.ready md ops listed).contains k && Region.free md ops listed k && edge st md ops k listed && hybFrom st md ops rest (listed.setIfInBounds k true)
 | (k,false) :: rest,listed=>Region.ready md ops listed == [k] && hybFrom st md ops rest (listed.setIfInBounds k true)
def hybB (st:Nat) (md:Region.Mode) (ops:Array Oper) (s:List (Nat×Bool)):Bool:=Region.noSelect ops && s.length == ops.size && hybFrom st md ops s (Array.replicate ops.size false)
theorem GA_hyb {Q:Act→World→Prop} (hs:Region.noSelect ops=true):∀ (s:List (Nat×Bool)) (listed:Array Bool) (a:Act) (w:World),
  hybFrom st md ops s listed=true→wpHyb st P ops Q s a w→GA st P md ops Q s.length listed a w
 | [],listed,a,w,hB,h=>⟨by simpa [hybFrom] using hB,h⟩
 | (k,true) :: rest,listed,a,w,hB,h=>by
  simp only [hybFrom,Bool.and_eq_true] at hB
  obtain ⟨⟨⟨hr,hf⟩,hed⟩,hB'⟩:=hB
  have hr':k ∈ Region.ready md ops listed:=by simpa using hr
  obtain ⟨_,o,ho,_⟩:=mem_ready.1 hr'
  simp only [wpHyb,ho] at h
  by_cases hw:Region.wanted o (yielded ops a.tmps)=true
  ·simp only [hw,if_true] at h
   obtain ⟨v,h1,h2⟩:=h
   exact GA_first ho (Region.noSelect_spec hs) _ (edge_spec hed).1 (edge_spec hed).2.1 rest.length listed a w (Region.free_spec ho hf) (edge_spec hed).2.2 hr' (.inl ⟨hw,h1⟩) (GA_hyb hs rest _ _ _ hB' h2)
  ·simp only [hw] at h
   exact GA_first ho (Region.noSelect_spec hs) _ (edge_spec hed).1 (edge_spec hed).2.1 rest.length listed a w (Region.free_spec ho hf) (edge_spec hed).2.2 hr' (.inr ⟨by simpa using hw,rfl⟩) (GA_hyb hs rest _ _ _ hB' h)
 | (k,false) :: rest,listed,a,w,hB,h=>by
  simp only [hybFrom,Bool.and_eq_true,beq_iff_eq] at hB
  obtain ⟨hr,hB'⟩:=hB
  intro w1 hn
  refine ⟨fun h0=>(by rw [hr] at h0;cases h0),fun i hi=>?_⟩
  rw [hr] at hi
  obtain rfl:i=k:=by simpa using hi
  have h:=h w1 hn
  unfold gOp
  cases ho:ops[i]? with
  | none=>rw [ho] at h;exact h.elim
  | some o =>
   rw [ho] at h
   simp only at h ⊢
   by_cases hw:Region.wanted o (yielded ops a.tmps)=true
   ·simp only [hw,if_true] at h ⊢
    exact wp_mono_both (fun a' w' h'=>⟨h'.1,GA_hyb hs rest _ _ _ hB' h'.2⟩) h trivial
   ·simp only [hw] at h ⊢
    exact ⟨.inr (Nx.refl _),GA_hyb hs rest _ _ _ hB' h⟩
structure Hyb (st:Nat) (P:Program) (ops:Array Oper) (Q:Act→World→Prop) (s:List (Nat×Bool)) (a:Act) (w:World):Prop where
 out:wpHyb st P ops Q s a w
theorem wp_region_hyb {id:Nat} {Q:Exit→Act→World→Prop} {a:Act} {w:World} {l:List Oper} (s:List (Nat×Bool)) (hm:P.follows .mixedOrders=true) (hB:hybB st .any l.toArray s=true)
  (h:Hyb st P l.toArray (fun a w=>Q .normal a w) s a w):(Code.region id l.toArray true).wp P Q a w:=by
 simp only [hybB,Bool.and_eq_true,beq_iff_eq] at hB
 obtain ⟨⟨h1,h2⟩,h3⟩:=hB
 refine wp_region_any hm (wpAny_of_GA (st:=st) (Q:=fun a w=>Q .normal a w) (fun _ _ h=>h) _ _ _ _ ?_)
 have:=GA_hyb (st:=st) (md:=.any) h1 s _ _ _ h3 h.out
 rw [h2] at this
 exact this.grow (Nx.drawn w)
theorem hyb_calm {Q:Act→World→Prop} {k:Nat} {o:Oper} {rest:List (Nat×Bool)} {a:Act} {w:World} (ho:ops[k]? = some o)
  (h:∀ K:Act→Prop,(∀ a,Hyb st P ops Q rest a w→K a)→if Region.wanted o (yielded ops a.tmps) then calm P o a w K else K (a.put o.dst undef)):Hyb st P ops Q ((k,true) :: rest) a w:=by
 refine ⟨?_⟩
 simp only [wpHyb,ho]
 exact h _ (fun _ h=>h.out)
theorem hyb_alone {Q:Act→World→Prop} {k:Nat} {o:Oper} {rest:List (Nat×Bool)} {a:Act} {w:World} (ho:ops[k]? = some o)
  (h:∀ w1,Nx w w1→∀ K:Act→World→Prop,(∀ a' w',(k=st∨Nx w1 w')→Hyb st P ops Q rest a' w'→K a' w')→if Region.wanted o (yielded ops a.tmps) then o.wp P a w1 K (fun _ _ _=>False) else K (a.put o.dst undef) w1):Hyb st P ops Q ((k,false) :: rest) a w:=by
 refine ⟨?_⟩
 intro w1 hn
 simp only [ho]
 have:=h w1 hn (fun a' w'=>(k=st∨Nx w1 w')∧wpHyb st P ops Q rest a' w') (fun a' w' h1 h2=>⟨h1,h2.out⟩)
 split
 ·rename_i hw;simpa [hw] using this
 ·rename_i hw;simp [hw] at this;exact this.2
theorem hyb_nil {Q:Act→World→Prop} {a:Act} {w:World} (h:∀ w1,Nx w w1→Q a w1):Hyb st P ops Q [] a w:=⟨h⟩
end
end EF
end Go.Proofs.YtnfelopknfdpfaaDoor
