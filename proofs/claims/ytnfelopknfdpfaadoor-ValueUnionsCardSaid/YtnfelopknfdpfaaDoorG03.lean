/- What the laws of value begin with, given what value's functions are asked for. The walk of ValueRanges, given what value's functions are asked for. -/
import Derived.Test.YtnfelopknfdpfaaDoorG00
set_option linter.unusedVariables false
set_option linter.unusedSimpArgs false
set_option linter.unnecessarySimpa false
namespace Go.Proofs.YtnfelopknfdpfaaDoor
open Go.RowKit
theorem RdR.one {α:Type} {f:α→Array Value} {k:Nat} (hk:∀ x,(f x).size=k) {w:World} {B g:Nat} {x:α} {T:TypeId} (h:Blk w B g (f x) T):RdR f k w (some ⟨g,0,none⟩) [x]:=fun _ =>
 ⟨g,0,rfl,h.lt,fun i hi j hj=>by
  obtain rfl:i=0:=by simpa using hi
  rw [Nat.zero_mul,Nat.add_zero,Nat.zero_add,h.cell];rfl⟩
set_option maxRecDepth 100000 in
set_option maxHeartbeats 6400000 in
theorem vlbegun_of {T:World→Prop} {validB:List UInt8→Bool} (hC:ValC T validB) (hv1:validB [97]=true) (hv2:validB [255]=false) (w:World) (hT:T w) :
  Calls Tryd.prog 6 #[] w fun e w'=>e = .returned (.bool true)∧Nx w w':=by
 have HC:=Lib.hid hC
 have HV1:=Lib.hid hv1
 have HV2:=Lib.hid hv2
 have HT:=Lib.hid hT
 clear hC hv1 hv2 hT
 obtain ⟨gF,hgF⟩:∃ g,w.heap.size=g:=⟨_,rfl⟩
 obtain ⟨w1,hw1⟩:∃ x,w.alloc (.cells #[.int .i64 1,.int .i64 1,.string ⟨#[105,56]⟩,.string ⟨#[]⟩,.bool false,.int .i64 0,.int .i64 0,.string ⟨#[]⟩,.slice none 0 0,.slice none 0 0] 50)=x:=⟨_,rfl⟩
 obtain ⟨gS,hgS⟩:∃ g,gF+1=g:=⟨_,rfl⟩
 have hs1:w1.heap.size=gS:=by rw [← hw1,← hgS,← hgF];exact Array.size_push _
 obtain ⟨w2,hw2⟩:∃ x,w1.alloc (.cells #[.int .i64 4,.string ⟨#[97,46,65]⟩,.slice (some ⟨gF,0,none⟩) 1 1] 48)=x:=⟨_,rfl⟩
 obtain ⟨gM,hgM⟩:∃ g,gS+1=g:=⟨_,rfl⟩
 have hs2:w2.heap.size=gM:=by rw [← hw2,← hgM,← hs1];exact Array.size_push _
 obtain ⟨w3,hw3⟩:∃ x,w2.alloc (.cells #[.slice (some ⟨gS,0,none⟩) 1 1,.slice none 0 0,.slice none 0 0] 32)=x:=⟨_,rfl⟩
 have hbF:Blk w3 gF gF (fldA fld1) 50:=by rw [← hw3,← hw2,← hw1,← hgF];exact ((Blk.new w _ _).alloc _).alloc _
 have hbS:Blk w3 gS gS (strA ⟨4,aA,.slice (some ⟨gF,0,none⟩) 1 1⟩) 48:=by rw [← hw3,← hw2,← hs1];exact (Blk.new w1 _ _).alloc _
 have hbM:Blk w3 gM gM #[.slice (some ⟨gS,0,none⟩) 1 1,.slice none 0 0,.slice none 0 0] 32:=by rw [← hw3,← hs2];exact Blk.new w2 _ _
 have HN3:Hid (Nx w w3):=by rw [← hw3,← hw2,← hw1];exact nx (nx0 _ _) (nx (nx0 _ _) (nx0 _ _))
 have HFS:Hid (RdFs w3 (.slice (some ⟨gF,0,none⟩) 1 1) [fld1]):=⟨⟨some ⟨gF,0,none⟩,1,rfl,Nat.le_refl _,by decide,RdR.one fldA_size hbF⟩,by decide,List.pairwise_singleton _ _,fun f hf=>by
  rw [List.mem_singleton.1 hf]
  exact ⟨by decide,⟨_,_,_,rfl⟩,⟨_,_,_,rfl⟩⟩⟩
 have HSC:Hid (SchS w3 (.agg #[.slice (some ⟨gS,0,none⟩) 1 1,.slice none 0 0,.slice none 0 0]) 4 aA [fld1]):=⟨_,_,none,0,none,0,0,_,rfl,Nat.le_refl _,by decide,by decide,RdR.one (f:=strA) (x:=⟨4,aA,.slice (some ⟨gF,0,none⟩) 1 1⟩) (fun _=>rfl) hbS,HFS.out⟩
 have HBM:=Lib.hid hbM
 have m0:w3.cell? ⟨gM,0,none⟩=some (.slice (some ⟨gS,0,none⟩) 1 1):=hbM.cell 0
 have m1:w3.cell? ⟨gM,1,none⟩=some (.slice none 0 0):=hbM.cell 1
 have m2:w3.cell? ⟨gM,2,none⟩=some (.slice none 0 0):=hbM.cell 2
 have HW1:=Lib.hid hw1
 have HW2:=Lib.hid hw2
 have HW3:=Lib.hid hw3
 have HGS:=Lib.hid hgS
 have HGM:=Lib.hid hgM
 clear hw1 hw2 hw3 hgS hgM hs1 hs2 hbF hbS hbM
 go_enter Tryd.func6,Tryd.ntmps6
 go_upto_region 2 with (fail)
 rw [HW1.out,HGS.out,HW2.out,HGM.out,HW3.out]
 clear HW1 HW2 HW3 HGS HGM hgF
 have HT3:Hid (T w3):=HC.out.nx HT.out HN3.out
 have hst:=HC.out.str w3 _ HT3.out HSC.out
 have HST:=Lib.hid hst
 clear hst
 go_wp2_with fail
 refine HST.out.mono ?_
 rintro e w4 ⟨fl,yI,rfl,hfs,hn4⟩
 rw [show aA.toArray=#[97,46,65] from rfl]
 obtain ⟨⟨fA,fc,rfl,hf1,hf2,hf3⟩,hfr⟩:=id hfs
 simp only [List.length_cons,List.length_nil,Nat.zero_add] at hfs hf1 ⊢
 obtain ⟨g5,hg5⟩:∃ g,w4.heap.size=g:=⟨_,rfl⟩
 obtain ⟨w5,hw5⟩:∃ x,w4.alloc (.cells #[.int .i64 4,.string ⟨#[97,46,65]⟩,.slice fA 1 fc] 48)=x:=⟨_,rfl⟩
 obtain ⟨gI,hgI⟩:∃ g,g5+1=g:=⟨_,rfl⟩
 have hs5:w5.heap.size=gI:=by rw [← hw5,← hgI,← hg5];exact Array.size_push _
 obtain ⟨w6,hw6⟩:∃ x,w5.alloc (.cells #[.int .i64 1] 3)=x:=⟨_,rfl⟩
 obtain ⟨gV,hgV⟩:∃ g,gI+1=g:=⟨_,rfl⟩
 have hs6:w6.heap.size=gV:=by rw [← hw6,← hgV,← hs5];exact Array.size_push _
 obtain ⟨w7,hw7⟩:∃ x,w6.alloc (.cells #[.int .i64 3,.int .i64 5,.string ⟨#[]⟩,.slice none 0 0,.slice none 0 0] 41)=x:=⟨_,rfl⟩
 obtain ⟨gX,hgX⟩:∃ g,gV+1=g:=⟨_,rfl⟩
 have hs7:w7.heap.size=gX:=by rw [← hw7,← hgX,← hs6];exact Array.size_push _
 obtain ⟨w8,hw8⟩:∃ x,w7.alloc (.cells #[.int .i64 12,.int .i64 0,.string ⟨#[]⟩,.slice (some ⟨gV,0,none⟩) 1 1,.slice (some ⟨gI,0,none⟩) 1 1] 41)=x:=⟨_,rfl⟩
 have hn45:Nx w4 w5:=by rw [← hw5];exact nx0 _ _
 have hn56:Nx w5 w6:=by rw [← hw6];exact nx0 _ _
 have hn67:Nx w6 w7:=by rw [← hw7];exact nx0 _ _
 have hn78:Nx w7 w8:=by rw [← hw8];exact nx0 _ _
 have hb5:Blk w5 g5 g5 #[.int .i64 4,.string ⟨#[97,46,65]⟩,.slice fA 1 fc] 48:=by rw [← hw5,← hg5];exact Blk.new w4 _ _
 have hbI:Blk w6 gI gI #[.int .i64 1] 3:=by rw [← hw6,← hs5];exact Blk.new w5 _ _
 have hbV:Blk w7 gV gV (valA ⟨3,5,[],.slice none 0 0,.slice none 0 0⟩) 41:=by rw [← hw7,← hs6];exact Blk.new w6 _ _
 have hbX:Blk w8 gX gX #[.int .i64 12,.int .i64 0,.string ⟨#[]⟩,.slice (some ⟨gV,0,none⟩) 1 1,.slice (some ⟨gI,0,none⟩) 1 1] 41:=by rw [← hw8,← hs7];exact Blk.new w7 _ _
 have HB5:=Lib.hid (((hb5.below hn56).below hn67).below hn78)
 have HBX:=Lib.hid hbX
 have HN8:=Lib.hid (hn4.trans (hn45.trans (hn56.trans (hn67.trans hn78))))
 have HRX:Hid (RdV 2 w8 ⟨12,0,[],.slice (some ⟨gV,0,none⟩) 1 1,.slice (some ⟨gI,0,none⟩) 1 1⟩ (.mk 12 0 [] [leafV 3 5] [1])):=by
  refine ⟨rfl,rfl,rfl,⟨_,_,[⟨3,5,[],.slice none 0 0,.slice none 0 0⟩],rfl,Nat.le_refl _,(by decide),fun _=>⟨gV,0,rfl,(hbV.below hn78).lt,fun i hi j hj=>?_⟩,rfl,fun i h1 h2=>?_⟩,⟨_,_,rfl,Nat.le_refl _,(by decide),fun _=>⟨gI,0,rfl,((hbI.below hn67).below hn78).lt,fun p hp=>?_⟩⟩⟩
  ·obtain rfl:i=0:=by simpa using hi
   rw [Nat.zero_mul,Nat.add_zero,Nat.zero_add,(hbV.below hn78).cell];rfl
  ·obtain rfl:i=0:=by simpa using h1
   exact RdV.leaf 0 w8 3 5
  ·obtain rfl:p=0:=by simpa using hp
   rw [Nat.add_zero,((hbI.below hn67).below hn78).cell];rfl
 have HFS8:Hid (RdFs w8 (.slice fA 1 fc) [fldY yI]):=hfs.nx (hn45.trans (hn56.trans (hn67.trans hn78)))
 have HW5:=Lib.hid hw5
 have HW6:=Lib.hid hw6
 have HW7:=Lib.hid hw7
 have HW8:=Lib.hid hw8
 have HGI:=Lib.hid hgI
 have HGV:=Lib.hid hgV
 have HGX:=Lib.hid hgX
 have HG5:=Lib.hid hg5
 clear hw5 hw6 hw7 hw8 hgI hgV hgX hs5 hs6 hs7 hn45 hn56 hn67 hn78 hb5 hbI hbV hbX hn4 hfs hf1 hf2 hf3 hfr m0 m1 m2 hg5 HST
 go_upto_region 4 with (fail)
 rw [HG5.out,HGI.out,HGV.out,HGX.out,HW5.out,HW6.out,HW7.out,HW8.out]
 clear HG5 HGI HGV HGX HW5 HW6 HW7 HW8
 have HNW:=Lib.hid (HN3.out.trans HN8.out)
 have HT8:Hid (T w8):=HC.out.nx HT.out HNW.out
 have HBM8:=Lib.hid (HBM.out.below HN8.out)
 have HS8:=Lib.hid (HSC.out.nx HN8.out)
 have HSM:Hid (smallV (.mk 12 0 [] [leafV 3 5] [1])):=⟨by decide,⟨by decide,by decide⟩,rfl,by decide,by decide,fun x hx=>by
  rw [List.mem_singleton.1 hx]
  exact ⟨by decide,⟨by decide,by decide⟩,rfl,rfl,rfl⟩⟩
 have HSB:Hid (smallV (leafV 3 128)):=⟨by decide,⟨by decide,by decide⟩,rfl,by decide,by decide,fun x hx=>by cases hx⟩
 have HFI:Hid (∀ f ∈ [fld1],i64B f.id):=fun f hf=>by
  rw [List.mem_singleton.1 hf];exact ⟨by decide,by decide⟩
 have HFJ:Hid (∀ f ∈ [fldY yI],i64B f.id):=fun f hf=>by
  rw [List.mem_singleton.1 hf];exact (⟨by decide,by decide⟩:i64B 1)
 have HII:Hid (idsB (.mk 12 0 [] [leafV 3 5] [1])):=fun z hz=>by
  rw [List.mem_singleton.1 hz];exact ⟨by decide,by decide⟩
 have HS0:Hid (Sch0 (.agg #[.slice (some ⟨gS,0,none⟩) 1 1,.slice none 0 0,.slice none 0 0])):=⟨_,_,_,_,_,_,_,_,_,rfl⟩
 have c1:Hid (∀ wx,Nx w8 wx→Calls Tryd.prog 7 #[.agg #[.slice (some ⟨gS,0,none⟩) 1 1,.slice none 0 0,.slice none 0 0],.string ⟨#[97,46,65]⟩,.agg #[.int .i64 12,.int .i64 0,.string ⟨#[]⟩,.slice (some ⟨gV,0,none⟩) 1 1,.slice (some ⟨gI,0,none⟩) 1 1]] wx fun e w'=>e = .returned (.bool true)∧Nx wx w'):=fun wx hx =>
  HC.out.chkS wx _ ⟨12,0,[],.slice (some ⟨gV,0,none⟩) 1 1,.slice (some ⟨gI,0,none⟩) 1 1⟩ _ 4 [fld1] (HC.out.nx HT8.out hx) (HS8.out.nx hx) (HRX.out.nx hx) HSM.out HFI.out HII.out
 have c2:Hid (∀ wx,Nx w8 wx→Calls Tryd.prog 7 #[.agg #[.slice (some ⟨gS,0,none⟩) 1 1,.slice none 0 0,.slice none 0 0],.string ⟨#[105,56]⟩,.agg #[.int .i64 3,.int .i64 128,.string ⟨#[]⟩,.slice none 0 0,.slice none 0 0]] wx fun e w'=>e = .returned (.bool false)∧Nx wx w'):=fun wx hx =>
  HC.out.chkB wx _ (leafS 3 128) (leafV 3 128) [105,56] 3 (HC.out.nx HT8.out hx) HS0.out (RdV.leaf 1 wx 3 128) HSB.out rfl
 have c3:Hid (∀ wx,Nx w8 wx→Calls Tryd.prog 9 #[.agg #[.slice (some ⟨gS,0,none⟩) 1 1,.slice none 0 0,.slice none 0 0],.agg #[.int .i64 4,.string ⟨#[97,46,65]⟩,.slice fA 1 fc],.agg #[.int .i64 12,.int .i64 0,.string ⟨#[]⟩,.slice (some ⟨gV,0,none⟩) 1 1,.slice (some ⟨gI,0,none⟩) 1 1]] wx fun e w'=>e = .returned (.bool true)∧Nx wx w'):=fun wx hx =>
  HC.out.fld wx _ ⟨12,0,[],.slice (some ⟨gV,0,none⟩) 1 1,.slice (some ⟨gI,0,none⟩) 1 1⟩ _ 4 aA _ [fldY yI] (HC.out.nx HT8.out hx) HS0.out (HFS8.out.nx hx) (HRX.out.nx hx) HSM.out HFJ.out HII.out
 have c4:Hid (∀ wx,Nx w8 wx→Calls Tryd.prog 11 #[.agg #[.slice (some ⟨gS,0,none⟩) 1 1,.slice none 0 0,.slice none 0 0],.string ⟨#[97,46,65]⟩] wx fun e w'=>e = .returned (.int .i64 12)∧Nx wx w'):=fun wx hx =>
  HC.out.knd wx _ 4 [fld1] (HC.out.nx HT8.out hx) (HS8.out.nx hx)
 have c5:Hid (∀ wx,Nx w8 wx→Calls Tryd.prog 8 #[.string ⟨#[97]⟩] wx fun e w'=>e = .returned (.bool true)∧Nx wx w'):=fun wx hx=>by
  have h:=HC.out.val wx [97] (HC.out.nx HT8.out hx) (by decide)
  rw [HV1.out] at h;exact h
 have c6:Hid (∀ wx,Nx w8 wx→Calls Tryd.prog 8 #[.string ⟨#[255]⟩] wx fun e w'=>e = .returned (.bool false)∧Nx wx w'):=fun wx hx=>by
  have h:=HC.out.val wx [255] (HC.out.nx HT8.out hx) (by decide)
  rw [HV2.out] at h;exact h
 have p0:w8.cell? ⟨gM,0,none⟩=some (.slice (some ⟨gS,0,none⟩) 1 1):=HBM8.out.cell 0
 have p1:w8.cell? ⟨gM,1,none⟩=some (.slice none 0 0):=HBM8.out.cell 1
 have p2:w8.cell? ⟨gM,2,none⟩=some (.slice none 0 0):=HBM8.out.cell 2
 have x0:w8.cell? ⟨gX,0,none⟩=some (.int .i64 12):=HBX.out.cell 0
 have x1:w8.cell? ⟨gX,1,none⟩=some (.int .i64 0):=HBX.out.cell 1
 have x2:w8.cell? ⟨gX,2,none⟩=some (.string ⟨#[]⟩):=HBX.out.cell 2
 have x3:w8.cell? ⟨gX,3,none⟩=some (.slice (some ⟨gV,0,none⟩) 1 1):=HBX.out.cell 3
 have x4:w8.cell? ⟨gX,4,none⟩=some (.slice (some ⟨gI,0,none⟩) 1 1):=HBX.out.cell 4
 have s0:w8.cell? ⟨g5,0,none⟩=some (.int .i64 4):=HB5.out.cell 0
 have s1:w8.cell? ⟨g5,1,none⟩=some (.string ⟨#[97,46,65]⟩):=HB5.out.cell 1
 have s2:w8.cell? ⟨g5,2,none⟩=some (.slice fA 1 fc):=HB5.out.cell 2
 go_wp2_with fail
 refine (c1.out w8 (Nx.refl _)).mono ?_;rintro e w9 ⟨rfl,hkw9⟩
 have HKw9:Hid (Nx w8 w9):=hkw9
 clear p0 p1 p2 x0 x1 x2 x3 x4 s0 s1 s2 hkw9
 have p0:w9.cell? ⟨gM,0,none⟩=some (.slice (some ⟨gS,0,none⟩) 1 1):=(HBM8.out.below HKw9.out).cell 0
 have p1:w9.cell? ⟨gM,1,none⟩=some (.slice none 0 0):=(HBM8.out.below HKw9.out).cell 1
 have p2:w9.cell? ⟨gM,2,none⟩=some (.slice none 0 0):=(HBM8.out.below HKw9.out).cell 2
 have x0:w9.cell? ⟨gX,0,none⟩=some (.int .i64 12):=(HBX.out.below HKw9.out).cell 0
 have x1:w9.cell? ⟨gX,1,none⟩=some (.int .i64 0):=(HBX.out.below HKw9.out).cell 1
 have x2:w9.cell? ⟨gX,2,none⟩=some (.string ⟨#[]⟩):=(HBX.out.below HKw9.out).cell 2
 have x3:w9.cell? ⟨gX,3,none⟩=some (.slice (some ⟨gV,0,none⟩) 1 1):=(HBX.out.below HKw9.out).cell 3
 have x4:w9.cell? ⟨gX,4,none⟩=some (.slice (some ⟨gI,0,none⟩) 1 1):=(HBX.out.below HKw9.out).cell 4
 have s0:w9.cell? ⟨g5,0,none⟩=some (.int .i64 4):=(HB5.out.below HKw9.out).cell 0
 have s1:w9.cell? ⟨g5,1,none⟩=some (.string ⟨#[97,46,65]⟩):=(HB5.out.below HKw9.out).cell 1
 have s2:w9.cell? ⟨g5,2,none⟩=some (.slice fA 1 fc):=(HB5.out.below HKw9.out).cell 2
 go_wp2_with fail
 refine (c2.out w9 (HKw9.out)).mono ?_;rintro e wa ⟨rfl,hkwa⟩
 have HKwa:Hid (Nx w8 wa):=HKw9.out.trans hkwa
 clear p0 p1 p2 x0 x1 x2 x3 x4 s0 s1 s2 hkwa
 have p0:wa.cell? ⟨gM,0,none⟩=some (.slice (some ⟨gS,0,none⟩) 1 1):=(HBM8.out.below HKwa.out).cell 0
 have p1:wa.cell? ⟨gM,1,none⟩=some (.slice none 0 0):=(HBM8.out.below HKwa.out).cell 1
 have p2:wa.cell? ⟨gM,2,none⟩=some (.slice none 0 0):=(HBM8.out.below HKwa.out).cell 2
 have x0:wa.cell? ⟨gX,0,none⟩=some (.int .i64 12):=(HBX.out.below HKwa.out).cell 0
 have x1:wa.cell? ⟨gX,1,none⟩=some (.int .i64 0):=(HBX.out.below HKwa.out).cell 1
 have x2:wa.cell? ⟨gX,2,none⟩=some (.string ⟨#[]⟩):=(HBX.out.below HKwa.out).cell 2
 have x3:wa.cell? ⟨gX,3,none⟩=some (.slice (some ⟨gV,0,none⟩) 1 1):=(HBX.out.below HKwa.out).cell 3
 have x4:wa.cell? ⟨gX,4,none⟩=some (.slice (some ⟨gI,0,none⟩) 1 1):=(HBX.out.below HKwa.out).cell 4
 have s0:wa.cell? ⟨g5,0,none⟩=some (.int .i64 4):=(HB5.out.below HKwa.out).cell 0
 have s1:wa.cell? ⟨g5,1,none⟩=some (.string ⟨#[97,46,65]⟩):=(HB5.out.below HKwa.out).cell 1
 have s2:wa.cell? ⟨g5,2,none⟩=some (.slice fA 1 fc):=(HB5.out.below HKwa.out).cell 2
 go_wp2_with fail
 refine (c3.out wa (HKwa.out)).mono ?_;rintro e wb ⟨rfl,hkwb⟩
 have HKwb:Hid (Nx w8 wb):=HKwa.out.trans hkwb
 clear p0 p1 p2 x0 x1 x2 x3 x4 s0 s1 s2 hkwb
 have p0:wb.cell? ⟨gM,0,none⟩=some (.slice (some ⟨gS,0,none⟩) 1 1):=(HBM8.out.below HKwb.out).cell 0
 have p1:wb.cell? ⟨gM,1,none⟩=some (.slice none 0 0):=(HBM8.out.below HKwb.out).cell 1
 have p2:wb.cell? ⟨gM,2,none⟩=some (.slice none 0 0):=(HBM8.out.below HKwb.out).cell 2
 have x0:wb.cell? ⟨gX,0,none⟩=some (.int .i64 12):=(HBX.out.below HKwb.out).cell 0
 have x1:wb.cell? ⟨gX,1,none⟩=some (.int .i64 0):=(HBX.out.below HKwb.out).cell 1
 have x2:wb.cell? ⟨gX,2,none⟩=some (.string ⟨#[]⟩):=(HBX.out.below HKwb.out).cell 2
 have x3:wb.cell? ⟨gX,3,none⟩=some (.slice (some ⟨gV,0,none⟩) 1 1):=(HBX.out.below HKwb.out).cell 3
 have x4:wb.cell? ⟨gX,4,none⟩=some (.slice (some ⟨gI,0,none⟩) 1 1):=(HBX.out.below HKwb.out).cell 4
 have s0:wb.cell? ⟨g5,0,none⟩=some (.int .i64 4):=(HB5.out.below HKwb.out).cell 0
 have s1:wb.cell? ⟨g5,1,none⟩=some (.string ⟨#[97,46,65]⟩):=(HB5.out.below HKwb.out).cell 1
 have s2:wb.cell? ⟨g5,2,none⟩=some (.slice fA 1 fc):=(HB5.out.below HKwb.out).cell 2
 go_wp2_with fail
 refine (c4.out wb (HKwb.out)).mono ?_;rintro e wc ⟨rfl,hkwc⟩
 have HKwc:Hid (Nx w8 wc):=HKwb.out.trans hkwc
 clear p0 p1 p2 x0 x1 x2 x3 x4 s0 s1 s2 hkwc
 go_wp2_with fail
 refine (c5.out wc HKwc.out).mono ?_;rintro e wd ⟨rfl,hkd⟩
 go_wp2_with fail
 refine (c6.out wd (HKwc.out.trans hkd)).mono ?_;rintro e we ⟨rfl,hke⟩
 have HKE:Hid (Nx w8 we):=HKwc.out.trans (hkd.trans hke)
 clear hkd hke
 go_wp2_with fail
 go_ret
 exact ⟨rfl,HNW.out.trans HKE.out⟩
end Go.Proofs.YtnfelopknfdpfaaDoor
namespace Go.Proofs.YtnfelopknfdpfaaDoor
open Go.RowKit
theorem wr8 (n:Int):(n == wrap64 (IntKind.i8.wrap n))=rngB 3 n:=by
 have h:n=wrap64 (IntKind.i8.wrap n)↔-128≤n∧n≤127:=by
  unfold wrap64 IntKind.wrap
  simp only [IntKind.bits,IntKind.signed,Bool.true_and,decide_eq_true_eq,show (2:Int) ^ 8=256 from rfl,show (2:Int) ^ 16=65536 from rfl,show (2:Int) ^ (8 - 1)=128 from rfl,show (2:Int) ^ (16 - 1)=32768 from rfl]
  split <;> omega
 unfold rngB
 rw [if_neg (by decide),if_pos rfl,Bool.eq_iff_iff]
 simp only [beq_iff_eq,Bool.and_eq_true,decide_eq_true_eq]
 exact h
theorem wr16 (n:Int):(n == wrap64 (IntKind.i16.wrap n))=rngB 6 n:=by
 have h:n=wrap64 (IntKind.i16.wrap n)↔-32768≤n∧n≤32767:=by
  unfold wrap64 IntKind.wrap
  simp only [IntKind.bits,IntKind.signed,Bool.true_and,decide_eq_true_eq,show (2:Int) ^ 8=256 from rfl,show (2:Int) ^ 16=65536 from rfl,show (2:Int) ^ (8 - 1)=128 from rfl,show (2:Int) ^ (16 - 1)=32768 from rfl]
  split <;> omega
 unfold rngB
 rw [if_neg (by decide),if_neg (by decide),if_pos rfl,Bool.eq_iff_iff]
 simp only [beq_iff_eq,Bool.and_eq_true,decide_eq_true_eq]
 exact h
theorem wr32 (n:Int):(n == wrap64 (wrap32 n))=rngB 8 n:=by
 have h:n=wrap64 (wrap32 n)↔-2147483648≤n∧n≤2147483647:=by
  unfold wrap64 wrap32
  omega
 unfold rngB
 rw [if_neg (by decide),if_neg (by decide),if_neg (by decide),if_pos rfl,Bool.eq_iff_iff]
 simp only [beq_iff_eq,Bool.and_eq_true,decide_eq_true_eq]
 exact h
def wantA (n:Int):Array Value:=#[.bool (rngB 2 n),.bool (rngB 3 n),.bool (rngB 6 n),.bool (rngB 8 n),.bool true,.bool true,.bool (decide (n ∈ [3,9]))]
theorem ms_ok:∀ m ∈ [(⟨[65],true,3⟩:MemS),⟨[66],true,9⟩],i64B m.n:=fun m hm=>by
 rcases List.mem_cons.1 hm with rfl | hm
 ·exact ⟨by decide,by decide⟩
 ·rw [List.mem_singleton.1 hm];exact ⟨by decide,by decide⟩
set_option maxRecDepth 100000 in
set_option maxHeartbeats 12800000 in
theorem ValueRanges_of {T:World→Prop} {validB:List UInt8→Bool} (hC:ValC T validB) (hv1:validB [97]=true) (hv2:validB [255]=false) (n:Int) (w:World) (hT:T w) (h1 : -9223372036854775808≤n) (h2:n≤9223372036854775807) :
  Calls Tryd.prog 3 #[.int .i64 n] w fun e w'=>e = .returned (.bool true)∧Below w.heap.size w w':=by
 have HBG:=Lib.hid (vlbegun_of hC hv1 hv2 w hT)
 have HC:=Lib.hid hC
 have HT:=Lib.hid hT
 have HNB:Hid (i64B n):=⟨h1,h2⟩
 clear hC hv1 hv2 hT
 go_enter Tryd.func3,Tryd.ntmps3
 go_wp2_with fail
 refine HBG.out.mono ?_;rintro e w1 ⟨rfl,hn1⟩
 have HN1:=Lib.hid hn1
 clear hn1 HBG
 obtain ⟨gM,hgM⟩:∃ g,w1.heap.size=g:=⟨_,rfl⟩
 obtain ⟨w2,hw2⟩:∃ x,w1.alloc (.cells #[.string ⟨#[65]⟩,.bool true,.int .i64 3,.string ⟨#[66]⟩,.bool true,.int .i64 9] 24)=x:=⟨_,rfl⟩
 obtain ⟨gE,hgE⟩:∃ g,gM+1=g:=⟨_,rfl⟩
 have hs2:w2.heap.size=gE:=by rw [← hw2,← hgE,← hgM];exact Array.size_push _
 obtain ⟨w3,hw3⟩:∃ x,w2.alloc (.cells #[.string ⟨#[97,46,69]⟩,.slice (some ⟨gM,0,none⟩) 2 2] 27)=x:=⟨_,rfl⟩
 obtain ⟨gS,hgS⟩:∃ g,gE+1=g:=⟨_,rfl⟩
 have hs3:w3.heap.size=gS:=by rw [← hw3,← hgS,← hs2];exact Array.size_push _
 obtain ⟨w4,hw4⟩:∃ x,w3.alloc (.cells #[.slice none 0 0,.slice (some ⟨gE,0,none⟩) 1 1,.slice none 0 0] 32)=x:=⟨_,rfl⟩
 obtain ⟨gT,hgT⟩:∃ g,gS+1=g:=⟨_,rfl⟩
 have hs4:w4.heap.size=gT:=by rw [← hw4,← hgT,← hs3];exact Array.size_push _
 obtain ⟨w5,hw5⟩:∃ x,w4.alloc (.cells #[.string ⟨#[98,111,111,108]⟩,.string ⟨#[105,56]⟩,.string ⟨#[105,49,54]⟩,.string ⟨#[105,51,50]⟩,.string ⟨#[105,54,52]⟩,.string ⟨#[100,111,117,98,108,101]⟩,.string ⟨#[97,46,69]⟩] 9)=x:=⟨_,rfl⟩
 obtain ⟨gK,hgK⟩:∃ g,gT+1=g:=⟨_,rfl⟩
 have hs5:w5.heap.size=gK:=by rw [← hw5,← hgK,← hs4];exact Array.size_push _
 obtain ⟨w6,hw6⟩:∃ x,w5.alloc (.cells #[.int .i64 2,.int .i64 3,.int .i64 6,.int .i64 8,.int .i64 10,.int .i64 4,.int .i64 17] 3)=x:=⟨_,rfl⟩
 have hn12:Nx w1 w2:=by rw [← hw2];exact nx0 _ _
 have hn23:Nx w2 w3:=by rw [← hw3];exact nx0 _ _
 have hn34:Nx w3 w4:=by rw [← hw4];exact nx0 _ _
 have hn45:Nx w4 w5:=by rw [← hw5];exact nx0 _ _
 have hn56:Nx w5 w6:=by rw [← hw6];exact nx0 _ _
 have hbM:Blk w2 gM gM #[.string ⟨#[65]⟩,.bool true,.int .i64 3,.string ⟨#[66]⟩,.bool true,.int .i64 9] 24:=by rw [← hw2,← hgM];exact Blk.new w1 _ _
 have hbE:Blk w3 gE gE (enmA ⟨aE,.slice (some ⟨gM,0,none⟩) 2 2⟩) 27:=by rw [← hw3,← hs2];exact Blk.new w2 _ _
 have hbS:Blk w4 gS gS #[.slice none 0 0,.slice (some ⟨gE,0,none⟩) 1 1,.slice none 0 0] 32:=by rw [← hw4,← hs3];exact Blk.new w3 _ _
 have hbT:Blk w5 gT gT #[.string ⟨#[98,111,111,108]⟩,.string ⟨#[105,56]⟩,.string ⟨#[105,49,54]⟩,.string ⟨#[105,51,50]⟩,.string ⟨#[105,54,52]⟩,.string ⟨#[100,111,117,98,108,101]⟩,.string ⟨#[97,46,69]⟩] 9:=by rw [← hw5,← hs4];exact Blk.new w4 _ _
 have hbK:Blk w6 gK gK #[.int .i64 2,.int .i64 3,.int .i64 6,.int .i64 8,.int .i64 10,.int .i64 4,.int .i64 17] 3:=by rw [← hw6,← hs5];exact Blk.new w5 _ _
 have HBS:=Lib.hid ((hbS.below hn45).below hn56)
 have HBT:=Lib.hid (hbT.below hn56)
 have HBK:=Lib.hid hbK
 have hn36:Nx w3 w6:=hn34.trans (hn45.trans hn56)
 have HN6:=Lib.hid (HN1.out.trans (hn12.trans (hn23.trans hn36)))
 have HSE:Hid (SchE w6 (.agg #[.slice none 0 0,.slice (some ⟨gE,0,none⟩) 1 1,.slice none 0 0]) aE [⟨[65],true,3⟩,⟨[66],true,9⟩]):=by
  refine ⟨none,0,some ⟨gE,0,none⟩,1,none,0,0,some ⟨gM,0,none⟩,2,rfl,by decide,Nat.le_refl _,by decide,RdR.one (f:=enmA) (x:=⟨aE,.slice (some ⟨gM,0,none⟩) 2 2⟩) (fun _=>rfl) (hbE.below hn36),Nat.le_refl _,by decide,by decide,by decide,fun _=>⟨gM,0,rfl,(hbM.below (hn23.trans hn36)).lt,fun i hi j hj=>?_⟩⟩
  have hi2:i=0∨i=1:=by simp at hi;omega
  have hj3:j=0∨j=1∨j=2:=by omega
  rw [(hbM.below (hn23.trans hn36)).cell]
  rcases hi2 with rfl | rfl <;> rcases hj3 with rfl | rfl | rfl <;> rfl
 have HW2:=Lib.hid hw2
 have HW3:=Lib.hid hw3
 have HW4:=Lib.hid hw4
 have HW5:=Lib.hid hw5
 have HW6:=Lib.hid hw6
 have HGE:=Lib.hid hgE
 have HGS:=Lib.hid hgS
 have HGT:=Lib.hid hgT
 have HGK:=Lib.hid hgK
 have HGM:=Lib.hid hgM
 clear hgM hgE hgS hgT hgK hw2 hw3 hw4 hw5 hw6 hs2 hs3 hs4 hs5 hn12 hn23 hn34 hn45 hn56 hn36 hbM hbE hbS hbT hbK
 go_upto_region 6 with (fail)
 rw [HGM.out,HGE.out,HGS.out,HGT.out,HGK.out,HW2.out,HW3.out,HW4.out,HW5.out,HW6.out]
 clear HGM HGE HGS HGT HGK HW2 HW3 HW4 HW5 HW6
 go_cut [6] (fun v6 wx=>∃ g,v6 = .slice (some ⟨g,0,none⟩) 7 7∧Hid (Blk wx w6.heap.size g (wantA n) 4)∧Hid (Nx w6 wx))
 case first =>
  by_cases e0:n=0
  ·subst e0
   go_wp2_with fail
   go_meet
   have e:wantA 0=#[.bool true,.bool true,.bool true,.bool true,.bool true,.bool true,.bool false]:=rfl
   exact ⟨_,rfl,by rw [e];exact Blk.new w6 _ _,nx0 w6 _⟩
  by_cases e1:n=1
  ·subst e1
   go_wp2_with fail
   go_meet
   have e:wantA 1=#[.bool true,.bool true,.bool true,.bool true,.bool true,.bool true,.bool false]:=rfl
   exact ⟨_,rfl,by rw [e];exact Blk.new w6 _ _,nx0 w6 _⟩
  by_cases e3:n=3
  ·subst e3
   go_wp2_with fail
   go_meet
   have e:wantA 3=#[.bool false,.bool true,.bool true,.bool true,.bool true,.bool true,.bool true]:=rfl
   exact ⟨_,rfl,by rw [e];exact Blk.new w6 _ _,nx0 w6 _⟩
  by_cases e9:n=9
  ·subst e9
   go_wp2_with fail
   go_meet
   have e:wantA 9=#[.bool false,.bool true,.bool true,.bool true,.bool true,.bool true,.bool true]:=rfl
   exact ⟨_,rfl,by rw [e];exact Blk.new w6 _ _,nx0 w6 _⟩
  have q0:(n == 0)=false:=by rw [beq_eq_false_iff_ne];exact e0
  have q1:(n == 1)=false:=by rw [beq_eq_false_iff_ne];exact e1
  have q3:(n == 3)=false:=by rw [beq_eq_false_iff_ne];exact e3
  have q9:(n == 9)=false:=by rw [beq_eq_false_iff_ne];exact e9
  go_wp2_with fail
  go_meet
  have hw:wantA n=#[.bool false,.bool (n == wrap64 (IntKind.i8.wrap n)),.bool (n == wrap64 (IntKind.i16.wrap n)),.bool (n == wrap64 (wrap32 n)),.bool true,.bool true,.bool false]:=by
   rw [wr8,wr16,wr32]
   unfold wantA
   rw [show rngB 2 n=false from by unfold rngB;rw [if_pos rfl,decide_eq_false e0,decide_eq_false e1];rfl,show (decide (n ∈ [3,9]))=false from decide_eq_false (by simp;exact ⟨e3,e9⟩)]
  exact ⟨_,rfl,by rw [hw];exact Blk.new w6 _ _,nx0 w6 _⟩
 case rest =>
  obtain ⟨gW,rfl,HBW,HX6⟩:=hcut
  have HBS7:=Lib.hid (HBS.out.below HX6.out)
  have HBT7:=Lib.hid (HBT.out.below HX6.out)
  have HBK7:=Lib.hid (HBK.out.below HX6.out)
  have HSE7:=Lib.hid (HSE.out.nx HX6.out)
  have HN7:=Lib.hid (HN6.out.trans HX6.out)
  have HT7:Hid (T wc):=HC.out.nx HT.out HN7.out
  have HS0:Hid (Sch0 (.agg #[.slice none 0 0,.slice (some ⟨gE,0,none⟩) 1 1,.slice none 0 0])):=⟨_,_,_,_,_,_,_,_,_,rfl⟩
  have HSN:∀ k,k<32→smallV (leafV k n):=fun k hk=>⟨hk,HNB.out,rfl,by decide,by decide,fun x hx=>by cases hx⟩
  have HSNH:=Lib.hid HSN
  have HSX:Hid (smallV (leafV 11 0)):=⟨by decide,⟨by decide,by decide⟩,rfl,by decide,by decide,fun x hx=>by cases hx⟩
  clear HBS HBT HBK HSE HX6 HN6 HT HSN HNB
  go_wp2_with fail
  go_loopw [7] (fun x wr=>∃ i:Nat,x = .int .i64 (i:Int)∧i≤7∧Hid (Nx wc wr)) (fun x _=>(7 - intOf x).toNat)
  case atStart=>exact ⟨0,rfl,by decide,Nx.refl _⟩
  case round =>
   obtain ⟨i,rfl,hi,HX⟩:=hrel
   by_cases hlt:i<7
   ·have h7:i=0∨i=1∨i=2∨i=3∨i=4∨i=5∨i=6:=by omega
    clear hi hlt
    rcases h7 with rfl | rfl | rfl | rfl | rfl | rfl | rfl
    ·rw [show ((0:Nat):Int)=0 from rfl]
     have hc1:Hid (∀ wx,Nx wc wx→Calls Tryd.prog 7 #[.agg #[.slice none 0 0,.slice (some ⟨gE,0,none⟩) 1 1,.slice none 0 0],.string ⟨#[98,111,111,108]⟩,.agg #[.int .i64 2,.int .i64 n,.string ⟨#[]⟩,.slice none 0 0,.slice none 0 0]] wx fun e w'=>e = .returned (.bool (rngB 2 n))∧Nx wx w'):=fun wx hx=>by
      have h:=HC.out.chkB wx _ (leafS 2 n) (leafV 2 n) [98,111,111,108] 2 (HC.out.nx HT7.out hx) HS0.out (RdV.leaf 1 wx 2 n) (HSNH.out 2 (by decide)) rfl
      rw [show chkB 2 (leafV 2 n)=rngB 2 n from by simp [chkB,leafV]] at h
      exact h
     have hc2:Hid (∀ wx,Nx wc wx→Calls Tryd.prog 7 #[.agg #[.slice none 0 0,.slice (some ⟨gE,0,none⟩) 1 1,.slice none 0 0],.string ⟨#[98,111,111,108]⟩,.agg #[.int .i64 11,.int .i64 0,.string ⟨#[]⟩,.slice none 0 0,.slice none 0 0]] wx fun e w'=>e = .returned (.bool false)∧Nx wx w'):=fun wx hx =>
      HC.out.chkB wx _ (leafS 11 0) (leafV 11 0) [98,111,111,108] 2 (HC.out.nx HT7.out hx) HS0.out (RdV.leaf 1 wx 11 0) HSX.out rfl
     have Ls0:∀ x:Gr wr,x.1.cell? ⟨gS,0,none⟩=some (.slice none 0 0):=fun x=>(HBS7.out.below (HX.out.trans x.2)).cell 0
     have Ls1:∀ x:Gr wr,x.1.cell? ⟨gS,1,none⟩=some (.slice (some ⟨gE,0,none⟩) 1 1):=fun x=>(HBS7.out.below (HX.out.trans x.2)).cell 1
     have Ls2:∀ x:Gr wr,x.1.cell? ⟨gS,2,none⟩=some (.slice none 0 0):=fun x=>(HBS7.out.below (HX.out.trans x.2)).cell 2
     have Lt:∀ x:Gr wr,x.1.cell? ⟨gT,0,none⟩=some (.string ⟨#[98,111,111,108]⟩):=fun x=>(HBT7.out.below (HX.out.trans x.2)).cell 0
     have Lk:∀ x:Gr wr,x.1.cell? ⟨gK,0,none⟩=some (.int .i64 2):=fun x=>(HBK7.out.below (HX.out.trans x.2)).cell 0
     have Lw:∀ x:Gr wr,x.1.cell? ⟨gW,0,none⟩=some (.bool (rngB 2 n)):=fun x=>(HBW.out.below (HX.out.trans x.2)).cell 0
     obtain ⟨B,hB⟩:∃ b,(rngB 2 n)=b:=⟨_,rfl⟩
     rw [hB] at hc1 Lw
     clear hB
     go_upto_region 10 with (fail)
     have hbb:(B != B)=false:=by cases B <;> rfl
     refine wp_region_hyb [(0,true),(1,true),(2,true),(3,true),(4,true),(5,true),(6,true),(7,true),(8,true),(9,true),(10,true),(12,true),(13,true),(14,true),(15,true),(11,false),(16,true),(17,true),(18,true),(19,true),(20,true),(21,true),(22,true),(23,true),(24,false),(25,true)] (by kernel_rfl) (by kernel_rfl) ?_
     iterate 15 (refine hyb_calm rfl (fun K hK=>?_);go_simp;refine hK _ ?_;clear hK K)
     clear Ls0 Ls1 Ls2 Lt Lk Lw
     refine hyb_alone rfl (fun w8 hn8 K hK=>?_)
     go_simp
     refine (hc1.out w8 (HX.out.trans hn8)).mono ?_;rintro e w9 ⟨rfl,hn9⟩
     refine hK _ _ hn9 ?_
     clear hK K
     have HX9:=Lib.hid (HX.out.trans (hn8.trans hn9))
     have Ls0:∀ x:Gr w9,x.1.cell? ⟨gS,0,none⟩=some (.slice none 0 0):=fun x=>(HBS7.out.below (HX9.out.trans x.2)).cell 0
     have Ls1:∀ x:Gr w9,x.1.cell? ⟨gS,1,none⟩=some (.slice (some ⟨gE,0,none⟩) 1 1):=fun x=>(HBS7.out.below (HX9.out.trans x.2)).cell 1
     have Ls2:∀ x:Gr w9,x.1.cell? ⟨gS,2,none⟩=some (.slice none 0 0):=fun x=>(HBS7.out.below (HX9.out.trans x.2)).cell 2
     have Lt:∀ x:Gr w9,x.1.cell? ⟨gT,0,none⟩=some (.string ⟨#[98,111,111,108]⟩):=fun x=>(HBT7.out.below (HX9.out.trans x.2)).cell 0
     iterate 8 (refine hyb_calm rfl (fun K hK=>?_);go_simp;refine hK _ ?_;clear hK K)
     clear Ls0 Ls1 Ls2 Lt
     refine hyb_alone rfl (fun wa hna K hK=>?_)
     go_simp
     refine (hc2.out wa (HX9.out.trans hna)).mono ?_;rintro e wb ⟨rfl,hnb⟩
     refine hK _ _ hnb ?_
     clear hK K
     refine hyb_calm rfl (fun K hK=>?_);go_simp;refine hK _ ?_;clear hK K
     refine hyb_nil (fun wd hnd=>?_)
     have HXD:=Lib.hid (HX9.out.trans (hna.trans (hnb.trans hnd)))
     clear hn8 hn9 hna hnb hnd hbb hc1 hc2
     go_wp2_with fail
     go_roundw
     case rel=>exact ⟨1,by go_num,by decide,HXD.out⟩
     case measure=>simp [intOf]
    ·rw [show ((1:Nat):Int)=1 from rfl]
     have hc1:Hid (∀ wx,Nx wc wx→Calls Tryd.prog 7 #[.agg #[.slice none 0 0,.slice (some ⟨gE,0,none⟩) 1 1,.slice none 0 0],.string ⟨#[105,56]⟩,.agg #[.int .i64 3,.int .i64 n,.string ⟨#[]⟩,.slice none 0 0,.slice none 0 0]] wx fun e w'=>e = .returned (.bool (rngB 3 n))∧Nx wx w'):=fun wx hx=>by
      have h:=HC.out.chkB wx _ (leafS 3 n) (leafV 3 n) [105,56] 3 (HC.out.nx HT7.out hx) HS0.out (RdV.leaf 1 wx 3 n) (HSNH.out 3 (by decide)) rfl
      rw [show chkB 3 (leafV 3 n)=rngB 3 n from by simp [chkB,leafV]] at h
      exact h
     have hc2:Hid (∀ wx,Nx wc wx→Calls Tryd.prog 7 #[.agg #[.slice none 0 0,.slice (some ⟨gE,0,none⟩) 1 1,.slice none 0 0],.string ⟨#[105,56]⟩,.agg #[.int .i64 11,.int .i64 0,.string ⟨#[]⟩,.slice none 0 0,.slice none 0 0]] wx fun e w'=>e = .returned (.bool false)∧Nx wx w'):=fun wx hx =>
      HC.out.chkB wx _ (leafS 11 0) (leafV 11 0) [105,56] 3 (HC.out.nx HT7.out hx) HS0.out (RdV.leaf 1 wx 11 0) HSX.out rfl
     have Ls0:∀ x:Gr wr,x.1.cell? ⟨gS,0,none⟩=some (.slice none 0 0):=fun x=>(HBS7.out.below (HX.out.trans x.2)).cell 0
     have Ls1:∀ x:Gr wr,x.1.cell? ⟨gS,1,none⟩=some (.slice (some ⟨gE,0,none⟩) 1 1):=fun x=>(HBS7.out.below (HX.out.trans x.2)).cell 1
     have Ls2:∀ x:Gr wr,x.1.cell? ⟨gS,2,none⟩=some (.slice none 0 0):=fun x=>(HBS7.out.below (HX.out.trans x.2)).cell 2
     have Lt:∀ x:Gr wr,x.1.cell? ⟨gT,1,none⟩=some (.string ⟨#[105,56]⟩):=fun x=>(HBT7.out.below (HX.out.trans x.2)).cell 1
     have Lk:∀ x:Gr wr,x.1.cell? ⟨gK,1,none⟩=some (.int .i64 3):=fun x=>(HBK7.out.below (HX.out.trans x.2)).cell 1
     have Lw:∀ x:Gr wr,x.1.cell? ⟨gW,1,none⟩=some (.bool (rngB 3 n)):=fun x=>(HBW.out.below (HX.out.trans x.2)).cell 1
     obtain ⟨B,hB⟩:∃ b,(rngB 3 n)=b:=⟨_,rfl⟩
     rw [hB] at hc1 Lw
     clear hB
     go_upto_region 10 with (fail)
     have hbb:(B != B)=false:=by cases B <;> rfl
     refine wp_region_hyb [(0,true),(1,true),(2,true),(3,true),(4,true),(5,true),(6,true),(7,true),(8,true),(9,true),(10,true),(12,true),(13,true),(14,true),(15,true),(11,false),(16,true),(17,true),(18,true),(19,true),(20,true),(21,true),(22,true),(23,true),(24,false),(25,true)] (by kernel_rfl) (by kernel_rfl) ?_
     iterate 15 (refine hyb_calm rfl (fun K hK=>?_);go_simp;refine hK _ ?_;clear hK K)
     clear Ls0 Ls1 Ls2 Lt Lk Lw
     refine hyb_alone rfl (fun w8 hn8 K hK=>?_)
     go_simp
     refine (hc1.out w8 (HX.out.trans hn8)).mono ?_;rintro e w9 ⟨rfl,hn9⟩
     refine hK _ _ hn9 ?_
     clear hK K
     have HX9:=Lib.hid (HX.out.trans (hn8.trans hn9))
     have Ls0:∀ x:Gr w9,x.1.cell? ⟨gS,0,none⟩=some (.slice none 0 0):=fun x=>(HBS7.out.below (HX9.out.trans x.2)).cell 0
     have Ls1:∀ x:Gr w9,x.1.cell? ⟨gS,1,none⟩=some (.slice (some ⟨gE,0,none⟩) 1 1):=fun x=>(HBS7.out.below (HX9.out.trans x.2)).cell 1
     have Ls2:∀ x:Gr w9,x.1.cell? ⟨gS,2,none⟩=some (.slice none 0 0):=fun x=>(HBS7.out.below (HX9.out.trans x.2)).cell 2
     have Lt:∀ x:Gr w9,x.1.cell? ⟨gT,1,none⟩=some (.string ⟨#[105,56]⟩):=fun x=>(HBT7.out.below (HX9.out.trans x.2)).cell 1
     iterate 8 (refine hyb_calm rfl (fun K hK=>?_);go_simp;refine hK _ ?_;clear hK K)
     clear Ls0 Ls1 Ls2 Lt
     refine hyb_alone rfl (fun wa hna K hK=>?_)
     go_simp
     refine (hc2.out wa (HX9.out.trans hna)).mono ?_;rintro e wb ⟨rfl,hnb⟩
     refine hK _ _ hnb ?_
     clear hK K
     refine hyb_calm rfl (fun K hK=>?_);go_simp;refine hK _ ?_;clear hK K
     refine hyb_nil (fun wd hnd=>?_)
     have HXD:=Lib.hid (HX9.out.trans (hna.trans (hnb.trans hnd)))
     clear hn8 hn9 hna hnb hnd hbb hc1 hc2
     go_wp2_with fail
     go_roundw
     case rel=>exact ⟨2,by go_num,by decide,HXD.out⟩
     case measure=>simp [intOf]
    ·rw [show ((2:Nat):Int)=2 from rfl]
     have hc1:Hid (∀ wx,Nx wc wx→Calls Tryd.prog 7 #[.agg #[.slice none 0 0,.slice (some ⟨gE,0,none⟩) 1 1,.slice none 0 0],.string ⟨#[105,49,54]⟩,.agg #[.int .i64 6,.int .i64 n,.string ⟨#[]⟩,.slice none 0 0,.slice none 0 0]] wx fun e w'=>e = .returned (.bool (rngB 6 n))∧Nx wx w'):=fun wx hx=>by
      have h:=HC.out.chkB wx _ (leafS 6 n) (leafV 6 n) [105,49,54] 6 (HC.out.nx HT7.out hx) HS0.out (RdV.leaf 1 wx 6 n) (HSNH.out 6 (by decide)) rfl
      rw [show chkB 6 (leafV 6 n)=rngB 6 n from by simp [chkB,leafV]] at h
      exact h
     have hc2:Hid (∀ wx,Nx wc wx→Calls Tryd.prog 7 #[.agg #[.slice none 0 0,.slice (some ⟨gE,0,none⟩) 1 1,.slice none 0 0],.string ⟨#[105,49,54]⟩,.agg #[.int .i64 11,.int .i64 0,.string ⟨#[]⟩,.slice none 0 0,.slice none 0 0]] wx fun e w'=>e = .returned (.bool false)∧Nx wx w'):=fun wx hx =>
      HC.out.chkB wx _ (leafS 11 0) (leafV 11 0) [105,49,54] 6 (HC.out.nx HT7.out hx) HS0.out (RdV.leaf 1 wx 11 0) HSX.out rfl
     have Ls0:∀ x:Gr wr,x.1.cell? ⟨gS,0,none⟩=some (.slice none 0 0):=fun x=>(HBS7.out.below (HX.out.trans x.2)).cell 0
     have Ls1:∀ x:Gr wr,x.1.cell? ⟨gS,1,none⟩=some (.slice (some ⟨gE,0,none⟩) 1 1):=fun x=>(HBS7.out.below (HX.out.trans x.2)).cell 1
     have Ls2:∀ x:Gr wr,x.1.cell? ⟨gS,2,none⟩=some (.slice none 0 0):=fun x=>(HBS7.out.below (HX.out.trans x.2)).cell 2
     have Lt:∀ x:Gr wr,x.1.cell? ⟨gT,2,none⟩=some (.string ⟨#[105,49,54]⟩):=fun x=>(HBT7.out.below (HX.out.trans x.2)).cell 2
     have Lk:∀ x:Gr wr,x.1.cell? ⟨gK,2,none⟩=some (.int .i64 6):=fun x=>(HBK7.out.below (HX.out.trans x.2)).cell 2
     have Lw:∀ x:Gr wr,x.1.cell? ⟨gW,2,none⟩=some (.bool (rngB 6 n)):=fun x=>(HBW.out.below (HX.out.trans x.2)).cell 2
     obtain ⟨B,hB⟩:∃ b,(rngB 6 n)=b:=⟨_,rfl⟩
     rw [hB] at hc1 Lw
     clear hB
     go_upto_region 10 with (fail)
     have hbb:(B != B)=false:=by cases B <;> rfl
     refine wp_region_hyb [(0,true),(1,true),(2,true),(3,true),(4,true),(5,true),(6,true),(7,true),(8,true),(9,true),(10,true),(12,true),(13,true),(14,true),(15,true),(11,false),(16,true),(17,true),(18,true),(19,true),(20,true),(21,true),(22,true),(23,true),(24,false),(25,true)] (by kernel_rfl) (by kernel_rfl) ?_
     iterate 15 (refine hyb_calm rfl (fun K hK=>?_);go_simp;refine hK _ ?_;clear hK K)
     clear Ls0 Ls1 Ls2 Lt Lk Lw
     refine hyb_alone rfl (fun w8 hn8 K hK=>?_)
     go_simp
     refine (hc1.out w8 (HX.out.trans hn8)).mono ?_;rintro e w9 ⟨rfl,hn9⟩
     refine hK _ _ hn9 ?_
     clear hK K
     have HX9:=Lib.hid (HX.out.trans (hn8.trans hn9))
     have Ls0:∀ x:Gr w9,x.1.cell? ⟨gS,0,none⟩=some (.slice none 0 0):=fun x=>(HBS7.out.below (HX9.out.trans x.2)).cell 0
     have Ls1:∀ x:Gr w9,x.1.cell? ⟨gS,1,none⟩=some (.slice (some ⟨gE,0,none⟩) 1 1):=fun x=>(HBS7.out.below (HX9.out.trans x.2)).cell 1
     have Ls2:∀ x:Gr w9,x.1.cell? ⟨gS,2,none⟩=some (.slice none 0 0):=fun x=>(HBS7.out.below (HX9.out.trans x.2)).cell 2
     have Lt:∀ x:Gr w9,x.1.cell? ⟨gT,2,none⟩=some (.string ⟨#[105,49,54]⟩):=fun x=>(HBT7.out.below (HX9.out.trans x.2)).cell 2
     iterate 8 (refine hyb_calm rfl (fun K hK=>?_);go_simp;refine hK _ ?_;clear hK K)
     clear Ls0 Ls1 Ls2 Lt
     refine hyb_alone rfl (fun wa hna K hK=>?_)
     go_simp
     refine (hc2.out wa (HX9.out.trans hna)).mono ?_;rintro e wb ⟨rfl,hnb⟩
     refine hK _ _ hnb ?_
     clear hK K
     refine hyb_calm rfl (fun K hK=>?_);go_simp;refine hK _ ?_;clear hK K
     refine hyb_nil (fun wd hnd=>?_)
     have HXD:=Lib.hid (HX9.out.trans (hna.trans (hnb.trans hnd)))
     clear hn8 hn9 hna hnb hnd hbb hc1 hc2
     go_wp2_with fail
     go_roundw
     case rel=>exact ⟨3,by go_num,by decide,HXD.out⟩
     case measure=>simp [intOf]
    ·rw [show ((3:Nat):Int)=3 from rfl]
     have hc1:Hid (∀ wx,Nx wc wx→Calls Tryd.prog 7 #[.agg #[.slice none 0 0,.slice (some ⟨gE,0,none⟩) 1 1,.slice none 0 0],.string ⟨#[105,51,50]⟩,.agg #[.int .i64 8,.int .i64 n,.string ⟨#[]⟩,.slice none 0 0,.slice none 0 0]] wx fun e w'=>e = .returned (.bool (rngB 8 n))∧Nx wx w'):=fun wx hx=>by
      have h:=HC.out.chkB wx _ (leafS 8 n) (leafV 8 n) [105,51,50] 8 (HC.out.nx HT7.out hx) HS0.out (RdV.leaf 1 wx 8 n) (HSNH.out 8 (by decide)) rfl
      rw [show chkB 8 (leafV 8 n)=rngB 8 n from by simp [chkB,leafV]] at h
      exact h
     have hc2:Hid (∀ wx,Nx wc wx→Calls Tryd.prog 7 #[.agg #[.slice none 0 0,.slice (some ⟨gE,0,none⟩) 1 1,.slice none 0 0],.string ⟨#[105,51,50]⟩,.agg #[.int .i64 11,.int .i64 0,.string ⟨#[]⟩,.slice none 0 0,.slice none 0 0]] wx fun e w'=>e = .returned (.bool false)∧Nx wx w'):=fun wx hx =>
      HC.out.chkB wx _ (leafS 11 0) (leafV 11 0) [105,51,50] 8 (HC.out.nx HT7.out hx) HS0.out (RdV.leaf 1 wx 11 0) HSX.out rfl
     have Ls0:∀ x:Gr wr,x.1.cell? ⟨gS,0,none⟩=some (.slice none 0 0):=fun x=>(HBS7.out.below (HX.out.trans x.2)).cell 0
     have Ls1:∀ x:Gr wr,x.1.cell? ⟨gS,1,none⟩=some (.slice (some ⟨gE,0,none⟩) 1 1):=fun x=>(HBS7.out.below (HX.out.trans x.2)).cell 1
     have Ls2:∀ x:Gr wr,x.1.cell? ⟨gS,2,none⟩=some (.slice none 0 0):=fun x=>(HBS7.out.below (HX.out.trans x.2)).cell 2
     have Lt:∀ x:Gr wr,x.1.cell? ⟨gT,3,none⟩=some (.string ⟨#[105,51,50]⟩):=fun x=>(HBT7.out.below (HX.out.trans x.2)).cell 3
     have Lk:∀ x:Gr wr,x.1.cell? ⟨gK,3,none⟩=some (.int .i64 8):=fun x=>(HBK7.out.below (HX.out.trans x.2)).cell 3
     have Lw:∀ x:Gr wr,x.1.cell? ⟨gW,3,none⟩=some (.bool (rngB 8 n)):=fun x=>(HBW.out.below (HX.out.trans x.2)).cell 3
     obtain ⟨B,hB⟩:∃ b,(rngB 8 n)=b:=⟨_,rfl⟩
     rw [hB] at hc1 Lw
     clear hB
     go_upto_region 10 with (fail)
     have hbb:(B != B)=false:=by cases B <;> rfl
     refine wp_region_hyb [(0,true),(1,true),(2,true),(3,true),(4,true),(5,true),(6,true),(7,true),(8,true),(9,true),(10,true),(12,true),(13,true),(14,true),(15,true),(11,false),(16,true),(17,true),(18,true),(19,true),(20,true),(21,true),(22,true),(23,true),(24,false),(25,true)] (by kernel_rfl) (by kernel_rfl) ?_
     iterate 15 (refine hyb_calm rfl (fun K hK=>?_);go_simp;refine hK _ ?_;clear hK K)
     clear Ls0 Ls1 Ls2 Lt Lk Lw
     refine hyb_alone rfl (fun w8 hn8 K hK=>?_)
     go_simp
     refine (hc1.out w8 (HX.out.trans hn8)).mono ?_;rintro e w9 ⟨rfl,hn9⟩
     refine hK _ _ hn9 ?_
     clear hK K
     have HX9:=Lib.hid (HX.out.trans (hn8.trans hn9))
     have Ls0:∀ x:Gr w9,x.1.cell? ⟨gS,0,none⟩=some (.slice none 0 0):=fun x=>(HBS7.out.below (HX9.out.trans x.2)).cell 0
     have Ls1:∀ x:Gr w9,x.1.cell? ⟨gS,1,none⟩=some (.slice (some ⟨gE,0,none⟩) 1 1):=fun x=>(HBS7.out.below (HX9.out.trans x.2)).cell 1
     have Ls2:∀ x:Gr w9,x.1.cell? ⟨gS,2,none⟩=some (.slice none 0 0):=fun x=>(HBS7.out.below (HX9.out.trans x.2)).cell 2
     have Lt:∀ x:Gr w9,x.1.cell? ⟨gT,3,none⟩=some (.string ⟨#[105,51,50]⟩):=fun x=>(HBT7.out.below (HX9.out.trans x.2)).cell 3
     iterate 8 (refine hyb_calm rfl (fun K hK=>?_);go_simp;refine hK _ ?_;clear hK K)
     clear Ls0 Ls1 Ls2 Lt
     refine hyb_alone rfl (fun wa hna K hK=>?_)
     go_simp
     refine (hc2.out wa (HX9.out.trans hna)).mono ?_;rintro e wb ⟨rfl,hnb⟩
     refine hK _ _ hnb ?_
     clear hK K
     refine hyb_calm rfl (fun K hK=>?_);go_simp;refine hK _ ?_;clear hK K
     refine hyb_nil (fun wd hnd=>?_)
     have HXD:=Lib.hid (HX9.out.trans (hna.trans (hnb.trans hnd)))
     clear hn8 hn9 hna hnb hnd hbb hc1 hc2
     go_wp2_with fail
     go_roundw
     case rel=>exact ⟨4,by go_num,by decide,HXD.out⟩
     case measure=>simp [intOf]
    ·rw [show ((4:Nat):Int)=4 from rfl]
     have hc1:Hid (∀ wx,Nx wc wx→Calls Tryd.prog 7 #[.agg #[.slice none 0 0,.slice (some ⟨gE,0,none⟩) 1 1,.slice none 0 0],.string ⟨#[105,54,52]⟩,.agg #[.int .i64 10,.int .i64 n,.string ⟨#[]⟩,.slice none 0 0,.slice none 0 0]] wx fun e w'=>e = .returned (.bool (true))∧Nx wx w'):=fun wx hx=>by
      have h:=HC.out.chkB wx _ (leafS 10 n) (leafV 10 n) [105,54,52] 10 (HC.out.nx HT7.out hx) HS0.out (RdV.leaf 1 wx 10 n) (HSNH.out 10 (by decide)) rfl
      rw [show chkB 10 (leafV 10 n)=true from by simp [chkB,leafV,rngB]] at h
      exact h
     have hc2:Hid (∀ wx,Nx wc wx→Calls Tryd.prog 7 #[.agg #[.slice none 0 0,.slice (some ⟨gE,0,none⟩) 1 1,.slice none 0 0],.string ⟨#[105,54,52]⟩,.agg #[.int .i64 11,.int .i64 0,.string ⟨#[]⟩,.slice none 0 0,.slice none 0 0]] wx fun e w'=>e = .returned (.bool false)∧Nx wx w'):=fun wx hx =>
      HC.out.chkB wx _ (leafS 11 0) (leafV 11 0) [105,54,52] 10 (HC.out.nx HT7.out hx) HS0.out (RdV.leaf 1 wx 11 0) HSX.out rfl
     have Ls0:∀ x:Gr wr,x.1.cell? ⟨gS,0,none⟩=some (.slice none 0 0):=fun x=>(HBS7.out.below (HX.out.trans x.2)).cell 0
     have Ls1:∀ x:Gr wr,x.1.cell? ⟨gS,1,none⟩=some (.slice (some ⟨gE,0,none⟩) 1 1):=fun x=>(HBS7.out.below (HX.out.trans x.2)).cell 1
     have Ls2:∀ x:Gr wr,x.1.cell? ⟨gS,2,none⟩=some (.slice none 0 0):=fun x=>(HBS7.out.below (HX.out.trans x.2)).cell 2
     have Lt:∀ x:Gr wr,x.1.cell? ⟨gT,4,none⟩=some (.string ⟨#[105,54,52]⟩):=fun x=>(HBT7.out.below (HX.out.trans x.2)).cell 4
     have Lk:∀ x:Gr wr,x.1.cell? ⟨gK,4,none⟩=some (.int .i64 10):=fun x=>(HBK7.out.below (HX.out.trans x.2)).cell 4
     have Lw:∀ x:Gr wr,x.1.cell? ⟨gW,4,none⟩=some (.bool (true)):=fun x=>(HBW.out.below (HX.out.trans x.2)).cell 4
     obtain ⟨B,hB⟩:∃ b,(true)=b:=⟨_,rfl⟩
     rw [hB] at hc1 Lw
     clear hB
     go_upto_region 10 with (fail)
     have hbb:(B != B)=false:=by cases B <;> rfl
     refine wp_region_hyb [(0,true),(1,true),(2,true),(3,true),(4,true),(5,true),(6,true),(7,true),(8,true),(9,true),(10,true),(12,true),(13,true),(14,true),(15,true),(11,false),(16,true),(17,true),(18,true),(19,true),(20,true),(21,true),(22,true),(23,true),(24,false),(25,true)] (by kernel_rfl) (by kernel_rfl) ?_
     iterate 15 (refine hyb_calm rfl (fun K hK=>?_);go_simp;refine hK _ ?_;clear hK K)
     clear Ls0 Ls1 Ls2 Lt Lk Lw
     refine hyb_alone rfl (fun w8 hn8 K hK=>?_)
     go_simp
     refine (hc1.out w8 (HX.out.trans hn8)).mono ?_;rintro e w9 ⟨rfl,hn9⟩
     refine hK _ _ hn9 ?_
     clear hK K
     have HX9:=Lib.hid (HX.out.trans (hn8.trans hn9))
     have Ls0:∀ x:Gr w9,x.1.cell? ⟨gS,0,none⟩=some (.slice none 0 0):=fun x=>(HBS7.out.below (HX9.out.trans x.2)).cell 0
     have Ls1:∀ x:Gr w9,x.1.cell? ⟨gS,1,none⟩=some (.slice (some ⟨gE,0,none⟩) 1 1):=fun x=>(HBS7.out.below (HX9.out.trans x.2)).cell 1
     have Ls2:∀ x:Gr w9,x.1.cell? ⟨gS,2,none⟩=some (.slice none 0 0):=fun x=>(HBS7.out.below (HX9.out.trans x.2)).cell 2
     have Lt:∀ x:Gr w9,x.1.cell? ⟨gT,4,none⟩=some (.string ⟨#[105,54,52]⟩):=fun x=>(HBT7.out.below (HX9.out.trans x.2)).cell 4
     iterate 8 (refine hyb_calm rfl (fun K hK=>?_);go_simp;refine hK _ ?_;clear hK K)
     clear Ls0 Ls1 Ls2 Lt
     refine hyb_alone rfl (fun wa hna K hK=>?_)
     go_simp
     refine (hc2.out wa (HX9.out.trans hna)).mono ?_;rintro e wb ⟨rfl,hnb⟩
     refine hK _ _ hnb ?_
     clear hK K
     refine hyb_calm rfl (fun K hK=>?_);go_simp;refine hK _ ?_;clear hK K
     refine hyb_nil (fun wd hnd=>?_)
     have HXD:=Lib.hid (HX9.out.trans (hna.trans (hnb.trans hnd)))
     clear hn8 hn9 hna hnb hnd hbb hc1 hc2
     go_wp2_with fail
     go_roundw
     case rel=>exact ⟨5,by go_num,by decide,HXD.out⟩
     case measure=>simp [intOf]
    ·rw [show ((5:Nat):Int)=5 from rfl]
     have hc1:Hid (∀ wx,Nx wc wx→Calls Tryd.prog 7 #[.agg #[.slice none 0 0,.slice (some ⟨gE,0,none⟩) 1 1,.slice none 0 0],.string ⟨#[100,111,117,98,108,101]⟩,.agg #[.int .i64 4,.int .i64 n,.string ⟨#[]⟩,.slice none 0 0,.slice none 0 0]] wx fun e w'=>e = .returned (.bool (true))∧Nx wx w'):=fun wx hx=>by
      have h:=HC.out.chkB wx _ (leafS 4 n) (leafV 4 n) [100,111,117,98,108,101] 4 (HC.out.nx HT7.out hx) HS0.out (RdV.leaf 1 wx 4 n) (HSNH.out 4 (by decide)) rfl
      rw [show chkB 4 (leafV 4 n)=true from by simp [chkB,leafV,rngB]] at h
      exact h
     have hc2:Hid (∀ wx,Nx wc wx→Calls Tryd.prog 7 #[.agg #[.slice none 0 0,.slice (some ⟨gE,0,none⟩) 1 1,.slice none 0 0],.string ⟨#[100,111,117,98,108,101]⟩,.agg #[.int .i64 11,.int .i64 0,.string ⟨#[]⟩,.slice none 0 0,.slice none 0 0]] wx fun e w'=>e = .returned (.bool false)∧Nx wx w'):=fun wx hx =>
      HC.out.chkB wx _ (leafS 11 0) (leafV 11 0) [100,111,117,98,108,101] 4 (HC.out.nx HT7.out hx) HS0.out (RdV.leaf 1 wx 11 0) HSX.out rfl
     have Ls0:∀ x:Gr wr,x.1.cell? ⟨gS,0,none⟩=some (.slice none 0 0):=fun x=>(HBS7.out.below (HX.out.trans x.2)).cell 0
     have Ls1:∀ x:Gr wr,x.1.cell? ⟨gS,1,none⟩=some (.slice (some ⟨gE,0,none⟩) 1 1):=fun x=>(HBS7.out.below (HX.out.trans x.2)).cell 1
     have Ls2:∀ x:Gr wr,x.1.cell? ⟨gS,2,none⟩=some (.slice none 0 0):=fun x=>(HBS7.out.below (HX.out.trans x.2)).cell 2
     have Lt:∀ x:Gr wr,x.1.cell? ⟨gT,5,none⟩=some (.string ⟨#[100,111,117,98,108,101]⟩):=fun x=>(HBT7.out.below (HX.out.trans x.2)).cell 5
     have Lk:∀ x:Gr wr,x.1.cell? ⟨gK,5,none⟩=some (.int .i64 4):=fun x=>(HBK7.out.below (HX.out.trans x.2)).cell 5
     have Lw:∀ x:Gr wr,x.1.cell? ⟨gW,5,none⟩=some (.bool (true)):=fun x=>(HBW.out.below (HX.out.trans x.2)).cell 5
     obtain ⟨B,hB⟩:∃ b,(true)=b:=⟨_,rfl⟩
     rw [hB] at hc1 Lw
     clear hB
     go_upto_region 10 with (fail)
     have hbb:(B != B)=false:=by cases B <;> rfl
     refine wp_region_hyb [(0,true),(1,true),(2,true),(3,true),(4,true),(5,true),(6,true),(7,true),(8,true),(9,true),(10,true),(12,true),(13,true),(14,true),(15,true),(11,false),(16,true),(17,true),(18,true),(19,true),(20,true),(21,true),(22,true),(23,true),(24,false),(25,true)] (by kernel_rfl) (by kernel_rfl) ?_
     iterate 15 (refine hyb_calm rfl (fun K hK=>?_);go_simp;refine hK _ ?_;clear hK K)
     clear Ls0 Ls1 Ls2 Lt Lk Lw
     refine hyb_alone rfl (fun w8 hn8 K hK=>?_)
     go_simp
     refine (hc1.out w8 (HX.out.trans hn8)).mono ?_;rintro e w9 ⟨rfl,hn9⟩
     refine hK _ _ hn9 ?_
     clear hK K
     have HX9:=Lib.hid (HX.out.trans (hn8.trans hn9))
     have Ls0:∀ x:Gr w9,x.1.cell? ⟨gS,0,none⟩=some (.slice none 0 0):=fun x=>(HBS7.out.below (HX9.out.trans x.2)).cell 0
     have Ls1:∀ x:Gr w9,x.1.cell? ⟨gS,1,none⟩=some (.slice (some ⟨gE,0,none⟩) 1 1):=fun x=>(HBS7.out.below (HX9.out.trans x.2)).cell 1
     have Ls2:∀ x:Gr w9,x.1.cell? ⟨gS,2,none⟩=some (.slice none 0 0):=fun x=>(HBS7.out.below (HX9.out.trans x.2)).cell 2
     have Lt:∀ x:Gr w9,x.1.cell? ⟨gT,5,none⟩=some (.string ⟨#[100,111,117,98,108,101]⟩):=fun x=>(HBT7.out.below (HX9.out.trans x.2)).cell 5
     iterate 8 (refine hyb_calm rfl (fun K hK=>?_);go_simp;refine hK _ ?_;clear hK K)
     clear Ls0 Ls1 Ls2 Lt
     refine hyb_alone rfl (fun wa hna K hK=>?_)
     go_simp
     refine (hc2.out wa (HX9.out.trans hna)).mono ?_;rintro e wb ⟨rfl,hnb⟩
     refine hK _ _ hnb ?_
     clear hK K
     refine hyb_calm rfl (fun K hK=>?_);go_simp;refine hK _ ?_;clear hK K
     refine hyb_nil (fun wd hnd=>?_)
     have HXD:=Lib.hid (HX9.out.trans (hna.trans (hnb.trans hnd)))
     clear hn8 hn9 hna hnb hnd hbb hc1 hc2
     go_wp2_with fail
     go_roundw
     case rel=>exact ⟨6,by go_num,by decide,HXD.out⟩
     case measure=>simp [intOf]
    ·rw [show ((6:Nat):Int)=6 from rfl]
     have hc1:Hid (∀ wx,Nx wc wx→Calls Tryd.prog 7 #[.agg #[.slice none 0 0,.slice (some ⟨gE,0,none⟩) 1 1,.slice none 0 0],.string ⟨#[97,46,69]⟩,.agg #[.int .i64 17,.int .i64 n,.string ⟨#[]⟩,.slice none 0 0,.slice none 0 0]] wx fun e w'=>e = .returned (.bool (decide (n ∈ [3,9])))∧Nx wx w'):=fun wx hx=>by
      have h:=HC.out.chkE wx _ (leafS 17 n) (leafV 17 n) [⟨[65],true,3⟩,⟨[66],true,9⟩] (HC.out.nx HT7.out hx) (HSE7.out.nx hx) (RdV.leaf 1 wx 17 n) (HSNH.out 17 (by decide)) ms_ok
      rw [show chkE ([(⟨[65],true,3⟩:MemS),⟨[66],true,9⟩].map (·.n)) (leafV 17 n)=decide (n ∈ [3,9]) from by simp [chkE,leafV]] at h
      exact h
     have hc2:Hid (∀ wx,Nx wc wx→Calls Tryd.prog 7 #[.agg #[.slice none 0 0,.slice (some ⟨gE,0,none⟩) 1 1,.slice none 0 0],.string ⟨#[97,46,69]⟩,.agg #[.int .i64 11,.int .i64 0,.string ⟨#[]⟩,.slice none 0 0,.slice none 0 0]] wx fun e w'=>e = .returned (.bool false)∧Nx wx w'):=fun wx hx =>
      HC.out.chkE wx _ (leafS 11 0) (leafV 11 0) [⟨[65],true,3⟩,⟨[66],true,9⟩] (HC.out.nx HT7.out hx) (HSE7.out.nx hx) (RdV.leaf 1 wx 11 0) HSX.out ms_ok
     have Ls0:∀ x:Gr wr,x.1.cell? ⟨gS,0,none⟩=some (.slice none 0 0):=fun x=>(HBS7.out.below (HX.out.trans x.2)).cell 0
     have Ls1:∀ x:Gr wr,x.1.cell? ⟨gS,1,none⟩=some (.slice (some ⟨gE,0,none⟩) 1 1):=fun x=>(HBS7.out.below (HX.out.trans x.2)).cell 1
     have Ls2:∀ x:Gr wr,x.1.cell? ⟨gS,2,none⟩=some (.slice none 0 0):=fun x=>(HBS7.out.below (HX.out.trans x.2)).cell 2
     have Lt:∀ x:Gr wr,x.1.cell? ⟨gT,6,none⟩=some (.string ⟨#[97,46,69]⟩):=fun x=>(HBT7.out.below (HX.out.trans x.2)).cell 6
     have Lk:∀ x:Gr wr,x.1.cell? ⟨gK,6,none⟩=some (.int .i64 17):=fun x=>(HBK7.out.below (HX.out.trans x.2)).cell 6
     have Lw:∀ x:Gr wr,x.1.cell? ⟨gW,6,none⟩=some (.bool (decide (n ∈ [3,9]))):=fun x=>(HBW.out.below (HX.out.trans x.2)).cell 6
     obtain ⟨B,hB⟩:∃ b,(decide (n ∈ [3,9]))=b:=⟨_,rfl⟩
     rw [hB] at hc1 Lw
     clear hB
     go_upto_region 10 with (fail)
     have hbb:(B != B)=false:=by cases B <;> rfl
     refine wp_region_hyb [(0,true),(1,true),(2,true),(3,true),(4,true),(5,true),(6,true),(7,true),(8,true),(9,true),(10,true),(12,true),(13,true),(14,true),(15,true),(11,false),(16,true),(17,true),(18,true),(19,true),(20,true),(21,true),(22,true),(23,true),(24,false),(25,true)] (by kernel_rfl) (by kernel_rfl) ?_
     iterate 15 (refine hyb_calm rfl (fun K hK=>?_);go_simp;refine hK _ ?_;clear hK K)
     clear Ls0 Ls1 Ls2 Lt Lk Lw
     refine hyb_alone rfl (fun w8 hn8 K hK=>?_)
     go_simp
     refine (hc1.out w8 (HX.out.trans hn8)).mono ?_;rintro e w9 ⟨rfl,hn9⟩
     refine hK _ _ hn9 ?_
     clear hK K
     have HX9:=Lib.hid (HX.out.trans (hn8.trans hn9))
     have Ls0:∀ x:Gr w9,x.1.cell? ⟨gS,0,none⟩=some (.slice none 0 0):=fun x=>(HBS7.out.below (HX9.out.trans x.2)).cell 0
     have Ls1:∀ x:Gr w9,x.1.cell? ⟨gS,1,none⟩=some (.slice (some ⟨gE,0,none⟩) 1 1):=fun x=>(HBS7.out.below (HX9.out.trans x.2)).cell 1
     have Ls2:∀ x:Gr w9,x.1.cell? ⟨gS,2,none⟩=some (.slice none 0 0):=fun x=>(HBS7.out.below (HX9.out.trans x.2)).cell 2
     have Lt:∀ x:Gr w9,x.1.cell? ⟨gT,6,none⟩=some (.string ⟨#[97,46,69]⟩):=fun x=>(HBT7.out.below (HX9.out.trans x.2)).cell 6
     iterate 8 (refine hyb_calm rfl (fun K hK=>?_);go_simp;refine hK _ ?_;clear hK K)
     clear Ls0 Ls1 Ls2 Lt
     refine hyb_alone rfl (fun wa hna K hK=>?_)
     go_simp
     refine (hc2.out wa (HX9.out.trans hna)).mono ?_;rintro e wb ⟨rfl,hnb⟩
     refine hK _ _ hnb ?_
     clear hK K
     refine hyb_calm rfl (fun K hK=>?_);go_simp;refine hK _ ?_;clear hK K
     refine hyb_nil (fun wd hnd=>?_)
     have HXD:=Lib.hid (HX9.out.trans (hna.trans (hnb.trans hnd)))
     clear hn8 hn9 hna hnb hnd hbb hc1 hc2
     go_wp2_with fail
     go_roundw
     case rel=>exact ⟨7,by go_num,by decide,HXD.out⟩
     case measure=>simp [intOf]
   ·obtain rfl:i=7:=by omega
    rw [show ((7:Nat):Int)=7 from rfl]
    go_wp2_with fail
    go_ret
    exact ⟨rfl,HN7.out.trans HX.out⟩
end Go.Proofs.YtnfelopknfdpfaaDoor
