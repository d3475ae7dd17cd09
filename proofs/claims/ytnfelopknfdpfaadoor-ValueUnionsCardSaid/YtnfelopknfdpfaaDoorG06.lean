/- The walk of ValueUnions, given what value's functions are asked for. -/
import Derived.Test.YtnfelopknfdpfaaDoorG03
import Derived.Test.YtnfelopknfdpfaaDoorG05
import Derived.Deep.CutBlock
set_option linter.unusedVariables false
set_option linter.unusedSimpArgs false
set_option linter.unnecessarySimpa false
namespace Go.Proofs.YtnfelopknfdpfaaDoor
open Go.RowKit
theorem infoFf:(Tryd.prog.info? 50).map (fun i=>(i.zero,i.size,i.bytes))=some (some (.agg #[.int .i64 0,.int .i64 0,.string ⟨#[]⟩,.string ⟨#[]⟩,.bool false,.int .i64 0,.int .i64 0,.string ⟨#[]⟩,.slice none 0 0,.slice none 0 0]),10,136):=by kernel_rfl
theorem infoIi:(Tryd.prog.info? 3).map (fun i=>(i.zero,i.size,i.bytes))=some (some (.int .i64 0),1,8):=by kernel_rfl
theorem infoVv:(Tryd.prog.info? 41).map (fun i=>(i.zero,i.size,i.bytes))=some (some (.agg #[.int .i64 0,.int .i64 0,.string ⟨#[]⟩,.slice none 0 0,.slice none 0 0]),5,80):=by kernel_rfl
theorem fdU_one (q:Bool) (j:Nat):∀ u ∈ (fldA (fdU q j)).toList,u.oneCell'=true:=fun u hu=>by
 simp [fldA,fdU] at hu
 rcases hu with rfl | rfl | rfl | rfl | rfl | rfl | rfl | rfl | rfl | rfl <;> rfl
theorem fsU_ok (q:Bool) (i:Nat) (hi:i≤10):∀ f ∈ fsU q i,i64B f.id:=fun f hf=>by
 obtain ⟨j,hj,rfl⟩:=List.mem_map.1 hf
 have:=List.mem_range.1 hj
 exact ⟨by show -9223372036854775808≤(j:Int)+1;omega,by show (j:Int)+1≤9223372036854775807;omega⟩
theorem idL_ok (l:List UInt8) (n:Nat):∀ z ∈ idL l n,i64B z:=fun z hz=>by
 obtain ⟨x,-,rfl⟩:=List.mem_map.1 hz
 unfold idU i64B;omega
set_option maxRecDepth 100000 in
set_option maxHeartbeats 12800000 in
theorem ValueUnions_of {T:World→Prop} {validB:List UInt8→Bool} (hC:ValC T validB) (hv1:validB [97]=true) (hv2:validB [255]=false) (w:World) (hT:T w) (A:Option Addr) (c:Nat) (l:List UInt8) (hr:Rd bv w A l) (k:Nat) (hk:k<256) :
  Calls Tryd.prog 5 #[.slice A l.length c,.int .u8 (k:Int)] w fun e w'=>e = .returned (.bool true)∧Below w.heap.size w w':=by
 have HBG:=Lib.hid (vlbegun_of hC hv1 hv2 w hT)
 have HC:=Lib.hid hC
 have HT:=Lib.hid hT
 have HR:=Lib.hid hr
 obtain ⟨n,hN⟩:∃ n,l.length=n:=⟨_,rfl⟩
 rw [hN]
 have HN:=Lib.hid hN
 obtain ⟨r,hrk⟩:∃ r,k % 4=r:=⟨_,rfl⟩
 have ht4:(k:Int).tmod 4=(r:Int):=by rw [Int.tmod_eq_emod_of_nonneg (by omega)];omega
 have hr4:r<4:=by omega
 obtain ⟨q,hq⟩:∃ q:Bool,(r % 2 == 0)=q:=⟨_,rfl⟩
 have HQ:=Lib.hid hq
 have ht2:(k:Int).tmod 2=if q=true then 0 else 1:=by
  have:(r % 2 == 0)=decide (k % 2=0):=by rw [Bool.eq_iff_iff];simp;omega
  rw [← hq,this]
  by_cases h:k % 2=0
  ·rw [decide_eq_true h,if_pos rfl,Int.tmod_eq_emod_of_nonneg (by omega)];omega
  ·rw [decide_eq_false h,if_neg (by decide),Int.tmod_eq_emod_of_nonneg (by omega)];omega
 have HT2:=Lib.hid ht2
 obtain ⟨KK,hKK⟩:∃ K,kindU r=K:=⟨_,rfl⟩
 have HKK:=Lib.hid hKK
 clear hC hv1 hv2 hT hr hN hq ht2
 go_enter Tryd.func5,Tryd.ntmps5
 go_wp2_with fail
 refine HBG.out.mono ?_;rintro e w1 ⟨rfl,hn1⟩
 have HN1:=Lib.hid hn1
 clear hn1 HBG
 by_cases h5:n≤5
 ·have q1:decide (5<(n:Int))=false:=decide_eq_false (by omega)
  have q2:¬ 5<(n:Int):=by omega
  have HN5:=Lib.hid h5
  obtain ⟨gr,hgr⟩:∃ g,w1.heap.size=g:=⟨_,rfl⟩
  obtain ⟨w2,hw2⟩:∃ x,w1.alloc (.cells #[.int .i64 4,.int .i64 5,.int .i64 6,.int .i64 8] 3)=x:=⟨_,rfl⟩
  have hb2:Blk w2 gr gr #[.int .i64 4,.int .i64 5,.int .i64 6,.int .i64 8] 3:=by rw [← hw2,← hgr];exact Blk.new w1 _ _
  have hn2:Nx w1 w2:=by rw [← hw2];exact nx0 _ _
  have cr:w2.cell? ⟨gr,r,none⟩=some (.int .i64 KK):=by
   rw [hb2.cell,← hKK]
   have h4:r=0∨r=1∨r=2∨r=3:=by omega
   rcases h4 with rfl | rfl | rfl | rfl <;> rfl
  obtain ⟨gx,hgx⟩:∃ g,gr+1=g:=⟨_,rfl⟩
  have hs2:w2.heap.size=gx:=by rw [← hw2,← hgx,← hgr];exact Array.size_push _
  obtain ⟨w3,hw3⟩:∃ x,w2.alloc (.cells #[.int .i64 KK,.string ⟨#[]⟩,.slice none 0 0] 48)=x:=⟨_,rfl⟩
  have hb3:Blk w3 gx gx #[.int .i64 KK,.string ⟨#[]⟩,.slice none 0 0] 48:=by rw [← hw3,← hs2];exact Blk.new w2 _ _
  have hn3:Nx w2 w3:=by rw [← hw3];exact nx0 _ _
  have HB3:=Lib.hid hb3
  have HN3:=Lib.hid (hn2.trans hn3)
  have HGX:Hid (w1.heap.size≤gx):=by unfold Hid;omega
  have r1:(r:Int)<4:=by omega
  have r0:(0:Int)≤(r:Int):=by omega
  have HS2:=Lib.hid hs2
  clear hb2 hn2 hn3 hb3 hKK hs2
  have HW3:=Lib.hid hw3
  clear hw3
  go_upto_region 6 with (fail)
  rw [HS2.out,HW3.out]
  clear HS2 HW3 hw2 hgr hgx cr r0 r1
  go_wp2_with fail
  go_loopw [6] (fun x wr=>∃ (I i:Nat) (A6:Option Addr) (m6:Nat),x = .int .i64 (I:Int)∧Hid (I=i+1)∧I≤5∧Hid (Blk wr gx gx #[.int .i64 KK,.string ⟨#[]⟩,.slice A6 i m6] 48)∧Hid (OwnS fldA 10 50 wr (gx+1) (.slice A6 i m6) (fsU q i))∧Hid (Nx w1 wr)) (fun x _=>(6 - intOf x).toNat)
  case atStart=>exact ⟨1,0,none,0,rfl,rfl,by decide,HB3.out,OwnS.nil_ _ _,HN3.out⟩
  case round =>
   obtain ⟨I,i,A6,m6,rfl,HI,hI5,HB,HO,HX⟩:=hrel
   by_cases hlt:I≤4
   ·have p1:decide ((I:Int)≤4)=true:=decide_eq_true (by omega)
    have p2:(I:Int)≤4:=by omega
    have HLT:=Lib.hid hlt
    have HI5:=Lib.hid hI5
    clear hlt hI5
    obtain ⟨g4,hg4⟩:∃ g,wr.heap.size=g:=⟨_,rfl⟩
    obtain ⟨w4,hw4⟩:∃ x,wr.alloc (.cells #[.int .i64 (I:Int),.int .i64 0,.string ⟨#[105,56]⟩,.string ⟨#[]⟩,.bool false,.int .i64 0,.int .i64 0,.string ⟨#[]⟩,.slice none 0 0,.slice none 0 0] 50)=x:=⟨_,rfl⟩
    have hb4:Blk w4 g4 g4 #[.int .i64 (I:Int),.int .i64 0,.string ⟨#[105,56]⟩,.string ⟨#[]⟩,.bool false,.int .i64 0,.int .i64 0,.string ⟨#[]⟩,.slice none 0 0,.slice none 0 0] 50:=by rw [← hw4,← hg4];exact Blk.new wr _ _
    have hn4:Nx wr w4:=by rw [← hw4];exact nx0 _ _
    have HB4:=Lib.hid hb4
    have HN4:=Lib.hid hn4
    have HG4:=Lib.hid hg4
    have HW4:=Lib.hid hw4
    clear hb4 hn4 hg4 hw4
    go_upto_region 10 with (fail)
    rw [HG4.out,HW4.out]
    clear HW4
    cases q with
    | false =>
     have ht:(k:Int).tmod 2=1:=HT2.out
     have hf:fdU false i=⟨(I:Int),0,[105,56],[],false,⟨0,0,[],.slice none 0 0,.slice none 0 0⟩⟩:=by unfold fdU;rw [if_neg (by simp),HI.out];rfl
     have HBC:Hid (Blk w4 g4 g4 (fldA (fdU false i)) 50):=by unfold Hid;rw [hf];exact HB4.out
     have HNC:=HN4
     clear hf
     go_upto_region 12 with (fail)
     obtain ⟨F,hF⟩:∃ F,fdU false i=F:=⟨_,rfl⟩
     have y0:w4.cell? ⟨g4,0,none⟩=some (.int .i64 (fdU false i).id):=HBC.out.cell 0
     have y1:w4.cell? ⟨g4,1,none⟩=some (.int .i64 (fdU false i).req):=HBC.out.cell 1
     have y2:w4.cell? ⟨g4,2,none⟩=some (.string ⟨#[105,56]⟩):=HBC.out.cell 2
     have y3:w4.cell? ⟨g4,3,none⟩=some (.string ⟨#[]⟩):=HBC.out.cell 3
     have y4:w4.cell? ⟨g4,4,none⟩=some (.bool false):=HBC.out.cell 4
     have y5:w4.cell? ⟨g4,5,none⟩=some (.int .i64 0):=HBC.out.cell 5
     have y6:w4.cell? ⟨g4,6,none⟩=some (.int .i64 0):=HBC.out.cell 6
     have y7:w4.cell? ⟨g4,7,none⟩=some (.string ⟨#[]⟩):=HBC.out.cell 7
     have y8:w4.cell? ⟨g4,8,none⟩=some (.slice none 0 0):=HBC.out.cell 8
     have y9:w4.cell? ⟨g4,9,none⟩=some (.slice none 0 0):=HBC.out.cell 9
     have hbx:Blk w4 gx gx #[.int .i64 KK,.string ⟨#[]⟩,.slice A6 i m6] 48:=HB.out.below HNC.out
     have x2:w4.cell? ⟨gx,2,none⟩=some (.slice A6 i m6):=hbx.cell 2
     obtain ⟨g7,hg7⟩:∃ g,w4.heap.size=g:=⟨_,rfl⟩
     obtain ⟨w7,hw7⟩:∃ x,w4.alloc (.cells #[.int .i64 (fdU false i).id,.int .i64 (fdU false i).req,.string ⟨#[105,56]⟩,.string ⟨#[]⟩,.bool false,.int .i64 0,.int .i64 0,.string ⟨#[]⟩,.slice none 0 0,.slice none 0 0] 50)=x:=⟨_,rfl⟩
     have hn7:Nx w4 w7:=by rw [← hw7];exact nx0 _ _
     have HB7:Hid (Blk w7 g7 g7 (fldA (fdU false i)) 50):=by unfold Hid;rw [← hw7,← hg7];exact Blk.new w4 _ _
     have HX7:=Lib.hid (HX.out.trans (HNC.out.trans hn7))
     have HO7:=Lib.hid (HO.out.nx (HNC.out.trans hn7))
     have HBX7:=Lib.hid (hbx.below hn7)
     have HFS:Hid (fsU false I=fsU false i++[fdU false i]):=by have h:=fsU_succ false i;rw [← HI.out] at h;exact h
     have HY7:Hid (∀ j (h:j<[fdU false i].length) p,p<10→w7.cell? ⟨g7,0+j * 10+p,none⟩=(fldA [fdU false i][j])[p]?):=fun j h p hp=>by
      obtain rfl:j=0:=(by simpa using h)
      rw [Nat.zero_mul,Nat.zero_add];exact HB7.out.cell p
     have hq7:gx+1≤w7.heap.size:=HBX7.out.lt
     have HL7:Hid (((fsU false i).length:Int)+([fdU false i].length:Int)≤100000):=by unfold Hid;rw [fsU_len];have:=HI.out;have:=HLT.out;simp only [List.length_cons,List.length_nil];omega
     have HON:Hid (∀ y ∈ [fdU false i],∀ u ∈ (fldA y).toList,u.oneCell'=true):=fun y hy=>by rw [List.mem_singleton.1 hy];exact fdU_one false i
     have HG7:=Lib.hid hg7
     clear hbx hn7 hF
     go_upto_region 8 with (at_builtin;go_must (refine wpList_appO (f:=fldA) (k:=10) (z:=.agg #[.int .i64 0,.int .i64 0,.string ⟨#[]⟩,.string ⟨#[]⟩,.bool false,.int .i64 0,.int .i64 0,.string ⟨#[]⟩,.slice none 0 0,.slice none 0 0]) _ infoFf Tryd.underlying46 rfl (by decide) (by decide) (fun _=>rfl) rfl _ _ rfl (gx+1) (.slice A6 i m6) (fsU false i) [fdU false i] HON.out rfl HO7.out g7 0 1 1 rfl rfl HY7.out HL7.out hq7 ?_;intro v8 w8 hown8 hbel8 hkeep8;clear hkeep8;rw [← HFS.out] at hown8;obtain ⟨A8,c8,rfl,-,-,-⟩:=hown8.sl fldA_size;rw [fsU_len] at hown8 ⊢;have hbx8:=(show Blk w8 gx gx _ _ from ⟨HBX7.out.1,by rw [hbel8.block gx (Nat.lt_succ_self _)];exact HBX7.out.2⟩);have xf:=hbx8.free 2;have xc:w8.cell? ⟨gx,2,none⟩=some (.slice A6 i m6):=hbx8.cell 2))
     have hb9:=hbx8.put 2 (.slice A8 I c8)
     have ho9:=hown8.oth (Oth.set w8 gx 2 (.slice A8 I c8)) (Nat.lt_succ_self _)
     have hx9:Nx w1 w8:=Below.trans (B:=w1.heap.size) HX7.out (hbel8.mono (by have:=HGX.out;omega))
     have HX9:=Lib.hid (hx9.put' HGX.out 2 (.slice A8 I c8))
     have HB9:=Lib.hid hb9
     have HO9:=Lib.hid ho9
     clear hb9 ho9 hx9 hown8 hbel8 hbx8 xf xc hq7 hw7 hg7 y0 y1 y2 y3 y4 y5 y6 y7 y8 y9 x2
     go_wp2_with fail
     go_roundw
     case rel=>exact ⟨I+1,I,A8,c8,by go_num,rfl,by have:=HLT.out;omega,HB9.out,HO9.out,HX9.out⟩
     case measure=>have:=HLT.out;simp [intOf];omega
    | true =>
     have ht:(k:Int).tmod 2=0:=HT2.out
     by_cases hI2:I=2
     ·subst hI2
      obtain rfl:i=1:=by have:=HI.out;omega
      rw [show ((2:Nat):Int)=2 from rfl] at *
      have f1:=HB4.out.free 1
      have y1:w4.cell? ⟨g4,1,none⟩=some (.int .i64 0):=HB4.out.cell 1
      go_upto_region 12 with (fail)
      have HBC:Hid (Blk (w4.setCell ⟨g4,1,none⟩ (.int .i64 1)) g4 g4 (fldA (fdU true 1)) 50):=HB4.out.put 1 (.int .i64 1)
      have HNC:Hid (Nx wr (w4.setCell ⟨g4,1,none⟩ (.int .i64 1))):=HN4.out.put' (Nat.le_of_eq HG4.out) 1 (.int .i64 1)
      clear f1 y1
      generalize w4.setCell ⟨g4,1,none⟩ (.int .i64 1)=wc at *
      obtain ⟨F,hF⟩:∃ F,fdU true 1=F:=⟨_,rfl⟩
      have y0:wc.cell? ⟨g4,0,none⟩=some (.int .i64 (fdU true 1).id):=HBC.out.cell 0
      have y1:wc.cell? ⟨g4,1,none⟩=some (.int .i64 (fdU true 1).req):=HBC.out.cell 1
      have y2:wc.cell? ⟨g4,2,none⟩=some (.string ⟨#[105,56]⟩):=HBC.out.cell 2
      have y3:wc.cell? ⟨g4,3,none⟩=some (.string ⟨#[]⟩):=HBC.out.cell 3
      have y4:wc.cell? ⟨g4,4,none⟩=some (.bool false):=HBC.out.cell 4
      have y5:wc.cell? ⟨g4,5,none⟩=some (.int .i64 0):=HBC.out.cell 5
      have y6:wc.cell? ⟨g4,6,none⟩=some (.int .i64 0):=HBC.out.cell 6
      have y7:wc.cell? ⟨g4,7,none⟩=some (.string ⟨#[]⟩):=HBC.out.cell 7
      have y8:wc.cell? ⟨g4,8,none⟩=some (.slice none 0 0):=HBC.out.cell 8
      have y9:wc.cell? ⟨g4,9,none⟩=some (.slice none 0 0):=HBC.out.cell 9
      have hbx:Blk wc gx gx #[.int .i64 KK,.string ⟨#[]⟩,.slice A6 1 m6] 48:=HB.out.below HNC.out
      have x2:wc.cell? ⟨gx,2,none⟩=some (.slice A6 1 m6):=hbx.cell 2
      obtain ⟨g7,hg7⟩:∃ g,wc.heap.size=g:=⟨_,rfl⟩
      obtain ⟨w7,hw7⟩:∃ x,wc.alloc (.cells #[.int .i64 (fdU true 1).id,.int .i64 (fdU true 1).req,.string ⟨#[105,56]⟩,.string ⟨#[]⟩,.bool false,.int .i64 0,.int .i64 0,.string ⟨#[]⟩,.slice none 0 0,.slice none 0 0] 50)=x:=⟨_,rfl⟩
      have hn7:Nx wc w7:=by rw [← hw7];exact nx0 _ _
      have HB7:Hid (Blk w7 g7 g7 (fldA (fdU true 1)) 50):=by unfold Hid;rw [← hw7,← hg7];exact Blk.new wc _ _
      have HX7:=Lib.hid (HX.out.trans (HNC.out.trans hn7))
      have HO7:=Lib.hid (HO.out.nx (HNC.out.trans hn7))
      have HBX7:=Lib.hid (hbx.below hn7)
      have HFS:Hid (fsU true 2=fsU true 1++[fdU true 1]):=fsU_succ _ _
      have HY7:Hid (∀ j (h:j<[fdU true 1].length) p,p<10→w7.cell? ⟨g7,0+j * 10+p,none⟩=(fldA [fdU true 1][j])[p]?):=fun j h p hp=>by
       obtain rfl:j=0:=(by simpa using h)
       rw [Nat.zero_mul,Nat.zero_add];exact HB7.out.cell p
      have hq7:gx+1≤w7.heap.size:=HBX7.out.lt
      have HL7:Hid (((fsU true 1).length:Int)+([fdU true 1].length:Int)≤100000):=by unfold Hid;rw [fsU_len];have:=HI.out;have:=HLT.out;simp only [List.length_cons,List.length_nil];omega
      have HON:Hid (∀ y ∈ [fdU true 1],∀ u ∈ (fldA y).toList,u.oneCell'=true):=fun y hy=>by rw [List.mem_singleton.1 hy];exact fdU_one true 1
      have HG7:=Lib.hid hg7
      clear hbx hn7 hF
      go_upto_region 8 with (at_builtin;go_must (refine wpList_appO (f:=fldA) (k:=10) (z:=.agg #[.int .i64 0,.int .i64 0,.string ⟨#[]⟩,.string ⟨#[]⟩,.bool false,.int .i64 0,.int .i64 0,.string ⟨#[]⟩,.slice none 0 0,.slice none 0 0]) _ infoFf Tryd.underlying46 rfl (by decide) (by decide) (fun _=>rfl) rfl _ _ rfl (gx+1) (.slice A6 1 m6) (fsU true 1) [fdU true 1] HON.out rfl HO7.out g7 0 1 1 rfl rfl HY7.out HL7.out hq7 ?_;intro v8 w8 hown8 hbel8 hkeep8;clear hkeep8;rw [← HFS.out] at hown8;obtain ⟨A8,c8,rfl,-,-,-⟩:=hown8.sl fldA_size;rw [fsU_len] at hown8 ⊢;have hbx8:=(show Blk w8 gx gx _ _ from ⟨HBX7.out.1,by rw [hbel8.block gx (Nat.lt_succ_self _)];exact HBX7.out.2⟩);have xf:=hbx8.free 2;have xc:w8.cell? ⟨gx,2,none⟩=some (.slice A6 1 m6):=hbx8.cell 2))
      have hb9:=hbx8.put 2 (.slice A8 2 c8)
      have ho9:=hown8.oth (Oth.set w8 gx 2 (.slice A8 2 c8)) (Nat.lt_succ_self _)
      have hx9:Nx w1 w8:=Below.trans (B:=w1.heap.size) HX7.out (hbel8.mono (by have:=HGX.out;omega))
      have HX9:=Lib.hid (hx9.put' HGX.out 2 (.slice A8 2 c8))
      have HB9:=Lib.hid hb9
      have HO9:=Lib.hid ho9
      clear hb9 ho9 hx9 hown8 hbel8 hbx8 xf xc hq7 hw7 hg7 y0 y1 y2 y3 y4 y5 y6 y7 y8 y9 x2
      go_wp2_with fail
      go_roundw
      case rel=>exact ⟨2+1,2,A8,c8,by go_num,rfl,by decide,HB9.out,HO9.out,HX9.out⟩
      case measure=>simp [intOf]
     ·have b1:((I:Int) == 2)=false:=by rw [beq_eq_false_iff_ne];omega
      have b2:¬ ((I:Int)=2):=by omega
      have hf:fdU true i=⟨(I:Int),0,[105,56],[],false,⟨0,0,[],.slice none 0 0,.slice none 0 0⟩⟩:=by unfold fdU;rw [if_neg (by have:=HI.out;simp;omega),HI.out];rfl
      have HBC:Hid (Blk w4 g4 g4 (fldA (fdU true i)) 50):=by unfold Hid;rw [hf];exact HB4.out
      have HNC:=HN4
      clear hf
      go_upto_region 12 with (fail)
      obtain ⟨F,hF⟩:∃ F,fdU true i=F:=⟨_,rfl⟩
      have y0:w4.cell? ⟨g4,0,none⟩=some (.int .i64 (fdU true i).id):=HBC.out.cell 0
      have y1:w4.cell? ⟨g4,1,none⟩=some (.int .i64 (fdU true i).req):=HBC.out.cell 1
      have y2:w4.cell? ⟨g4,2,none⟩=some (.string ⟨#[105,56]⟩):=HBC.out.cell 2
      have y3:w4.cell? ⟨g4,3,none⟩=some (.string ⟨#[]⟩):=HBC.out.cell 3
      have y4:w4.cell? ⟨g4,4,none⟩=some (.bool false):=HBC.out.cell 4
      have y5:w4.cell? ⟨g4,5,none⟩=some (.int .i64 0):=HBC.out.cell 5
      have y6:w4.cell? ⟨g4,6,none⟩=some (.int .i64 0):=HBC.out.cell 6
      have y7:w4.cell? ⟨g4,7,none⟩=some (.string ⟨#[]⟩):=HBC.out.cell 7
      have y8:w4.cell? ⟨g4,8,none⟩=some (.slice none 0 0):=HBC.out.cell 8
      have y9:w4.cell? ⟨g4,9,none⟩=some (.slice none 0 0):=HBC.out.cell 9
      have hbx:Blk w4 gx gx #[.int .i64 KK,.string ⟨#[]⟩,.slice A6 i m6] 48:=HB.out.below HNC.out
      have x2:w4.cell? ⟨gx,2,none⟩=some (.slice A6 i m6):=hbx.cell 2
      obtain ⟨g7,hg7⟩:∃ g,w4.heap.size=g:=⟨_,rfl⟩
      obtain ⟨w7,hw7⟩:∃ x,w4.alloc (.cells #[.int .i64 (fdU true i).id,.int .i64 (fdU true i).req,.string ⟨#[105,56]⟩,.string ⟨#[]⟩,.bool false,.int .i64 0,.int .i64 0,.string ⟨#[]⟩,.slice none 0 0,.slice none 0 0] 50)=x:=⟨_,rfl⟩
      have hn7:Nx w4 w7:=by rw [← hw7];exact nx0 _ _
      have HB7:Hid (Blk w7 g7 g7 (fldA (fdU true i)) 50):=by unfold Hid;rw [← hw7,← hg7];exact Blk.new w4 _ _
      have HX7:=Lib.hid (HX.out.trans (HNC.out.trans hn7))
      have HO7:=Lib.hid (HO.out.nx (HNC.out.trans hn7))
      have HBX7:=Lib.hid (hbx.below hn7)
      have HFS:Hid (fsU true I=fsU true i++[fdU true i]):=by have h:=fsU_succ true i;rw [← HI.out] at h;exact h
      have HY7:Hid (∀ j (h:j<[fdU true i].length) p,p<10→w7.cell? ⟨g7,0+j * 10+p,none⟩=(fldA [fdU true i][j])[p]?):=fun j h p hp=>by
       obtain rfl:j=0:=(by simpa using h)
       rw [Nat.zero_mul,Nat.zero_add];exact HB7.out.cell p
      have hq7:gx+1≤w7.heap.size:=HBX7.out.lt
      have HL7:Hid (((fsU true i).length:Int)+([fdU true i].length:Int)≤100000):=by unfold Hid;rw [fsU_len];have:=HI.out;have:=HLT.out;simp only [List.length_cons,List.length_nil];omega
      have HON:Hid (∀ y ∈ [fdU true i],∀ u ∈ (fldA y).toList,u.oneCell'=true):=fun y hy=>by rw [List.mem_singleton.1 hy];exact fdU_one true i
      have HG7:=Lib.hid hg7
      clear hbx hn7 hF
      go_upto_region 8 with (at_builtin;go_must (refine wpList_appO (f:=fldA) (k:=10) (z:=.agg #[.int .i64 0,.int .i64 0,.string ⟨#[]⟩,.string ⟨#[]⟩,.bool false,.int .i64 0,.int .i64 0,.string ⟨#[]⟩,.slice none 0 0,.slice none 0 0]) _ infoFf Tryd.underlying46 rfl (by decide) (by decide) (fun _=>rfl) rfl _ _ rfl (gx+1) (.slice A6 i m6) (fsU true i) [fdU true i] HON.out rfl HO7.out g7 0 1 1 rfl rfl HY7.out HL7.out hq7 ?_;intro v8 w8 hown8 hbel8 hkeep8;clear hkeep8;rw [← HFS.out] at hown8;obtain ⟨A8,c8,rfl,-,-,-⟩:=hown8.sl fldA_size;rw [fsU_len] at hown8 ⊢;have hbx8:=(show Blk w8 gx gx _ _ from ⟨HBX7.out.1,by rw [hbel8.block gx (Nat.lt_succ_self _)];exact HBX7.out.2⟩);have xf:=hbx8.free 2;have xc:w8.cell? ⟨gx,2,none⟩=some (.slice A6 i m6):=hbx8.cell 2))
      have hb9:=hbx8.put 2 (.slice A8 I c8)
      have ho9:=hown8.oth (Oth.set w8 gx 2 (.slice A8 I c8)) (Nat.lt_succ_self _)
      have hx9:Nx w1 w8:=Below.trans (B:=w1.heap.size) HX7.out (hbel8.mono (by have:=HGX.out;omega))
      have HX9:=Lib.hid (hx9.put' HGX.out 2 (.slice A8 I c8))
      have HB9:=Lib.hid hb9
      have HO9:=Lib.hid ho9
      clear hb9 ho9 hx9 hown8 hbel8 hbx8 xf xc hq7 hw7 hg7 y0 y1 y2 y3 y4 y5 y6 y7 y8 y9 x2
      go_wp2_with fail
      go_roundw
      case rel=>exact ⟨I+1,I,A8,c8,by go_num,rfl,by have:=HLT.out;omega,HB9.out,HO9.out,HX9.out⟩
      case measure=>have:=HLT.out;simp [intOf];omega
   ·have p1:decide ((I:Int)≤4)=false:=decide_eq_false (by omega)
    have p2:¬ (I:Int)≤4:=by omega
    obtain rfl:I=5:=by omega
    obtain rfl:i=4:=by have:=HI.out;omega
    clear HI hlt hI5
    rw [show ((5:Nat):Int)=5 from rfl]
    obtain ⟨g,hg⟩:∃ g,wr.heap.size=g:=⟨_,rfl⟩
    obtain ⟨w4,hw4⟩:∃ x,wr.alloc (.cells #[.int .i64 12,.int .i64 0,.string ⟨#[]⟩,.slice none 0 0,.slice none 0 0] 41)=x:=⟨_,rfl⟩
    have hb4:Blk w4 g g (csU (.slice none 0 0) (.slice none 0 0)) 41:=by rw [← hw4,← hg];exact Blk.new wr _ _
    have hn4:Nx wr w4:=by rw [← hw4];exact nx0 _ _
    have HVW:Hid (VW wr g (.slice none 0 0) (.slice none 0 0) [] [] w4):=⟨hn4,Nat.le_of_eq hg,hb4,OwnS.nil_ _ _,OwnS.nil_ _ _⟩
    have HG:=Lib.hid hg
    have HW4:=Lib.hid hw4
    have HK8:=Lib.hid hk
    have hr4':=Lib.hid hr4
    clear hb4 hn4 hg hw4 p1 p2
    go_upto_region 14 with (fail)
    rw [HG.out,HW4.out]
    clear HW4
    go_wp2_with fail
    go_loopw [9,10,11] (fun v9 v10 v11 w5=>∃ (i:Nat) (IA:Option Addr) (ic:Nat) (LA:Option Addr) (lc:Nat),v9 = .bool (riseB (idL l i))∧v10 = .bool (decide ((2:Int) ∈ idL l i))∧v11 = .int .i64 (i:Int)∧i≤n∧Hid (VW wr g (.slice IA i ic) (.slice LA i lc) (idL l i) (vsS i) w5)) (fun _ _ v _=>(n - intOf v).toNat)
    case atStart=>exact ⟨0,none,0,none,0,by simp [idL,rise_nil],by simp [idL],rfl,Nat.zero_le _,HVW.out⟩
    case round =>
     obtain ⟨i,IA,ic,LA,lc,rfl,rfl,rfl,hi,HV⟩:=hrel
     rename World=>w5
     by_cases hlt:i<n
     ·have p1:decide ((i:Int)<(n:Int))=true:=decide_eq_true (by omega)
      have p2:(i:Int)<(n:Int):=by omega
      have p3:(0:Int)≤(i:Int):=by omega
      have hil:i<l.length:=by rw [HN.out];exact hlt
      obtain ⟨ga,off,rfl,hga,hc0⟩:=HR.out.at_ hil
      obtain ⟨x,hx⟩:∃ x,l[i]=x:=⟨_,rfl⟩
      have hc:w5.cell? ⟨ga,off+i,none⟩=some (.int .u8 (x.toNat:Int)):=((HN1.out.trans (HX.out.trans HV.out.nx)).cell (p:=⟨ga,off+i,none⟩) hga).trans (by rw [hc0,hx];rfl)
      obtain ⟨d,hd⟩:∃ d:Nat,x.toNat % 6=d:=⟨_,rfl⟩
      have hdm:(x.toNat:Int).tmod 6=(d:Int):=by rw [Int.tmod_eq_emod_of_nonneg (by omega)];omega
      have hd6:d<6:=by omega
      have HID:Hid (idL l (i+1)=idL l i++[(d:Int)]):=by unfold Hid;rw [idL_succ l i hil,hx,← hd];rfl
      have HLT:=Lib.hid hlt
      clear hc0 hx hd hil hlt hi hga
      go_upto_region 19 with (fail)
      obtain ⟨B,hB⟩:∃ b,riseB (idL l i)=b:=⟨_,rfl⟩
      obtain ⟨D2,hD2⟩:∃ b,decide ((2:Int) ∈ idL l i)=b:=⟨_,rfl⟩
      have HB:=Lib.hid hB
      have HD2:=Lib.hid hD2
      rw [hB,hD2]
      clear hB hD2
      have HBV:=Lib.hid HV.out.bl
      have HLEN:Hid ((idL l i).length=i):=idL_len l i (by rw [HN.out];have:=HLT.out;omega)
      go_cut [9] (fun v9 wx=>v9 = .bool (riseB (idL l (i+1)))∧wx=w5)
      case first =>
       cases B with
       | false =>
        have HE:Hid (riseB (idL l (i+1))=false):=by
         unfold Hid
         rw [HID.out]
         by_cases h0:i=0
         ·subst h0;have:=HB.out;simp [idL,rise_nil] at this
         ·rw [rise_snoc _ _ (by rw [HLEN.out];omega),HB.out,Bool.false_and]
        go_wp2_with fail
        go_meet
        exact ⟨by rw [HE.out],rfl⟩
       | true =>
        by_cases hd1:1≤d
        ·have s1:decide ((1:Int)≤(d:Int))=true:=decide_eq_true (by omega)
         have s2:(1:Int)≤(d:Int):=by omega
         by_cases hd4:d≤4
         ·have s3:decide ((d:Int)≤4)=true:=decide_eq_true (by omega)
          have s4:(d:Int)≤4:=by omega
          by_cases h0:i=0
          ·subst h0
           have HE:Hid (riseB (idL l (0+1))=true):=by
            unfold Hid
            rw [HID.out,show idL l 0=[] from by simp [idL],List.nil_append,rise_one,s1,s3];rfl
           rw [show ((0:Nat):Int)=0 from rfl]
           go_wp2_with fail
           go_meet
           exact ⟨by rw [HE.out],rfl⟩
          ·have z1:((i:Int) == 0)=false:=by rw [beq_eq_false_iff_ne];omega
           have z2:¬ ((i:Int)=0):=by omega
           obtain ⟨m,hm⟩:∃ m:Nat,i - 1=m:=⟨_,rfl⟩
           have m1:(i:Int) - 1=(m:Int):=by omega
           have m2:IntKind.i64.wrap (m:Int)=(m:Int):=by have:=HN5.out;have:=HLT.out;rw [IntKind.wrap_i64];omega
           have m3:(0:Int)≤(m:Int):=by omega
           have m4:(m:Int)<(i:Int):=by omega
           obtain ⟨A9,c9,e9,h91,h92,h9⟩:=HV.out.oi.sl (f:=inA) (k:=1) (fun _=>rfl)
           obtain ⟨gi,e10,hgi,hci⟩:=h9 (by rw [HLEN.out];omega)
           have e11:IA=some ⟨gi,0,none⟩:=by rw [← e10];exact (Value.slice.inj e9).1
           subst e11
           clear e10
           have hml:m<(idL l i).length:=by rw [HLEN.out];omega
           obtain ⟨P,hP⟩:∃ P,(idL l i)[m]=P:=⟨_,rfl⟩
           have ci:w5.cell? ⟨gi,m,none⟩=some (.int .i64 P):=by
            have h:=hci m hml 0 (by decide)
            rw [Nat.mul_one,Nat.add_zero,hP] at h;exact h
           have c4:w5.cell? ⟨g,4,none⟩=some (.slice (some ⟨gi,0,none⟩) i ic):=HBV.out.cell 4
           have HE:Hid (riseB (idL l (i+1))=decide (P<(d:Int))):=by
            unfold Hid
            have e:(idL l i)[(idL l i).length - 1]'(by rw [HLEN.out];omega)=P:=by rw [← hP];congr 1;rw [HLEN.out];exact hm
            rw [HID.out,rise_snoc _ _ (by rw [HLEN.out];omega),HB.out,s1,s3,e];rfl
           clear e9 h9 hci hP hml h91 h92 hm h0
           go_wp2_with fail
           go_meet
           exact ⟨by rw [HE.out],rfl⟩
         ·have s3:decide ((d:Int)≤4)=false:=decide_eq_false (by omega)
          have s4:¬ (d:Int)≤4:=by omega
          have HE:Hid (riseB (idL l (i+1))=false):=by
           unfold Hid
           rw [HID.out]
           by_cases h0:i=0
           ·subst h0;rw [show idL l 0=[] from by simp [idL],List.nil_append,rise_one,s3,Bool.and_false]
           ·rw [rise_snoc _ _ (by rw [HLEN.out];omega),s3,Bool.false_and,Bool.and_false,Bool.and_false]
          go_wp2_with fail
          go_meet
          exact ⟨by rw [HE.out],rfl⟩
        ·have s1:decide ((1:Int)≤(d:Int))=false:=decide_eq_false (by omega)
         have s2:¬ (1:Int)≤(d:Int):=by omega
         have HE:Hid (riseB (idL l (i+1))=false):=by
          unfold Hid
          rw [HID.out]
          by_cases h0:i=0
          ·subst h0;rw [show idL l 0=[] from by simp [idL],List.nil_append,rise_one,s1,Bool.false_and]
          ·rw [rise_snoc _ _ (by rw [HLEN.out];omega),s1,Bool.false_and,Bool.and_false]
         go_wp2_with fail
         go_meet
         exact ⟨by rw [HE.out],rfl⟩
      case rest =>
       obtain ⟨rfl,rfl⟩:=hcut
       clear hc
       go_upto_region 20 with (fail)
       go_cut [10] (fun v10 wx=>v10 = .bool (decide ((2:Int) ∈ idL l (i+1)))∧wx=wc)
       case first =>
        have HE:Hid (decide ((2:Int) ∈ idL l (i+1))=(D2 || ((d:Int) == 2))):=by unfold Hid;rw [HID.out,two_snoc,HD2.out]
        cases D2 with
        | true =>
         go_wp2_with fail
         go_meet
         exact ⟨by rw [HE.out];rfl,rfl⟩
        | false =>
         go_wp2_with fail
         go_meet
         exact ⟨by rw [HE.out];rfl,rfl⟩
       case rest =>
        obtain ⟨rfl,e⟩:=hcut
        subst e
        have HSI:=Lib.hid HV.out.oi
        have HSL:=Lib.hid HV.out.ol
        have HON:Hid (∀ b,(.slice IA i ic:Value).ownBlock=some b→b<wc.heap.size∧b≠g∧(.slice LA i lc:Value).ownBlock≠some b):=fun b e=>HV.out.ai b e
        have HOF:Hid (∀ b,(.slice LA i lc:Value).ownBlock=some b→b<wc.heap.size∧b≠g):=fun b e=>HV.out.al b e
        have HGD:Hid (g<wc.heap.size):=HBV.out.lt
        have HVS:Hid (vsS (i+1)=vsS i++[leafS 3 (i:Int)]):=vsS_succ i
        have HL1:Hid (((idL l i).length:Int)≤100000):=by unfold Hid;rw [HLEN.out];have:=HLT.out;have:=HN5.out;omega
        have HL2:Hid (((vsS i).length:Int)≤100000):=by unfold Hid;rw [vsS_len];have:=HLT.out;have:=HN5.out;omega
        have HO1:Hid (∀ u ∈ (inA (d:Int)).toList,u.oneCell'=true):=fun u hu=>by simp [inA] at hu;subst hu;rfl
        have HO2:Hid (∀ u ∈ (valA (leafS 3 (i:Int))).toList,u.oneCell'=true):=fun u hu=>by simp [valA,leafS] at hu;rcases hu with rfl | rfl | rfl | rfl | rfl <;> rfl
        go_upto_region 21 with (fail)
        refine RI.wp_region_M (RI.Vof (regU wc g (.slice IA i ic) (.slice LA i lc) (d:Int) (i:Int) (idL l (i+1)) (vsS (i+1)))) (SUl wc g (.slice IA i ic) (.slice LA i lc) (idL l (i+1)) (vsS (i+1))) (RU g (.slice IA i ic) (.slice LA i lc)) rfl (by kernel_rfl) (by kernel_rfl) (regU_keep HGD.out HON.out HOF.out) ?_ ?_ ?_
        ·exact (show SU _ _ _ _ _ _ false false false false _ from ⟨rfl,rfl,rfl,Nat.le_refl _,fun _ _ _ _ _=>rfl,_,_,HBV.out.below (Nx.drawn _),fun _=>rfl,fun e=>(by cases e),fun _=>rfl,fun e=>(by cases e)⟩)
        ·refine ⟨?_,?_,?_,?_,?_,?_,?_,?_,?_,?_,?_,?_,?_,?_,?_,trivial⟩
         ·intro a x ls w' hS hsz hni hcl hun hin hout hd K hK
          have o:a.eval (.tmp 8) = .pointer (some ⟨g,0,none⟩):=hout 8 (by kernel_rfl)
          have o2:a.tmps.getD 8 undef = .pointer (some ⟨g,0,none⟩):=o
          have HS:=Lib.hid hS
          clear hin hout hun hd hcl hS
          go_simp
          exact hK w' _ rfl (HS.out.set (Nx.refl _) 0 (by decide) (by decide) (by decide) (by decide)) (RU.nx (Nx.refl _))
         ·intro a x ls w' hS hsz hni hcl hun hin hout hd K hK
          have i86:a.tmps.getD 86 undef = .pointer (some ⟨g,4,none⟩):=(hin 86 0 (by kernel_rfl) (show 86<143 by decide)).trans (hd ⟨0,.data⟩ (by simp) rfl)
          have e86:a.eval (.tmp 86) = .pointer (some ⟨g,4,none⟩):=i86
          have nn:=hcl.not 15 12 1 (by kernel_rfl) hni
          obtain ⟨c3,c4,hb,h2,-,h4,-⟩:=hS.ex
          have cc:w'.cell? ⟨g,4,none⟩=some (.slice IA i ic):=by have:=hb.cell 4;rw [show (csU c3 c4)[4]? = some c4 from rfl,h2 nn] at this;exact this
          clear hb h2 h4
          have HS:=Lib.hid hS
          clear hin hout hun hd hcl hS
          go_simp
          exact hK w' _ rfl (HS.out.set (Nx.refl _) 1 (by decide) (by decide) (by decide) (by decide)) (RU.nx (Nx.refl _))
         ·intro a x ls w' hS hsz hni hcl hun hin hout hd K hK
          have o:a.eval (.tmp 12) = .int .i64 (d:Int):=hout 12 (by kernel_rfl)
          clear hin hout hun
          exact hK w' _ o (hS.set (Nx.refl _) 2 (by decide) (by decide) (by decide) (by decide)) (RU.nx (Nx.refl _))
         ·intro a x ls w' hS hsz hni hcl hun hin hout hd K hK
          have i88:a.tmps.getD 88 undef = .int .i64 (d:Int):=(hin 88 2 (by kernel_rfl) (show 88<143 by decide)).trans (hd ⟨2,.data⟩ (by simp) rfl)
          have j88:=i88
          rw [Array.getD_eq_getD_getElem?] at j88
          have hw0:=hS.size
          have HS:=Lib.hid hS
          clear hin hout hun hd hcl hS
          go_simp
          exact hK (w'.alloc (.cells #[.int .i64 (d:Int)] 3)) (.slice (some ⟨w'.heap.size,0,none⟩) 1 1) ⟨_,rfl,hw0,by simp,fun j hj=>(Blk.new w' #[.int .i64 (d:Int)] 3).cell j⟩ (HS.out.set (nx0 _ _) 3 (by decide) (by decide) (by decide) (by decide)) (RU.nx (nx0 _ _))
         ·intro a x ls w' hS hsz hni hcl hun hin hout hd K hK
          have q1:a.eval (.tmp 87) = .slice IA i ic:=(hin 87 1 (by kernel_rfl) (show 87<143 by decide)).trans (hd ⟨1,.data⟩ (by simp) rfl)
          obtain ⟨k8,r1,r2,r3,r4⟩:=hd ⟨3,.data⟩ (by simp) rfl
          have q2:a.eval (.tmp 89) = .slice (some ⟨k8,0,none⟩) 1 1:=(hin 89 3 (by kernel_rfl) (show 89<143 by decide)).trans r1
          have n4:ls.getD 4 false=false:=hcl.not 15 4 4 (by kernel_rfl) hni
          have n12:ls.getD 12 false=false:=hcl.not 15 12 4 (by kernel_rfl) hni
          have n14:ls.getD 14 false=false:=hcl.not 15 14 4 (by kernel_rfl) hni
          unfold SUl at hS
          rw [n4,n12,n14] at hS
          have hsl:=HSI.out.keepU (w':=w') fun b e=>hS.block b (HON.out b e).1 (HON.out b e).2.1 (.inl rfl) (.inr (HON.out b e).2.2)
          have hsz2:g+1≤w'.heap.size:=Nat.le_trans HGD.out hS.size
          clear hin hout hun hd hcl r1
          refine op_appQ w' (f:=inA) (k:=1) (z:=.int .i64 0) infoIi Tryd.underlying34 rfl (by decide) (by decide) (fun _=>rfl) _ _ rfl (g+1) (.slice IA i ic) _ (d:Int) HO1.out q1 hsl k8 q2 r4 HL1.out hsz2 ?_
          intro v' w2 hr2 hg2
          rw [← HID.out] at hr2
          refine hK w2 v' ?_ ?_ ?_
          ·obtain ⟨A9,c9,e9,-,-,-⟩:=hr2.sl (f:=inA) (k:=1) (fun _=>rfl)
           refine ⟨A9,c9,e9,hr2,fun b e=>?_⟩
           exact (hg2.own b e).imp id fun h=>Nat.le_trans hS.size h
          ·unfold SUl
           rw [getD_putU1 _ _ (by rw [hsz];decide),getD_putU _ _ _ (by decide),getD_putU _ _ _ (by decide),getD_putU _ _ _ (by decide),n12,n14]
           exact hS.app4 hg2 (fun e=>(HON.out _ e).2.1 rfl)
          ·exact ⟨hg2.size,fun b hb _ h4 h10=>hg2.block b hb (h4.resolve_left (by rw [n4];decide))⟩
         ·intro a x ls w' hS hsz hni hcl hun hin hout hd K hK
          have o:a.eval (.tmp 8) = .pointer (some ⟨g,0,none⟩):=hout 8 (by kernel_rfl)
          have o2:a.tmps.getD 8 undef = .pointer (some ⟨g,0,none⟩):=o
          have HS:=Lib.hid hS
          clear hin hout hun hd hcl hS
          go_simp
          exact hK w' _ rfl (HS.out.set (Nx.refl _) 5 (by decide) (by decide) (by decide) (by decide)) (RU.nx (Nx.refl _))
         ·intro a x ls w' hS hsz hni hcl hun hin hout hd K hK
          have i91:a.tmps.getD 91 undef = .pointer (some ⟨g,3,none⟩):=(hin 91 5 (by kernel_rfl) (show 91<143 by decide)).trans (hd ⟨5,.data⟩ (by simp) rfl)
          have e91:a.eval (.tmp 91) = .pointer (some ⟨g,3,none⟩):=i91
          have nn:=hcl.not 15 14 6 (by kernel_rfl) hni
          obtain ⟨c3,c4,hb,h2,-,h4,-⟩:=hS.ex
          have cc:w'.cell? ⟨g,3,none⟩=some (.slice LA i lc):=by have:=hb.cell 3;rw [show (csU c3 c4)[3]? = some c3 from rfl,h4 nn] at this;exact this
          clear hb h2 h4
          have HS:=Lib.hid hS
          clear hin hout hun hd hcl hS
          go_simp
          exact hK w' _ rfl (HS.out.set (Nx.refl _) 6 (by decide) (by decide) (by decide) (by decide)) (RU.nx (Nx.refl _))
         ·intro a x ls w' hS hsz hni hcl hun hin hout hd K hK
          have o:a.eval (.tmp 11) = .int .i64 (i:Int):=hout 11 (by kernel_rfl)
          clear hin hout hun
          exact hK w' _ o (hS.set (Nx.refl _) 7 (by decide) (by decide) (by decide) (by decide)) (RU.nx (Nx.refl _))
         ·intro a x ls w' hS hsz hni hcl hun hin hout hd K hK
          have i93:a.tmps.getD 93 undef = .int .i64 (i:Int):=(hin 93 7 (by kernel_rfl) (show 93<143 by decide)).trans (hd ⟨7,.data⟩ (by simp) rfl)
          have e93:a.eval (.tmp 93) = .int .i64 (i:Int):=i93
          have j93:=i93
          rw [Array.getD_eq_getD_getElem?] at j93
          have HS:=Lib.hid hS
          clear hin hout hun hd hcl hS
          go_simp
          exact hK w' (.agg #[.int .i64 3,.int .i64 (i:Int),.string ⟨#[]⟩,.slice none 0 0,.slice none 0 0]) rfl (HS.out.set (Nx.refl _) 8 (by decide) (by decide) (by decide) (by decide)) (RU.nx (Nx.refl _))
         ·intro a x ls w' hS hsz hni hcl hun hin hout hd K hK
          have i94:a.tmps.getD 94 undef = .agg #[.int .i64 3,.int .i64 (i:Int),.string ⟨#[]⟩,.slice none 0 0,.slice none 0 0]:=(hin 94 8 (by kernel_rfl) (show 94<143 by decide)).trans (hd ⟨8,.data⟩ (by simp) rfl)
          have j94:=i94
          rw [Array.getD_eq_getD_getElem?] at j94
          have hw0:=hS.size
          have HS:=Lib.hid hS
          clear hin hout hun hd hcl hS
          go_simp
          exact hK (w'.alloc (.cells #[.int .i64 3,.int .i64 (i:Int),.string ⟨#[]⟩,.slice none 0 0,.slice none 0 0] 41)) (.slice (some ⟨w'.heap.size,0,none⟩) 1 1) ⟨_,rfl,hw0,by simp,fun j hj=>(Blk.new w' #[.int .i64 3,.int .i64 (i:Int),.string ⟨#[]⟩,.slice none 0 0,.slice none 0 0] 41).cell j⟩ (HS.out.set (nx0 _ _) 9 (by decide) (by decide) (by decide) (by decide)) (RU.nx (nx0 _ _))
         ·intro a x ls w' hS hsz hni hcl hun hin hout hd K hK
          have q1:a.eval (.tmp 92) = .slice LA i lc:=(hin 92 6 (by kernel_rfl) (show 92<143 by decide)).trans (hd ⟨6,.data⟩ (by simp) rfl)
          obtain ⟨k8,r1,r2,r3,r4⟩:=hd ⟨9,.data⟩ (by simp) rfl
          have q2:a.eval (.tmp 95) = .slice (some ⟨k8,0,none⟩) 1 1:=(hin 95 9 (by kernel_rfl) (show 95<143 by decide)).trans r1
          have n10:ls.getD 10 false=false:=hcl.not 15 10 10 (by kernel_rfl) hni
          have n12:ls.getD 12 false=false:=hcl.not 15 12 10 (by kernel_rfl) hni
          have n14:ls.getD 14 false=false:=hcl.not 15 14 10 (by kernel_rfl) hni
          unfold SUl at hS
          rw [n10,n12,n14] at hS
          have hsl:=HSL.out.keepU (w':=w') fun b e=>hS.block b (HOF.out b e).1 (HOF.out b e).2 (.inr fun e'=>(HON.out b e').2.2 e) (.inl rfl)
          have hsz2:g+1≤w'.heap.size:=Nat.le_trans HGD.out hS.size
          clear hin hout hun hd hcl r1
          refine op_appQ w' (f:=valA) (k:=5) (z:=.agg #[.int .i64 0,.int .i64 0,.string ⟨#[]⟩,.slice none 0 0,.slice none 0 0]) infoVv Tryd.underlying39 rfl (by decide) (by decide) (fun _=>rfl) _ _ rfl (g+1) (.slice LA i lc) _ (leafS 3 (i:Int)) HO2.out q1 hsl k8 q2 r4 HL2.out hsz2 ?_
          intro v' w2 hr2 hg2
          rw [← HVS.out] at hr2
          refine hK w2 v' ?_ ?_ ?_
          ·obtain ⟨A9,c9,e9,-,-,-⟩:=hr2.sl (f:=valA) (k:=5) (fun _=>rfl)
           refine ⟨A9,c9,e9,hr2,fun b e=>?_⟩
           exact (hg2.own b e).imp id fun h=>Nat.le_trans hS.size h
          ·unfold SUl
           rw [getD_putU _ _ _ (by decide),getD_putU1 _ _ (by rw [hsz];decide),getD_putU _ _ _ (by decide),getD_putU _ _ _ (by decide),n12,n14]
           exact hS.app10 hg2 (fun e=>(HOF.out _ e).2 rfl)
          ·exact ⟨hg2.size,fun b hb _ h4 h10=>hg2.block b hb (h10.resolve_left (by rw [n10];decide))⟩
         ·intro a x ls w' hS hsz hni hcl hun hin hout hd K hK
          have o:a.eval (.tmp 8) = .pointer (some ⟨g,0,none⟩):=hout 8 (by kernel_rfl)
          have o2:a.tmps.getD 8 undef = .pointer (some ⟨g,0,none⟩):=o
          have HS:=Lib.hid hS
          clear hin hout hun hd hcl hS
          go_simp
          exact hK w' _ rfl (HS.out.set (Nx.refl _) 11 (by decide) (by decide) (by decide) (by decide)) (RU.nx (Nx.refl _))
         ·intro a x ls w' hS hsz hni hcl hun hin hout hd K hK
          have i97:a.tmps.getD 97 undef = .pointer (some ⟨g,4,none⟩):=(hin 97 11 (by kernel_rfl) (show 97<143 by decide)).trans (hd ⟨11,.data⟩ (by simp) rfl)
          have e97:a.eval (.tmp 97) = .pointer (some ⟨g,4,none⟩):=i97
          have hvu:=hd ⟨4,.data⟩ (by simp) rfl
          replace hvu:VU inA 1 3 (g+1) wc (.slice IA i ic) (idL l (i+1)) (x 4) w':=hvu
          have iv:a.tmps.getD 90 undef=x 4:=hin 90 4 (by kernel_rfl) (show 90<143 by decide)
          obtain ⟨A9,c9,ev,h91,h92⟩:=hvu
          have i90:a.tmps.getD 90 undef = .slice A9 (i+1) c9:=by rw [iv,ev,idL_len l (i+1) (by rw [HN.out];exact HLT.out)]
          have e90:a.eval (.tmp 90) = .slice A9 (i+1) c9:=i90
          rw [ev,idL_len l (i+1) (by rw [HN.out];exact HLT.out)] at h91 h92
          have HVV:Hid (VU inA 1 3 (g+1) wc (.slice IA i ic) (idL l (i+1)) (.slice A9 (i+1) c9) w'):=⟨A9,c9,by rw [idL_len l (i+1) (by rw [HN.out];exact HLT.out)],h91,h92⟩
          have n12:ls.getD 12 false=false:=hcl.not 15 12 12 (by kernel_rfl) hni
          have n14:ls.getD 14 false=false:=hcl.not 15 14 12 (by kernel_rfl) hni
          unfold SUl at hS
          rw [n12,n14] at hS
          obtain ⟨c3,c4,hb,-,-,-,-⟩:=hS.ex
          have cc:w'.cell? ⟨g,4,none⟩=some c4:=hb.cell 4
          have cf:=hb.free 4
          have HS:=Lib.hid hS
          clear hin hout hun hd hcl hS hb h91 h92 iv ev
          go_simp
          refine hK (w'.setCell ⟨g,4,none⟩ (.slice A9 (i+1) c9)) undef trivial ?_ ?_
          ·unfold SUl
           rw [getD_putU _ _ _ (by decide),getD_putU _ _ _ (by decide),getD_putU1 _ _ (by rw [hsz];decide),getD_putU _ _ _ (by decide),n14]
           exact HS.out.put12 HVV.out
          ·exact ⟨by simp [World.setCell],fun b hb hne _ _=>set_blockU hne⟩
         ·intro a x ls w' hS hsz hni hcl hun hin hout hd K hK
          have o:a.eval (.tmp 8) = .pointer (some ⟨g,0,none⟩):=hout 8 (by kernel_rfl)
          have o2:a.tmps.getD 8 undef = .pointer (some ⟨g,0,none⟩):=o
          have HS:=Lib.hid hS
          clear hin hout hun hd hcl hS
          go_simp
          exact hK w' _ rfl (HS.out.set (Nx.refl _) 13 (by decide) (by decide) (by decide) (by decide)) (RU.nx (Nx.refl _))
         ·intro a x ls w' hS hsz hni hcl hun hin hout hd K hK
          have i98:a.tmps.getD 98 undef = .pointer (some ⟨g,3,none⟩):=(hin 98 13 (by kernel_rfl) (show 98<143 by decide)).trans (hd ⟨13,.data⟩ (by simp) rfl)
          have e98:a.eval (.tmp 98) = .pointer (some ⟨g,3,none⟩):=i98
          have hvu:=hd ⟨10,.data⟩ (by simp) rfl
          replace hvu:VU valA 5 41 (g+1) wc (.slice LA i lc) (vsS (i+1)) (x 10) w':=hvu
          have iv:a.tmps.getD 96 undef=x 10:=hin 96 10 (by kernel_rfl) (show 96<143 by decide)
          obtain ⟨A9,c9,ev,h91,h92⟩:=hvu
          have i96:a.tmps.getD 96 undef = .slice A9 (i+1) c9:=by rw [iv,ev,vsS_len]
          have e96:a.eval (.tmp 96) = .slice A9 (i+1) c9:=i96
          rw [ev,vsS_len] at h91 h92
          have HVV:Hid (VU valA 5 41 (g+1) wc (.slice LA i lc) (vsS (i+1)) (.slice A9 (i+1) c9) w'):=⟨A9,c9,by rw [vsS_len],h91,h92⟩
          have n14:ls.getD 14 false=false:=hcl.not 15 14 14 (by kernel_rfl) hni
          unfold SUl at hS
          rw [n14] at hS
          obtain ⟨c3,c4,hb,-,-,-,-⟩:=hS.ex
          have cc:w'.cell? ⟨g,3,none⟩=some c3:=hb.cell 3
          have cf:=hb.free 3
          have HS:=Lib.hid hS
          clear hin hout hun hd hcl hS hb h91 h92 iv ev
          go_simp
          refine hK (w'.setCell ⟨g,3,none⟩ (.slice A9 (i+1) c9)) undef trivial ?_ ?_
          ·unfold SUl
           rw [getD_putU _ _ _ (by decide),getD_putU _ _ _ (by decide),getD_putU _ _ _ (by decide),getD_putU1 _ _ (by rw [hsz];decide)]
           exact HS.out.put14 HVV.out
          ·exact ⟨by simp [World.setCell],fun b hb hne _ _=>set_blockU hne⟩
        ·intro A x ls w' hS hall hin hout hV hA
         have hA2:=hA.out
         have hSS:SU wc g (.slice IA i ic) (.slice LA i lc) (idL l (i+1)) (vsS (i+1)) true true true true w':=by
          unfold SUl at hS
          rw [hall 4 (by decide),hall 10 (by decide),hall 12 (by decide),hall 14 (by decide)] at hS
          exact hS
         obtain ⟨A1,c1,A2,c2,hvw⟩:=hSS.done HV.out
         rw [idL_len l (i+1) (by rw [HN.out];exact HLT.out),vsS_len] at hvw
         have HVD:=Lib.hid hvw
         clear hA hin hout hV hall hS hSS hvw
         simp only [RI.setAll,List.toList_toArray,List.set_cons_succ,List.set_cons_zero,Nat.reduceAdd] at hA2
         subst hA2
         go_wp2_with fail
         go_roundw
         case rel=>exact ⟨i+1,A1,c1,A2,c2,rfl,rfl,by go_num,HLT.out,HVD.out⟩
         case measure=>have:=HLT.out;simp [intOf];omega
     ·have p1:decide ((i:Int)<(n:Int))=false:=decide_eq_false (by omega)
      have p2:¬ (i:Int)<(n:Int):=by omega
      obtain rfl:n=i:=by omega
      have HBV:=Lib.hid HV.out.bl
      have HBX:Hid (Blk w5 gx gx #[.int .i64 KK,.string ⟨#[]⟩,.slice A6 4 m6] 48):=HB.out.below HV.out.nx
      have HNW:Hid (Nx w w5):=HN1.out.trans (HX.out.trans HV.out.nx)
      have HLEN:Hid ((idL l n).length=n):=idL_len l n (Nat.le_of_eq HN.out.symm)
      have HFS:Hid (RdFs w5 (.slice A6 4 m6) (fsU q 4)):=by
       obtain ⟨A9,c9,e9,h91,h92,h9⟩:=(HO.out.nx HV.out.nx).sl fldA_size
       have e1:=(Value.slice.inj e9).1
       have e3:=(Value.slice.inj e9).2.2
       subst e1 e3
       refine ⟨⟨A6,m6,rfl,h91,h92,fun h0=>?_⟩,?_,?_,?_⟩
       ·obtain ⟨gf,e2,hgf,hcf⟩:=h9 h0
        exact ⟨gf,0,e2,hgf,fun a ha b hb=>by rw [Nat.zero_add];exact hcf a ha b hb⟩
       ·rw [fsU_len];decide
       ·cases q <;> decide
       ·intro f hf
        obtain ⟨j,-,rfl⟩:=List.mem_map.1 hf
        exact ⟨(show baseT [105,56]≠none from by decide),⟨_,_,_,rfl⟩,⟨_,_,_,rfl⟩⟩
      have HRV:Hid (RdV 2 w5 ⟨12,0,[],.slice LA n lc,.slice IA n ic⟩ (.mk 12 0 [] (vsV n) (idL l n))):=by
       refine ⟨rfl,rfl,rfl,RdL.own HV.out.ol (by rw [vsS_len,vsV_len]) (fun j h1 h2=>?_),?_⟩
       ·have e1:(vsS n)[j]=leafS 3 (j:Int):=by simp [vsS]
        have e2:(vsV n)[j]=leafV 3 (j:Int):=by simp [vsV]
        rw [e1,e2];exact RdV.leaf 0 w5 3 (j:Int)
       ·obtain ⟨A9,c9,e9,h91,h92,h9⟩:=HV.out.oi.sl (f:=inA) (k:=1) (fun _=>rfl)
        refine ⟨A9,c9,e9,h91,h92,fun h0=>?_⟩
        obtain ⟨gi,e2,hgi,hci⟩:=h9 h0
        refine ⟨gi,0,e2,hgi,fun j hj=>?_⟩
        have h:=hci j hj 0 (by decide)
        rw [Nat.mul_one,Nat.add_zero] at h
        rw [Nat.zero_add,h];rfl
      have HSM:Hid (smallV (.mk 12 0 [] (vsV n) (idL l n))):=by
       refine ⟨by decide,⟨by decide,by decide⟩,rfl,by rw [vsV_len];have:=HN5.out;omega,by rw [HLEN.out];have:=HN5.out;omega,fun x hx=>?_⟩
       obtain ⟨j,hj,rfl⟩:=List.mem_map.1 hx
       have hj5:j<n:=List.mem_range.1 hj
       have:=HN5.out
       exact ⟨by decide,⟨by omega,by omega⟩,rfl,rfl,rfl⟩
      have HS0:Hid (Sch0 (.agg #[.slice none 0 0,.slice none 0 0,.slice none 0 0])):=⟨_,_,_,_,_,_,_,_,_,rfl⟩
      have HF1:Hid (∀ wx,Nx w5 wx→Calls Tryd.prog 9 #[.agg #[.slice none 0 0,.slice none 0 0,.slice none 0 0],.agg #[.int .i64 KK,.string ⟨#[]⟩,.slice A6 4 m6],.agg #[.int .i64 12,.int .i64 0,.string ⟨#[]⟩,.slice LA n lc,.slice IA n ic]] wx fun e w'=>e = .returned (.bool (wantU r n (idL l n)))∧Nx wx w'):=fun wx hx=>by
       have h:=HC.out.fld wx _ ⟨12,0,[],.slice LA n lc,.slice IA n ic⟩ (.mk 12 0 [] (vsV n) (idL l n)) KK [] (.slice A6 4 m6) (fsU q 4) (HC.out.nx HT.out (HNW.out.trans hx)) HS0.out (HFS.out.nx hx) (RdV.nx hx 2 HRV.out) HSM.out (fsU_ok q 4 (by decide)) (idL_ok l n)
       rw [← HKK.out,← HQ.out,fld_want r n hr4 HN5.out _ HLEN.out] at h
       rw [← HKK.out]
       exact h
      have c2:Hid (∀ wx,Nx w5 wx→Calls Tryd.prog 9 #[.agg #[.slice none 0 0,.slice none 0 0,.slice none 0 0],.agg #[.int .i64 KK,.string ⟨#[]⟩,.slice A6 4 m6],.agg #[.int .i64 3,.int .i64 0,.string ⟨#[]⟩,.slice none 0 0,.slice none 0 0]] wx fun e w'=>e = .returned (.bool false)∧Nx wx w'):=fun wx hx =>
       HC.out.fld wx _ (leafS 3 0) (leafV 3 0) KK [] (.slice A6 4 m6) (fsU q 4) (HC.out.nx HT.out (HNW.out.trans hx)) HS0.out (HFS.out.nx hx) (RdV.leaf 1 wx 3 0) ⟨by decide,⟨by decide,by decide⟩,rfl,by decide,by decide,fun x hx=>by cases hx⟩ (fsU_ok q 4 (by decide)) (fun z hz=>by cases hz)
      have c3:Hid (∀ wx gz,Nx w5 wx→Blk wx gz gz #[.int .i64 2] 3→Calls Tryd.prog 9 #[.agg #[.slice none 0 0,.slice none 0 0,.slice none 0 0],.agg #[.int .i64 KK,.string ⟨#[]⟩,.slice A6 4 m6],.agg #[.int .i64 12,.int .i64 0,.string ⟨#[]⟩,.slice none 0 0,.slice (some ⟨gz,0,none⟩) 1 1]] wx fun e w'=>e = .returned (.bool false)∧Nx wx w'):=fun wx gz hx hb =>
       HC.out.fld wx _ ⟨12,0,[],.slice none 0 0,.slice (some ⟨gz,0,none⟩) 1 1⟩ (.mk 12 0 [] [] [2]) KK [] (.slice A6 4 m6) (fsU q 4) (HC.out.nx HT.out (HNW.out.trans hx)) HS0.out (HFS.out.nx hx)
        ⟨rfl,rfl,rfl,RdL.nil_ _ _,⟨_,1,rfl,Nat.le_refl _,by decide,fun _=>⟨gz,0,rfl,hb.lt,fun j hj=>by
         obtain rfl:j=0:=by simpa using hj
         exact hb.cell 0⟩⟩⟩ ⟨by decide,⟨by decide,by decide⟩,rfl,by decide,by decide,fun x hx=>by cases hx⟩ (fsU_ok q 4 (by decide)) (fun z hz=>by rw [List.mem_singleton.1 hz];exact ⟨by decide,by decide⟩)
      have HV2:=Lib.hid HV.out.nx
      obtain ⟨B,hB⟩:∃ b,riseB (idL l n)=b:=⟨_,rfl⟩
      obtain ⟨D2,hD2⟩:∃ b,decide ((2:Int) ∈ idL l n)=b:=⟨_,rfl⟩
      have HBB:=Lib.hid hB
      have HDD:=Lib.hid hD2
      rw [hB,hD2]
      clear hB hD2 HB HFS HRV HSM HS0 HV
      have hr5:r=0∨r=1∨r=2∨r=3:=by omega
      have HHK:=Lib.hid hrk
      clear hrk hr4 p1 p2
      clear hr4'
      rcases hr5 with rfl | rfl | rfl | rfl
      ·rw [show ((0:Nat):Int)=0 from rfl] at ht4
       cases B with
       | false =>
        have HWN:wantU 0 n (idL l n)=false:=by unfold wantU;rw [HBB.out,Bool.false_and]
        go_upto_region 29 with (fail)
        have c1:Hid (∀ wx,Nx w5 wx→Calls Tryd.prog 9 #[.agg #[.slice none 0 0,.slice none 0 0,.slice none 0 0],.agg #[.int .i64 KK,.string ⟨#[]⟩,.slice A6 4 m6],.agg #[.int .i64 12,.int .i64 0,.string ⟨#[]⟩,.slice LA n lc,.slice IA n ic]] wx fun e w'=>e = .returned (.bool false)∧Nx wx w'):=fun wx hx=>by
         have h:=HF1.out wx hx
         rw [HWN] at h
         exact h
        clear HWN
        have l0:w5.cell? ⟨gx,0,none⟩=some (.int .i64 KK):=HBX.out.cell 0
        have l1:w5.cell? ⟨gx,1,none⟩=some (.string ⟨#[]⟩):=HBX.out.cell 1
        have l2:w5.cell? ⟨gx,2,none⟩=some (.slice A6 4 m6):=HBX.out.cell 2
        have v0:w5.cell? ⟨g,0,none⟩=some (.int .i64 12):=HBV.out.cell 0
        have v1:w5.cell? ⟨g,1,none⟩=some (.int .i64 0):=HBV.out.cell 1
        have v2:w5.cell? ⟨g,2,none⟩=some (.string ⟨#[]⟩):=HBV.out.cell 2
        have v3:w5.cell? ⟨g,3,none⟩=some (.slice LA n lc):=HBV.out.cell 3
        have v4:w5.cell? ⟨g,4,none⟩=some (.slice IA n ic):=HBV.out.cell 4
        go_wp2_with fail
        refine (c1.out w5 (Nx.refl _)).mono ?_;rintro e w6 ⟨rfl,hn6⟩
        have HN6:=Lib.hid hn6
        clear l0 l1 l2 v0 v1 v2 v3 v4 hn6
        have l0:w6.cell? ⟨gx,0,none⟩=some (.int .i64 KK):=(HBX.out.below HN6.out).cell 0
        have l1:w6.cell? ⟨gx,1,none⟩=some (.string ⟨#[]⟩):=(HBX.out.below HN6.out).cell 1
        have l2:w6.cell? ⟨gx,2,none⟩=some (.slice A6 4 m6):=(HBX.out.below HN6.out).cell 2
        go_wp2_with fail
        refine (c2.out w6 HN6.out).mono ?_;rintro e w7 ⟨rfl,hn7⟩
        have HN7:Hid (Nx w5 w7):=HN6.out.trans hn7
        obtain ⟨gz,hgz⟩:∃ g,w7.heap.size=g:=⟨_,rfl⟩
        obtain ⟨w8,hw8⟩:∃ x,w7.alloc (.cells #[.int .i64 2] 3)=x:=⟨_,rfl⟩
        have hbz:Blk w8 gz gz #[.int .i64 2] 3:=by rw [← hw8,← hgz];exact Blk.new w7 _ _
        have hn8:Nx w7 w8:=by rw [← hw8];exact nx0 _ _
        have HN8:Hid (Nx w5 w8):=HN7.out.trans hn8
        have c3h:=c3.out w8 gz HN8.out hbz
        have C3:=Lib.hid c3h
        clear l0 l1 l2 hn7 hn8 hbz c3h
        have l0:w7.cell? ⟨gx,0,none⟩=some (.int .i64 KK):=(HBX.out.below HN7.out).cell 0
        have l1:w7.cell? ⟨gx,1,none⟩=some (.string ⟨#[]⟩):=(HBX.out.below HN7.out).cell 1
        have l2:w7.cell? ⟨gx,2,none⟩=some (.slice A6 4 m6):=(HBX.out.below HN7.out).cell 2
        go_wp2_with fail
        refine C3.out.mono ?_;rintro e w9 ⟨rfl,hn9⟩
        have HND:Hid (Nx w w9):=HNW.out.trans (HN8.out.trans hn9)
        clear l0 l1 l2 hn9
        go_wp2_with fail
        go_ret
        exact ⟨rfl,HND.out⟩
       | true =>
        cases D2 with
        | true =>
         have HWN:wantU 0 n (idL l n)=true:=by unfold wantU;rw [HBB.out,Bool.true_and,if_neg (by decide),if_neg (by decide),HDD.out]
         go_upto_region 29 with (fail)
         have c1:Hid (∀ wx,Nx w5 wx→Calls Tryd.prog 9 #[.agg #[.slice none 0 0,.slice none 0 0,.slice none 0 0],.agg #[.int .i64 KK,.string ⟨#[]⟩,.slice A6 4 m6],.agg #[.int .i64 12,.int .i64 0,.string ⟨#[]⟩,.slice LA n lc,.slice IA n ic]] wx fun e w'=>e = .returned (.bool true)∧Nx wx w'):=fun wx hx=>by
          have h:=HF1.out wx hx
          rw [HWN] at h
          exact h
         clear HWN
         have l0:w5.cell? ⟨gx,0,none⟩=some (.int .i64 KK):=HBX.out.cell 0
         have l1:w5.cell? ⟨gx,1,none⟩=some (.string ⟨#[]⟩):=HBX.out.cell 1
         have l2:w5.cell? ⟨gx,2,none⟩=some (.slice A6 4 m6):=HBX.out.cell 2
         have v0:w5.cell? ⟨g,0,none⟩=some (.int .i64 12):=HBV.out.cell 0
         have v1:w5.cell? ⟨g,1,none⟩=some (.int .i64 0):=HBV.out.cell 1
         have v2:w5.cell? ⟨g,2,none⟩=some (.string ⟨#[]⟩):=HBV.out.cell 2
         have v3:w5.cell? ⟨g,3,none⟩=some (.slice LA n lc):=HBV.out.cell 3
         have v4:w5.cell? ⟨g,4,none⟩=some (.slice IA n ic):=HBV.out.cell 4
         go_wp2_with fail
         refine (c1.out w5 (Nx.refl _)).mono ?_;rintro e w6 ⟨rfl,hn6⟩
         have HN6:=Lib.hid hn6
         clear l0 l1 l2 v0 v1 v2 v3 v4 hn6
         have l0:w6.cell? ⟨gx,0,none⟩=some (.int .i64 KK):=(HBX.out.below HN6.out).cell 0
         have l1:w6.cell? ⟨gx,1,none⟩=some (.string ⟨#[]⟩):=(HBX.out.below HN6.out).cell 1
         have l2:w6.cell? ⟨gx,2,none⟩=some (.slice A6 4 m6):=(HBX.out.below HN6.out).cell 2
         go_wp2_with fail
         refine (c2.out w6 HN6.out).mono ?_;rintro e w7 ⟨rfl,hn7⟩
         have HN7:Hid (Nx w5 w7):=HN6.out.trans hn7
         obtain ⟨gz,hgz⟩:∃ g,w7.heap.size=g:=⟨_,rfl⟩
         obtain ⟨w8,hw8⟩:∃ x,w7.alloc (.cells #[.int .i64 2] 3)=x:=⟨_,rfl⟩
         have hbz:Blk w8 gz gz #[.int .i64 2] 3:=by rw [← hw8,← hgz];exact Blk.new w7 _ _
         have hn8:Nx w7 w8:=by rw [← hw8];exact nx0 _ _
         have HN8:Hid (Nx w5 w8):=HN7.out.trans hn8
         have c3h:=c3.out w8 gz HN8.out hbz
         have C3:=Lib.hid c3h
         clear l0 l1 l2 hn7 hn8 hbz c3h
         have l0:w7.cell? ⟨gx,0,none⟩=some (.int .i64 KK):=(HBX.out.below HN7.out).cell 0
         have l1:w7.cell? ⟨gx,1,none⟩=some (.string ⟨#[]⟩):=(HBX.out.below HN7.out).cell 1
         have l2:w7.cell? ⟨gx,2,none⟩=some (.slice A6 4 m6):=(HBX.out.below HN7.out).cell 2
         go_wp2_with fail
         refine C3.out.mono ?_;rintro e w9 ⟨rfl,hn9⟩
         have HND:Hid (Nx w w9):=HNW.out.trans (HN8.out.trans hn9)
         clear l0 l1 l2 hn9
         go_wp2_with fail
         go_ret
         exact ⟨rfl,HND.out⟩
        | false =>
         have HWN:wantU 0 n (idL l n)=false:=by unfold wantU;rw [HBB.out,Bool.true_and,if_neg (by decide),if_neg (by decide),HDD.out]
         go_upto_region 29 with (fail)
         have c1:Hid (∀ wx,Nx w5 wx→Calls Tryd.prog 9 #[.agg #[.slice none 0 0,.slice none 0 0,.slice none 0 0],.agg #[.int .i64 KK,.string ⟨#[]⟩,.slice A6 4 m6],.agg #[.int .i64 12,.int .i64 0,.string ⟨#[]⟩,.slice LA n lc,.slice IA n ic]] wx fun e w'=>e = .returned (.bool false)∧Nx wx w'):=fun wx hx=>by
          have h:=HF1.out wx hx
          rw [HWN] at h
          exact h
         clear HWN
         have l0:w5.cell? ⟨gx,0,none⟩=some (.int .i64 KK):=HBX.out.cell 0
         have l1:w5.cell? ⟨gx,1,none⟩=some (.string ⟨#[]⟩):=HBX.out.cell 1
         have l2:w5.cell? ⟨gx,2,none⟩=some (.slice A6 4 m6):=HBX.out.cell 2
         have v0:w5.cell? ⟨g,0,none⟩=some (.int .i64 12):=HBV.out.cell 0
         have v1:w5.cell? ⟨g,1,none⟩=some (.int .i64 0):=HBV.out.cell 1
         have v2:w5.cell? ⟨g,2,none⟩=some (.string ⟨#[]⟩):=HBV.out.cell 2
         have v3:w5.cell? ⟨g,3,none⟩=some (.slice LA n lc):=HBV.out.cell 3
         have v4:w5.cell? ⟨g,4,none⟩=some (.slice IA n ic):=HBV.out.cell 4
         go_wp2_with fail
         refine (c1.out w5 (Nx.refl _)).mono ?_;rintro e w6 ⟨rfl,hn6⟩
         have HN6:=Lib.hid hn6
         clear l0 l1 l2 v0 v1 v2 v3 v4 hn6
         have l0:w6.cell? ⟨gx,0,none⟩=some (.int .i64 KK):=(HBX.out.below HN6.out).cell 0
         have l1:w6.cell? ⟨gx,1,none⟩=some (.string ⟨#[]⟩):=(HBX.out.below HN6.out).cell 1
         have l2:w6.cell? ⟨gx,2,none⟩=some (.slice A6 4 m6):=(HBX.out.below HN6.out).cell 2
         go_wp2_with fail
         refine (c2.out w6 HN6.out).mono ?_;rintro e w7 ⟨rfl,hn7⟩
         have HN7:Hid (Nx w5 w7):=HN6.out.trans hn7
         obtain ⟨gz,hgz⟩:∃ g,w7.heap.size=g:=⟨_,rfl⟩
         obtain ⟨w8,hw8⟩:∃ x,w7.alloc (.cells #[.int .i64 2] 3)=x:=⟨_,rfl⟩
         have hbz:Blk w8 gz gz #[.int .i64 2] 3:=by rw [← hw8,← hgz];exact Blk.new w7 _ _
         have hn8:Nx w7 w8:=by rw [← hw8];exact nx0 _ _
         have HN8:Hid (Nx w5 w8):=HN7.out.trans hn8
         have c3h:=c3.out w8 gz HN8.out hbz
         have C3:=Lib.hid c3h
         clear l0 l1 l2 hn7 hn8 hbz c3h
         have l0:w7.cell? ⟨gx,0,none⟩=some (.int .i64 KK):=(HBX.out.below HN7.out).cell 0
         have l1:w7.cell? ⟨gx,1,none⟩=some (.string ⟨#[]⟩):=(HBX.out.below HN7.out).cell 1
         have l2:w7.cell? ⟨gx,2,none⟩=some (.slice A6 4 m6):=(HBX.out.below HN7.out).cell 2
         go_wp2_with fail
         refine C3.out.mono ?_;rintro e w9 ⟨rfl,hn9⟩
         have HND:Hid (Nx w w9):=HNW.out.trans (HN8.out.trans hn9)
         clear l0 l1 l2 hn9
         go_wp2_with fail
         go_ret
         exact ⟨rfl,HND.out⟩
      ·rw [show ((1:Nat):Int)=1 from rfl] at ht4
       cases B with
       | false =>
        have HWN:wantU 1 n (idL l n)=false:=by unfold wantU;rw [HBB.out,Bool.false_and]
        go_upto_region 29 with (fail)
        have c1:Hid (∀ wx,Nx w5 wx→Calls Tryd.prog 9 #[.agg #[.slice none 0 0,.slice none 0 0,.slice none 0 0],.agg #[.int .i64 KK,.string ⟨#[]⟩,.slice A6 4 m6],.agg #[.int .i64 12,.int .i64 0,.string ⟨#[]⟩,.slice LA n lc,.slice IA n ic]] wx fun e w'=>e = .returned (.bool false)∧Nx wx w'):=fun wx hx=>by
         have h:=HF1.out wx hx
         rw [HWN] at h
         exact h
        clear HWN
        have l0:w5.cell? ⟨gx,0,none⟩=some (.int .i64 KK):=HBX.out.cell 0
        have l1:w5.cell? ⟨gx,1,none⟩=some (.string ⟨#[]⟩):=HBX.out.cell 1
        have l2:w5.cell? ⟨gx,2,none⟩=some (.slice A6 4 m6):=HBX.out.cell 2
        have v0:w5.cell? ⟨g,0,none⟩=some (.int .i64 12):=HBV.out.cell 0
        have v1:w5.cell? ⟨g,1,none⟩=some (.int .i64 0):=HBV.out.cell 1
        have v2:w5.cell? ⟨g,2,none⟩=some (.string ⟨#[]⟩):=HBV.out.cell 2
        have v3:w5.cell? ⟨g,3,none⟩=some (.slice LA n lc):=HBV.out.cell 3
        have v4:w5.cell? ⟨g,4,none⟩=some (.slice IA n ic):=HBV.out.cell 4
        go_wp2_with fail
        refine (c1.out w5 (Nx.refl _)).mono ?_;rintro e w6 ⟨rfl,hn6⟩
        have HN6:=Lib.hid hn6
        clear l0 l1 l2 v0 v1 v2 v3 v4 hn6
        have l0:w6.cell? ⟨gx,0,none⟩=some (.int .i64 KK):=(HBX.out.below HN6.out).cell 0
        have l1:w6.cell? ⟨gx,1,none⟩=some (.string ⟨#[]⟩):=(HBX.out.below HN6.out).cell 1
        have l2:w6.cell? ⟨gx,2,none⟩=some (.slice A6 4 m6):=(HBX.out.below HN6.out).cell 2
        go_wp2_with fail
        refine (c2.out w6 HN6.out).mono ?_;rintro e w7 ⟨rfl,hn7⟩
        have HN7:Hid (Nx w5 w7):=HN6.out.trans hn7
        obtain ⟨gz,hgz⟩:∃ g,w7.heap.size=g:=⟨_,rfl⟩
        obtain ⟨w8,hw8⟩:∃ x,w7.alloc (.cells #[.int .i64 2] 3)=x:=⟨_,rfl⟩
        have hbz:Blk w8 gz gz #[.int .i64 2] 3:=by rw [← hw8,← hgz];exact Blk.new w7 _ _
        have hn8:Nx w7 w8:=by rw [← hw8];exact nx0 _ _
        have HN8:Hid (Nx w5 w8):=HN7.out.trans hn8
        have c3h:=c3.out w8 gz HN8.out hbz
        have C3:=Lib.hid c3h
        clear l0 l1 l2 hn7 hn8 hbz c3h
        have l0:w7.cell? ⟨gx,0,none⟩=some (.int .i64 KK):=(HBX.out.below HN7.out).cell 0
        have l1:w7.cell? ⟨gx,1,none⟩=some (.string ⟨#[]⟩):=(HBX.out.below HN7.out).cell 1
        have l2:w7.cell? ⟨gx,2,none⟩=some (.slice A6 4 m6):=(HBX.out.below HN7.out).cell 2
        go_wp2_with fail
        refine C3.out.mono ?_;rintro e w9 ⟨rfl,hn9⟩
        have HND:Hid (Nx w w9):=HNW.out.trans (HN8.out.trans hn9)
        clear l0 l1 l2 hn9
        go_wp2_with fail
        go_ret
        exact ⟨rfl,HND.out⟩
       | true =>
        by_cases hnn:n=1
        ·have z1:((n:Int) == 1)=true:=by rw [beq_iff_eq];omega
         have z2:((n:Int)=1):=by omega
         have HWN:wantU 1 n (idL l n)=true:=by unfold wantU;rw [HBB.out,Bool.true_and,if_pos rfl,decide_eq_true hnn]
         clear hnn
         go_upto_region 29 with (fail)
         have c1:Hid (∀ wx,Nx w5 wx→Calls Tryd.prog 9 #[.agg #[.slice none 0 0,.slice none 0 0,.slice none 0 0],.agg #[.int .i64 KK,.string ⟨#[]⟩,.slice A6 4 m6],.agg #[.int .i64 12,.int .i64 0,.string ⟨#[]⟩,.slice LA n lc,.slice IA n ic]] wx fun e w'=>e = .returned (.bool true)∧Nx wx w'):=fun wx hx=>by
          have h:=HF1.out wx hx
          rw [HWN] at h
          exact h
         clear HWN z1 z2
         have l0:w5.cell? ⟨gx,0,none⟩=some (.int .i64 KK):=HBX.out.cell 0
         have l1:w5.cell? ⟨gx,1,none⟩=some (.string ⟨#[]⟩):=HBX.out.cell 1
         have l2:w5.cell? ⟨gx,2,none⟩=some (.slice A6 4 m6):=HBX.out.cell 2
         have v0:w5.cell? ⟨g,0,none⟩=some (.int .i64 12):=HBV.out.cell 0
         have v1:w5.cell? ⟨g,1,none⟩=some (.int .i64 0):=HBV.out.cell 1
         have v2:w5.cell? ⟨g,2,none⟩=some (.string ⟨#[]⟩):=HBV.out.cell 2
         have v3:w5.cell? ⟨g,3,none⟩=some (.slice LA n lc):=HBV.out.cell 3
         have v4:w5.cell? ⟨g,4,none⟩=some (.slice IA n ic):=HBV.out.cell 4
         go_wp2_with fail
         refine (c1.out w5 (Nx.refl _)).mono ?_;rintro e w6 ⟨rfl,hn6⟩
         have HN6:=Lib.hid hn6
         clear l0 l1 l2 v0 v1 v2 v3 v4 hn6
         have l0:w6.cell? ⟨gx,0,none⟩=some (.int .i64 KK):=(HBX.out.below HN6.out).cell 0
         have l1:w6.cell? ⟨gx,1,none⟩=some (.string ⟨#[]⟩):=(HBX.out.below HN6.out).cell 1
         have l2:w6.cell? ⟨gx,2,none⟩=some (.slice A6 4 m6):=(HBX.out.below HN6.out).cell 2
         go_wp2_with fail
         refine (c2.out w6 HN6.out).mono ?_;rintro e w7 ⟨rfl,hn7⟩
         have HN7:Hid (Nx w5 w7):=HN6.out.trans hn7
         obtain ⟨gz,hgz⟩:∃ g,w7.heap.size=g:=⟨_,rfl⟩
         obtain ⟨w8,hw8⟩:∃ x,w7.alloc (.cells #[.int .i64 2] 3)=x:=⟨_,rfl⟩
         have hbz:Blk w8 gz gz #[.int .i64 2] 3:=by rw [← hw8,← hgz];exact Blk.new w7 _ _
         have hn8:Nx w7 w8:=by rw [← hw8];exact nx0 _ _
         have HN8:Hid (Nx w5 w8):=HN7.out.trans hn8
         have c3h:=c3.out w8 gz HN8.out hbz
         have C3:=Lib.hid c3h
         clear l0 l1 l2 hn7 hn8 hbz c3h
         have l0:w7.cell? ⟨gx,0,none⟩=some (.int .i64 KK):=(HBX.out.below HN7.out).cell 0
         have l1:w7.cell? ⟨gx,1,none⟩=some (.string ⟨#[]⟩):=(HBX.out.below HN7.out).cell 1
         have l2:w7.cell? ⟨gx,2,none⟩=some (.slice A6 4 m6):=(HBX.out.below HN7.out).cell 2
         go_wp2_with fail
         refine C3.out.mono ?_;rintro e w9 ⟨rfl,hn9⟩
         have HND:Hid (Nx w w9):=HNW.out.trans (HN8.out.trans hn9)
         clear l0 l1 l2 hn9
         go_wp2_with fail
         go_ret
         exact ⟨rfl,HND.out⟩
        ·have z1:((n:Int) == 1)=false:=by rw [beq_eq_false_iff_ne];omega
         have z2:¬ ((n:Int)=1):=by omega
         have HWN:wantU 1 n (idL l n)=false:=by unfold wantU;rw [HBB.out,Bool.true_and,if_pos rfl,decide_eq_false hnn]
         clear hnn
         go_upto_region 29 with (fail)
         have c1:Hid (∀ wx,Nx w5 wx→Calls Tryd.prog 9 #[.agg #[.slice none 0 0,.slice none 0 0,.slice none 0 0],.agg #[.int .i64 KK,.string ⟨#[]⟩,.slice A6 4 m6],.agg #[.int .i64 12,.int .i64 0,.string ⟨#[]⟩,.slice LA n lc,.slice IA n ic]] wx fun e w'=>e = .returned (.bool false)∧Nx wx w'):=fun wx hx=>by
          have h:=HF1.out wx hx
          rw [HWN] at h
          exact h
         clear HWN z1 z2
         have l0:w5.cell? ⟨gx,0,none⟩=some (.int .i64 KK):=HBX.out.cell 0
         have l1:w5.cell? ⟨gx,1,none⟩=some (.string ⟨#[]⟩):=HBX.out.cell 1
         have l2:w5.cell? ⟨gx,2,none⟩=some (.slice A6 4 m6):=HBX.out.cell 2
         have v0:w5.cell? ⟨g,0,none⟩=some (.int .i64 12):=HBV.out.cell 0
         have v1:w5.cell? ⟨g,1,none⟩=some (.int .i64 0):=HBV.out.cell 1
         have v2:w5.cell? ⟨g,2,none⟩=some (.string ⟨#[]⟩):=HBV.out.cell 2
         have v3:w5.cell? ⟨g,3,none⟩=some (.slice LA n lc):=HBV.out.cell 3
         have v4:w5.cell? ⟨g,4,none⟩=some (.slice IA n ic):=HBV.out.cell 4
         go_wp2_with fail
         refine (c1.out w5 (Nx.refl _)).mono ?_;rintro e w6 ⟨rfl,hn6⟩
         have HN6:=Lib.hid hn6
         clear l0 l1 l2 v0 v1 v2 v3 v4 hn6
         have l0:w6.cell? ⟨gx,0,none⟩=some (.int .i64 KK):=(HBX.out.below HN6.out).cell 0
         have l1:w6.cell? ⟨gx,1,none⟩=some (.string ⟨#[]⟩):=(HBX.out.below HN6.out).cell 1
         have l2:w6.cell? ⟨gx,2,none⟩=some (.slice A6 4 m6):=(HBX.out.below HN6.out).cell 2
         go_wp2_with fail
         refine (c2.out w6 HN6.out).mono ?_;rintro e w7 ⟨rfl,hn7⟩
         have HN7:Hid (Nx w5 w7):=HN6.out.trans hn7
         obtain ⟨gz,hgz⟩:∃ g,w7.heap.size=g:=⟨_,rfl⟩
         obtain ⟨w8,hw8⟩:∃ x,w7.alloc (.cells #[.int .i64 2] 3)=x:=⟨_,rfl⟩
         have hbz:Blk w8 gz gz #[.int .i64 2] 3:=by rw [← hw8,← hgz];exact Blk.new w7 _ _
         have hn8:Nx w7 w8:=by rw [← hw8];exact nx0 _ _
         have HN8:Hid (Nx w5 w8):=HN7.out.trans hn8
         have c3h:=c3.out w8 gz HN8.out hbz
         have C3:=Lib.hid c3h
         clear l0 l1 l2 hn7 hn8 hbz c3h
         have l0:w7.cell? ⟨gx,0,none⟩=some (.int .i64 KK):=(HBX.out.below HN7.out).cell 0
         have l1:w7.cell? ⟨gx,1,none⟩=some (.string ⟨#[]⟩):=(HBX.out.below HN7.out).cell 1
         have l2:w7.cell? ⟨gx,2,none⟩=some (.slice A6 4 m6):=(HBX.out.below HN7.out).cell 2
         go_wp2_with fail
         refine C3.out.mono ?_;rintro e w9 ⟨rfl,hn9⟩
         have HND:Hid (Nx w w9):=HNW.out.trans (HN8.out.trans hn9)
         clear l0 l1 l2 hn9
         go_wp2_with fail
         go_ret
         exact ⟨rfl,HND.out⟩
      ·rw [show ((2:Nat):Int)=2 from rfl] at ht4
       cases B with
       | false =>
        have HWN:wantU 2 n (idL l n)=false:=by unfold wantU;rw [HBB.out,Bool.false_and]
        go_upto_region 29 with (fail)
        have c1:Hid (∀ wx,Nx w5 wx→Calls Tryd.prog 9 #[.agg #[.slice none 0 0,.slice none 0 0,.slice none 0 0],.agg #[.int .i64 KK,.string ⟨#[]⟩,.slice A6 4 m6],.agg #[.int .i64 12,.int .i64 0,.string ⟨#[]⟩,.slice LA n lc,.slice IA n ic]] wx fun e w'=>e = .returned (.bool false)∧Nx wx w'):=fun wx hx=>by
         have h:=HF1.out wx hx
         rw [HWN] at h
         exact h
        clear HWN
        have l0:w5.cell? ⟨gx,0,none⟩=some (.int .i64 KK):=HBX.out.cell 0
        have l1:w5.cell? ⟨gx,1,none⟩=some (.string ⟨#[]⟩):=HBX.out.cell 1
        have l2:w5.cell? ⟨gx,2,none⟩=some (.slice A6 4 m6):=HBX.out.cell 2
        have v0:w5.cell? ⟨g,0,none⟩=some (.int .i64 12):=HBV.out.cell 0
        have v1:w5.cell? ⟨g,1,none⟩=some (.int .i64 0):=HBV.out.cell 1
        have v2:w5.cell? ⟨g,2,none⟩=some (.string ⟨#[]⟩):=HBV.out.cell 2
        have v3:w5.cell? ⟨g,3,none⟩=some (.slice LA n lc):=HBV.out.cell 3
        have v4:w5.cell? ⟨g,4,none⟩=some (.slice IA n ic):=HBV.out.cell 4
        go_wp2_with fail
        refine (c1.out w5 (Nx.refl _)).mono ?_;rintro e w6 ⟨rfl,hn6⟩
        have HN6:=Lib.hid hn6
        clear l0 l1 l2 v0 v1 v2 v3 v4 hn6
        have l0:w6.cell? ⟨gx,0,none⟩=some (.int .i64 KK):=(HBX.out.below HN6.out).cell 0
        have l1:w6.cell? ⟨gx,1,none⟩=some (.string ⟨#[]⟩):=(HBX.out.below HN6.out).cell 1
        have l2:w6.cell? ⟨gx,2,none⟩=some (.slice A6 4 m6):=(HBX.out.below HN6.out).cell 2
        go_wp2_with fail
        refine (c2.out w6 HN6.out).mono ?_;rintro e w7 ⟨rfl,hn7⟩
        have HN7:Hid (Nx w5 w7):=HN6.out.trans hn7
        obtain ⟨gz,hgz⟩:∃ g,w7.heap.size=g:=⟨_,rfl⟩
        obtain ⟨w8,hw8⟩:∃ x,w7.alloc (.cells #[.int .i64 2] 3)=x:=⟨_,rfl⟩
        have hbz:Blk w8 gz gz #[.int .i64 2] 3:=by rw [← hw8,← hgz];exact Blk.new w7 _ _
        have hn8:Nx w7 w8:=by rw [← hw8];exact nx0 _ _
        have HN8:Hid (Nx w5 w8):=HN7.out.trans hn8
        have c3h:=c3.out w8 gz HN8.out hbz
        have C3:=Lib.hid c3h
        clear l0 l1 l2 hn7 hn8 hbz c3h
        have l0:w7.cell? ⟨gx,0,none⟩=some (.int .i64 KK):=(HBX.out.below HN7.out).cell 0
        have l1:w7.cell? ⟨gx,1,none⟩=some (.string ⟨#[]⟩):=(HBX.out.below HN7.out).cell 1
        have l2:w7.cell? ⟨gx,2,none⟩=some (.slice A6 4 m6):=(HBX.out.below HN7.out).cell 2
        go_wp2_with fail
        refine C3.out.mono ?_;rintro e w9 ⟨rfl,hn9⟩
        have HND:Hid (Nx w w9):=HNW.out.trans (HN8.out.trans hn9)
        clear l0 l1 l2 hn9
        go_wp2_with fail
        go_ret
        exact ⟨rfl,HND.out⟩
       | true =>
        cases D2 with
        | true =>
         have HWN:wantU 2 n (idL l n)=true:=by unfold wantU;rw [HBB.out,Bool.true_and,if_neg (by decide),if_neg (by decide),HDD.out]
         go_upto_region 29 with (fail)
         have c1:Hid (∀ wx,Nx w5 wx→Calls Tryd.prog 9 #[.agg #[.slice none 0 0,.slice none 0 0,.slice none 0 0],.agg #[.int .i64 KK,.string ⟨#[]⟩,.slice A6 4 m6],.agg #[.int .i64 12,.int .i64 0,.string ⟨#[]⟩,.slice LA n lc,.slice IA n ic]] wx fun e w'=>e = .returned (.bool true)∧Nx wx w'):=fun wx hx=>by
          have h:=HF1.out wx hx
          rw [HWN] at h
          exact h
         clear HWN
         have l0:w5.cell? ⟨gx,0,none⟩=some (.int .i64 KK):=HBX.out.cell 0
         have l1:w5.cell? ⟨gx,1,none⟩=some (.string ⟨#[]⟩):=HBX.out.cell 1
         have l2:w5.cell? ⟨gx,2,none⟩=some (.slice A6 4 m6):=HBX.out.cell 2
         have v0:w5.cell? ⟨g,0,none⟩=some (.int .i64 12):=HBV.out.cell 0
         have v1:w5.cell? ⟨g,1,none⟩=some (.int .i64 0):=HBV.out.cell 1
         have v2:w5.cell? ⟨g,2,none⟩=some (.string ⟨#[]⟩):=HBV.out.cell 2
         have v3:w5.cell? ⟨g,3,none⟩=some (.slice LA n lc):=HBV.out.cell 3
         have v4:w5.cell? ⟨g,4,none⟩=some (.slice IA n ic):=HBV.out.cell 4
         go_wp2_with fail
         refine (c1.out w5 (Nx.refl _)).mono ?_;rintro e w6 ⟨rfl,hn6⟩
         have HN6:=Lib.hid hn6
         clear l0 l1 l2 v0 v1 v2 v3 v4 hn6
         have l0:w6.cell? ⟨gx,0,none⟩=some (.int .i64 KK):=(HBX.out.below HN6.out).cell 0
         have l1:w6.cell? ⟨gx,1,none⟩=some (.string ⟨#[]⟩):=(HBX.out.below HN6.out).cell 1
         have l2:w6.cell? ⟨gx,2,none⟩=some (.slice A6 4 m6):=(HBX.out.below HN6.out).cell 2
         go_wp2_with fail
         refine (c2.out w6 HN6.out).mono ?_;rintro e w7 ⟨rfl,hn7⟩
         have HN7:Hid (Nx w5 w7):=HN6.out.trans hn7
         obtain ⟨gz,hgz⟩:∃ g,w7.heap.size=g:=⟨_,rfl⟩
         obtain ⟨w8,hw8⟩:∃ x,w7.alloc (.cells #[.int .i64 2] 3)=x:=⟨_,rfl⟩
         have hbz:Blk w8 gz gz #[.int .i64 2] 3:=by rw [← hw8,← hgz];exact Blk.new w7 _ _
         have hn8:Nx w7 w8:=by rw [← hw8];exact nx0 _ _
         have HN8:Hid (Nx w5 w8):=HN7.out.trans hn8
         have c3h:=c3.out w8 gz HN8.out hbz
         have C3:=Lib.hid c3h
         clear l0 l1 l2 hn7 hn8 hbz c3h
         have l0:w7.cell? ⟨gx,0,none⟩=some (.int .i64 KK):=(HBX.out.below HN7.out).cell 0
         have l1:w7.cell? ⟨gx,1,none⟩=some (.string ⟨#[]⟩):=(HBX.out.below HN7.out).cell 1
         have l2:w7.cell? ⟨gx,2,none⟩=some (.slice A6 4 m6):=(HBX.out.below HN7.out).cell 2
         go_wp2_with fail
         refine C3.out.mono ?_;rintro e w9 ⟨rfl,hn9⟩
         have HND:Hid (Nx w w9):=HNW.out.trans (HN8.out.trans hn9)
         clear l0 l1 l2 hn9
         go_wp2_with fail
         go_ret
         exact ⟨rfl,HND.out⟩
        | false =>
         have HWN:wantU 2 n (idL l n)=false:=by unfold wantU;rw [HBB.out,Bool.true_and,if_neg (by decide),if_neg (by decide),HDD.out]
         go_upto_region 29 with (fail)
         have c1:Hid (∀ wx,Nx w5 wx→Calls Tryd.prog 9 #[.agg #[.slice none 0 0,.slice none 0 0,.slice none 0 0],.agg #[.int .i64 KK,.string ⟨#[]⟩,.slice A6 4 m6],.agg #[.int .i64 12,.int .i64 0,.string ⟨#[]⟩,.slice LA n lc,.slice IA n ic]] wx fun e w'=>e = .returned (.bool false)∧Nx wx w'):=fun wx hx=>by
          have h:=HF1.out wx hx
          rw [HWN] at h
          exact h
         clear HWN
         have l0:w5.cell? ⟨gx,0,none⟩=some (.int .i64 KK):=HBX.out.cell 0
         have l1:w5.cell? ⟨gx,1,none⟩=some (.string ⟨#[]⟩):=HBX.out.cell 1
         have l2:w5.cell? ⟨gx,2,none⟩=some (.slice A6 4 m6):=HBX.out.cell 2
         have v0:w5.cell? ⟨g,0,none⟩=some (.int .i64 12):=HBV.out.cell 0
         have v1:w5.cell? ⟨g,1,none⟩=some (.int .i64 0):=HBV.out.cell 1
         have v2:w5.cell? ⟨g,2,none⟩=some (.string ⟨#[]⟩):=HBV.out.cell 2
         have v3:w5.cell? ⟨g,3,none⟩=some (.slice LA n lc):=HBV.out.cell 3
         have v4:w5.cell? ⟨g,4,none⟩=some (.slice IA n ic):=HBV.out.cell 4
         go_wp2_with fail
         refine (c1.out w5 (Nx.refl _)).mono ?_;rintro e w6 ⟨rfl,hn6⟩
         have HN6:=Lib.hid hn6
         clear l0 l1 l2 v0 v1 v2 v3 v4 hn6
         have l0:w6.cell? ⟨gx,0,none⟩=some (.int .i64 KK):=(HBX.out.below HN6.out).cell 0
         have l1:w6.cell? ⟨gx,1,none⟩=some (.string ⟨#[]⟩):=(HBX.out.below HN6.out).cell 1
         have l2:w6.cell? ⟨gx,2,none⟩=some (.slice A6 4 m6):=(HBX.out.below HN6.out).cell 2
         go_wp2_with fail
         refine (c2.out w6 HN6.out).mono ?_;rintro e w7 ⟨rfl,hn7⟩
         have HN7:Hid (Nx w5 w7):=HN6.out.trans hn7
         obtain ⟨gz,hgz⟩:∃ g,w7.heap.size=g:=⟨_,rfl⟩
         obtain ⟨w8,hw8⟩:∃ x,w7.alloc (.cells #[.int .i64 2] 3)=x:=⟨_,rfl⟩
         have hbz:Blk w8 gz gz #[.int .i64 2] 3:=by rw [← hw8,← hgz];exact Blk.new w7 _ _
         have hn8:Nx w7 w8:=by rw [← hw8];exact nx0 _ _
         have HN8:Hid (Nx w5 w8):=HN7.out.trans hn8
         have c3h:=c3.out w8 gz HN8.out hbz
         have C3:=Lib.hid c3h
         clear l0 l1 l2 hn7 hn8 hbz c3h
         have l0:w7.cell? ⟨gx,0,none⟩=some (.int .i64 KK):=(HBX.out.below HN7.out).cell 0
         have l1:w7.cell? ⟨gx,1,none⟩=some (.string ⟨#[]⟩):=(HBX.out.below HN7.out).cell 1
         have l2:w7.cell? ⟨gx,2,none⟩=some (.slice A6 4 m6):=(HBX.out.below HN7.out).cell 2
         go_wp2_with fail
         refine C3.out.mono ?_;rintro e w9 ⟨rfl,hn9⟩
         have HND:Hid (Nx w w9):=HNW.out.trans (HN8.out.trans hn9)
         clear l0 l1 l2 hn9
         go_wp2_with fail
         go_ret
         exact ⟨rfl,HND.out⟩
      ·rw [show ((3:Nat):Int)=3 from rfl] at ht4
       cases B with
       | false =>
        have HWN:wantU 3 n (idL l n)=false:=by unfold wantU;rw [HBB.out,Bool.false_and]
        go_upto_region 29 with (fail)
        have c1:Hid (∀ wx,Nx w5 wx→Calls Tryd.prog 9 #[.agg #[.slice none 0 0,.slice none 0 0,.slice none 0 0],.agg #[.int .i64 KK,.string ⟨#[]⟩,.slice A6 4 m6],.agg #[.int .i64 12,.int .i64 0,.string ⟨#[]⟩,.slice LA n lc,.slice IA n ic]] wx fun e w'=>e = .returned (.bool false)∧Nx wx w'):=fun wx hx=>by
         have h:=HF1.out wx hx
         rw [HWN] at h
         exact h
        clear HWN
        have l0:w5.cell? ⟨gx,0,none⟩=some (.int .i64 KK):=HBX.out.cell 0
        have l1:w5.cell? ⟨gx,1,none⟩=some (.string ⟨#[]⟩):=HBX.out.cell 1
        have l2:w5.cell? ⟨gx,2,none⟩=some (.slice A6 4 m6):=HBX.out.cell 2
        have v0:w5.cell? ⟨g,0,none⟩=some (.int .i64 12):=HBV.out.cell 0
        have v1:w5.cell? ⟨g,1,none⟩=some (.int .i64 0):=HBV.out.cell 1
        have v2:w5.cell? ⟨g,2,none⟩=some (.string ⟨#[]⟩):=HBV.out.cell 2
        have v3:w5.cell? ⟨g,3,none⟩=some (.slice LA n lc):=HBV.out.cell 3
        have v4:w5.cell? ⟨g,4,none⟩=some (.slice IA n ic):=HBV.out.cell 4
        go_wp2_with fail
        refine (c1.out w5 (Nx.refl _)).mono ?_;rintro e w6 ⟨rfl,hn6⟩
        have HN6:=Lib.hid hn6
        clear l0 l1 l2 v0 v1 v2 v3 v4 hn6
        have l0:w6.cell? ⟨gx,0,none⟩=some (.int .i64 KK):=(HBX.out.below HN6.out).cell 0
        have l1:w6.cell? ⟨gx,1,none⟩=some (.string ⟨#[]⟩):=(HBX.out.below HN6.out).cell 1
        have l2:w6.cell? ⟨gx,2,none⟩=some (.slice A6 4 m6):=(HBX.out.below HN6.out).cell 2
        go_wp2_with fail
        refine (c2.out w6 HN6.out).mono ?_;rintro e w7 ⟨rfl,hn7⟩
        have HN7:Hid (Nx w5 w7):=HN6.out.trans hn7
        obtain ⟨gz,hgz⟩:∃ g,w7.heap.size=g:=⟨_,rfl⟩
        obtain ⟨w8,hw8⟩:∃ x,w7.alloc (.cells #[.int .i64 2] 3)=x:=⟨_,rfl⟩
        have hbz:Blk w8 gz gz #[.int .i64 2] 3:=by rw [← hw8,← hgz];exact Blk.new w7 _ _
        have hn8:Nx w7 w8:=by rw [← hw8];exact nx0 _ _
        have HN8:Hid (Nx w5 w8):=HN7.out.trans hn8
        have c3h:=c3.out w8 gz HN8.out hbz
        have C3:=Lib.hid c3h
        clear l0 l1 l2 hn7 hn8 hbz c3h
        have l0:w7.cell? ⟨gx,0,none⟩=some (.int .i64 KK):=(HBX.out.below HN7.out).cell 0
        have l1:w7.cell? ⟨gx,1,none⟩=some (.string ⟨#[]⟩):=(HBX.out.below HN7.out).cell 1
        have l2:w7.cell? ⟨gx,2,none⟩=some (.slice A6 4 m6):=(HBX.out.below HN7.out).cell 2
        go_wp2_with fail
        refine C3.out.mono ?_;rintro e w9 ⟨rfl,hn9⟩
        have HND:Hid (Nx w w9):=HNW.out.trans (HN8.out.trans hn9)
        clear l0 l1 l2 hn9
        go_wp2_with fail
        go_ret
        exact ⟨rfl,HND.out⟩
       | true =>
        by_cases hnn:n≤1
        ·have z1:decide ((n:Int)≤1)=true:=decide_eq_true (by omega)
         have z2:((n:Int)≤1):=by omega
         have HWN:wantU 3 n (idL l n)=true:=by unfold wantU;rw [HBB.out,Bool.true_and,if_neg (by decide),if_pos rfl,decide_eq_true hnn]
         clear hnn
         go_upto_region 29 with (fail)
         have c1:Hid (∀ wx,Nx w5 wx→Calls Tryd.prog 9 #[.agg #[.slice none 0 0,.slice none 0 0,.slice none 0 0],.agg #[.int .i64 KK,.string ⟨#[]⟩,.slice A6 4 m6],.agg #[.int .i64 12,.int .i64 0,.string ⟨#[]⟩,.slice LA n lc,.slice IA n ic]] wx fun e w'=>e = .returned (.bool true)∧Nx wx w'):=fun wx hx=>by
          have h:=HF1.out wx hx
          rw [HWN] at h
          exact h
         clear HWN z1 z2
         have l0:w5.cell? ⟨gx,0,none⟩=some (.int .i64 KK):=HBX.out.cell 0
         have l1:w5.cell? ⟨gx,1,none⟩=some (.string ⟨#[]⟩):=HBX.out.cell 1
         have l2:w5.cell? ⟨gx,2,none⟩=some (.slice A6 4 m6):=HBX.out.cell 2
         have v0:w5.cell? ⟨g,0,none⟩=some (.int .i64 12):=HBV.out.cell 0
         have v1:w5.cell? ⟨g,1,none⟩=some (.int .i64 0):=HBV.out.cell 1
         have v2:w5.cell? ⟨g,2,none⟩=some (.string ⟨#[]⟩):=HBV.out.cell 2
         have v3:w5.cell? ⟨g,3,none⟩=some (.slice LA n lc):=HBV.out.cell 3
         have v4:w5.cell? ⟨g,4,none⟩=some (.slice IA n ic):=HBV.out.cell 4
         go_wp2_with fail
         refine (c1.out w5 (Nx.refl _)).mono ?_;rintro e w6 ⟨rfl,hn6⟩
         have HN6:=Lib.hid hn6
         clear l0 l1 l2 v0 v1 v2 v3 v4 hn6
         have l0:w6.cell? ⟨gx,0,none⟩=some (.int .i64 KK):=(HBX.out.below HN6.out).cell 0
         have l1:w6.cell? ⟨gx,1,none⟩=some (.string ⟨#[]⟩):=(HBX.out.below HN6.out).cell 1
         have l2:w6.cell? ⟨gx,2,none⟩=some (.slice A6 4 m6):=(HBX.out.below HN6.out).cell 2
         go_wp2_with fail
         refine (c2.out w6 HN6.out).mono ?_;rintro e w7 ⟨rfl,hn7⟩
         have HN7:Hid (Nx w5 w7):=HN6.out.trans hn7
         obtain ⟨gz,hgz⟩:∃ g,w7.heap.size=g:=⟨_,rfl⟩
         obtain ⟨w8,hw8⟩:∃ x,w7.alloc (.cells #[.int .i64 2] 3)=x:=⟨_,rfl⟩
         have hbz:Blk w8 gz gz #[.int .i64 2] 3:=by rw [← hw8,← hgz];exact Blk.new w7 _ _
         have hn8:Nx w7 w8:=by rw [← hw8];exact nx0 _ _
         have HN8:Hid (Nx w5 w8):=HN7.out.trans hn8
         have c3h:=c3.out w8 gz HN8.out hbz
         have C3:=Lib.hid c3h
         clear l0 l1 l2 hn7 hn8 hbz c3h
         have l0:w7.cell? ⟨gx,0,none⟩=some (.int .i64 KK):=(HBX.out.below HN7.out).cell 0
         have l1:w7.cell? ⟨gx,1,none⟩=some (.string ⟨#[]⟩):=(HBX.out.below HN7.out).cell 1
         have l2:w7.cell? ⟨gx,2,none⟩=some (.slice A6 4 m6):=(HBX.out.below HN7.out).cell 2
         go_wp2_with fail
         refine C3.out.mono ?_;rintro e w9 ⟨rfl,hn9⟩
         have HND:Hid (Nx w w9):=HNW.out.trans (HN8.out.trans hn9)
         clear l0 l1 l2 hn9
         go_wp2_with fail
         go_ret
         exact ⟨rfl,HND.out⟩
        ·have z1:decide ((n:Int)≤1)=false:=decide_eq_false (by omega)
         have z2:¬ ((n:Int)≤1):=by omega
         have HWN:wantU 3 n (idL l n)=false:=by unfold wantU;rw [HBB.out,Bool.true_and,if_neg (by decide),if_pos rfl,decide_eq_false hnn]
         clear hnn
         go_upto_region 29 with (fail)
         have c1:Hid (∀ wx,Nx w5 wx→Calls Tryd.prog 9 #[.agg #[.slice none 0 0,.slice none 0 0,.slice none 0 0],.agg #[.int .i64 KK,.string ⟨#[]⟩,.slice A6 4 m6],.agg #[.int .i64 12,.int .i64 0,.string ⟨#[]⟩,.slice LA n lc,.slice IA n ic]] wx fun e w'=>e = .returned (.bool false)∧Nx wx w'):=fun wx hx=>by
          have h:=HF1.out wx hx
          rw [HWN] at h
          exact h
         clear HWN z1 z2
         have l0:w5.cell? ⟨gx,0,none⟩=some (.int .i64 KK):=HBX.out.cell 0
         have l1:w5.cell? ⟨gx,1,none⟩=some (.string ⟨#[]⟩):=HBX.out.cell 1
         have l2:w5.cell? ⟨gx,2,none⟩=some (.slice A6 4 m6):=HBX.out.cell 2
         have v0:w5.cell? ⟨g,0,none⟩=some (.int .i64 12):=HBV.out.cell 0
         have v1:w5.cell? ⟨g,1,none⟩=some (.int .i64 0):=HBV.out.cell 1
         have v2:w5.cell? ⟨g,2,none⟩=some (.string ⟨#[]⟩):=HBV.out.cell 2
         have v3:w5.cell? ⟨g,3,none⟩=some (.slice LA n lc):=HBV.out.cell 3
         have v4:w5.cell? ⟨g,4,none⟩=some (.slice IA n ic):=HBV.out.cell 4
         go_wp2_with fail
         refine (c1.out w5 (Nx.refl _)).mono ?_;rintro e w6 ⟨rfl,hn6⟩
         have HN6:=Lib.hid hn6
         clear l0 l1 l2 v0 v1 v2 v3 v4 hn6
         have l0:w6.cell? ⟨gx,0,none⟩=some (.int .i64 KK):=(HBX.out.below HN6.out).cell 0
         have l1:w6.cell? ⟨gx,1,none⟩=some (.string ⟨#[]⟩):=(HBX.out.below HN6.out).cell 1
         have l2:w6.cell? ⟨gx,2,none⟩=some (.slice A6 4 m6):=(HBX.out.below HN6.out).cell 2
         go_wp2_with fail
         refine (c2.out w6 HN6.out).mono ?_;rintro e w7 ⟨rfl,hn7⟩
         have HN7:Hid (Nx w5 w7):=HN6.out.trans hn7
         obtain ⟨gz,hgz⟩:∃ g,w7.heap.size=g:=⟨_,rfl⟩
         obtain ⟨w8,hw8⟩:∃ x,w7.alloc (.cells #[.int .i64 2] 3)=x:=⟨_,rfl⟩
         have hbz:Blk w8 gz gz #[.int .i64 2] 3:=by rw [← hw8,← hgz];exact Blk.new w7 _ _
         have hn8:Nx w7 w8:=by rw [← hw8];exact nx0 _ _
         have HN8:Hid (Nx w5 w8):=HN7.out.trans hn8
         have c3h:=c3.out w8 gz HN8.out hbz
         have C3:=Lib.hid c3h
         clear l0 l1 l2 hn7 hn8 hbz c3h
         have l0:w7.cell? ⟨gx,0,none⟩=some (.int .i64 KK):=(HBX.out.below HN7.out).cell 0
         have l1:w7.cell? ⟨gx,1,none⟩=some (.string ⟨#[]⟩):=(HBX.out.below HN7.out).cell 1
         have l2:w7.cell? ⟨gx,2,none⟩=some (.slice A6 4 m6):=(HBX.out.below HN7.out).cell 2
         go_wp2_with fail
         refine C3.out.mono ?_;rintro e w9 ⟨rfl,hn9⟩
         have HND:Hid (Nx w w9):=HNW.out.trans (HN8.out.trans hn9)
         clear l0 l1 l2 hn9
         go_wp2_with fail
         go_ret
         exact ⟨rfl,HND.out⟩
 ·have q1:decide (5<(n:Int))=true:=decide_eq_true (by omega)
  have q2:5<(n:Int):=by omega
  go_wp2_with fail
  go_ret
  exact ⟨rfl,HN1.out⟩
end Go.Proofs.YtnfelopknfdpfaaDoor
