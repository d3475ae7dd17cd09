/- The code's printer: a constant's text, a field. The code's printer: fields in brackets, members, methods. The code's printer: members, methods. -/
import Derived.Test.YtjggghfekakogaaGreatDoorH25
set_option linter.unusedVariables false
set_option linter.unusedSimpArgs false
set_option linter.unnecessarySimpa false
namespace Go.Proofs.YtjggghfekakogaaGreatDoor
open Go.RowKit
set_option maxRecDepth 100000 in
set_option maxHeartbeats 1600000 in
theorem printConst_any {sh:Nat→List UInt8} (hsh:∀ B l,ShowR B l→l=sh B) (n:Nat) (w:World) (P:Nat→Prop) (x:ConS) (c:Con) (ht:Tab w) (hr:RC n w P x c) (hok:prC n c) (hlen:((constF tenS sh n c).length:Int)≤64000) :
  Calls Tryz.prog 25 #[.agg (conA x)] w fun e w'=>e = .returned (.string ⟨(constF tenS sh n c).toArray⟩)∧Nx w w':=by
 obtain ⟨xk,xi,xd,xs,xl⟩:=x
 obtain ⟨A,k,ac,hxl⟩:=hr.slv
 dsimp only at hxl
 subst hxl
 obtain ⟨F,hF⟩:∃ F,Hid (constF tenS sh n c=F):=⟨_,Lib.hid rfl⟩
 rw [hF.out] at hlen ⊢
 have hn0:Nx w (w.alloc (.cells #[.int .i64 (xk:Int),.int .i64 xi,.int .u64 (xd:Int),.string ⟨xs.toArray⟩,.slice A k ac] 48)):=nx0 _ _
 obtain ⟨g,hg⟩:∃ g,w.heap.size=g:=⟨_,rfl⟩
 have hB:=Blk.new w #[.int .i64 (xk:Int),.int .i64 xi,.int .u64 (xd:Int),.string ⟨xs.toArray⟩,.slice A k ac] 48
 rw [hg] at hB
 have HG:=Lib.hid hg
 have hcall:=fun (W:World) (hW:Nx w W)=>appendConst_any hsh n w.heap.size W (.slice none 0 0) [] ⟨xk,xi,xd,xs,.slice A k ac⟩ c (Ob.nil_ hW.size) (fun w' hb=>(TabB.of ht) w' (Below.trans hW hb)) (RC.lasts n ⟨fun g' _ hl=>hW.block g' hl,fun _ _ _ e=>by cases e⟩ hr) hok (by rw [hF.out];simp;omega)
 rw [hF.out] at hcall
 have HC:=Lib.hid hcall
 have HN0:=Lib.hid hn0
 have HB:=Lib.hid hB
 clear hr hok hlen hcall hn0 hB ht
 show Calls _ _ #[.agg #[.int .i64 (xk:Int),.int .i64 xi,.int .u64 (xd:Int),.string ⟨xs.toArray⟩,.slice A k ac]] _ _
 go_enter Tryz.func25,Tryz.ntmps25
 go_upto_region 1 with fail
 generalize World.alloc w _=W at *
 have c0:W.cell? ⟨g,0,none⟩=some (.int .i64 (xk:Int)):=HB.out.cell 0
 have c1:W.cell? ⟨g,1,none⟩=some (.int .i64 xi):=HB.out.cell 1
 have c2:W.cell? ⟨g,2,none⟩=some (.int .u64 (xd:Int)):=HB.out.cell 2
 have c3:W.cell? ⟨g,3,none⟩=some (.string ⟨xs.toArray⟩):=HB.out.cell 3
 have c4:W.cell? ⟨g,4,none⟩=some (.slice A k ac):=HB.out.cell 4
 clear hg
 go_wp2_with fail
 refine (HC.out W HN0.out).mono ?_;rintro e w2 ⟨v2,rfl,ho,hg⟩
 obtain ⟨A2,c2',rfl,h1,h2,hrd⟩:=ho.sl
 rw [List.nil_append] at hrd ⊢
 have HRD:=Lib.hid hrd
 have HNX:=Lib.hid (hg.toNx HN0.out (fun k e=>by cases e))
 clear ho hg hrd h1 h2
 go_wp2_with (refine wpList_str _ rfl _ rfl Tryz.underlying34 Tryz.underlying5 Tryz.underlying9 _ _ _ rfl HRD.out ?_;intro t HT ht1 ht2)
 go_ret
 rw [HT.out]
 exact ⟨rfl,HNX.out⟩
theorem RF.gw {v v':Value} {w w':World} {x:FldS} {c:Fld} (h:RF w (No v) x c) (hg:Gw v w v' w'):RF w' (No v') x c:=RF.lasts hg.mv h
theorem LF.gw {v v' lv:Value} {w w':World} {l:List Fld} (h:LF w (No v) lv l) (hg:Gw v w v' w'):LF w' (No v') lv l:=LF.lasts hg.mv h
set_option maxRecDepth 100000 in
set_option maxHeartbeats 6400000 in
theorem appendField_any {sh:Nat→List UInt8} (hsh:∀ B l,ShowR B l→l=sh B) (B:Nat) (w:World) (v:Value) (xs:List UInt8) (x:FldS) (f:Fld) (hown:Ob B w v xs) (ht:TabB B w) (hr:RF w (No v) x f) (hok:prF f)
  (hlen:(xs.length:Int)+((fieldF tenS sh f).length:Int)≤64000) :
  Calls Tryz.prog 94 #[v,.agg (fldA x)] w fun e w'=>∃ v',e = .returned v'∧Ob B w' v' (xs++fieldF tenS sh f)∧Gw v w v' w':=by
 obtain ⟨xh,xi,xq,xt,xn,xb,⟨ik,im,id,is,il⟩⟩:=x
 obtain ⟨fh,fi,fq,ft,fn,fb,fc⟩:=f
 obtain ⟨h1,h2,h3,h4,h5,h6,hrc⟩:=hr
 dsimp only at h1 h2 h3 h4 h5 h6 hrc
 subst h1 h2 h3 h4 h5 h6
 obtain ⟨⟨hi1,hi2⟩,hpc⟩:=hok
 dsimp only at hi1 hi2 hpc
 obtain ⟨A,k,ac,hxl⟩:=hrc.slv
 dsimp only at hxl
 subst hxl
 obtain ⟨P1,hP1⟩:∃ P:List UInt8,Hid ((if xh=true then tenS xi++[58,32] else [])=P):=⟨_,Lib.hid rfl⟩
 obtain ⟨P2,hP2⟩:∃ P:List UInt8,Hid ((if xq=1 then [114,101,113,117,105,114,101,100,32] else if xq=2 then [111,112,116,105,111,110,97,108,32] else [])=P):=⟨_,Lib.hid rfl⟩
 obtain ⟨P3,hP3⟩:∃ P:List UInt8,Hid ((if xb=true then [32,61,32]++constF tenS sh 13 fc else [])=P):=⟨_,Lib.hid rfl⟩
 have hFe:fieldF tenS sh ⟨xh,xi,xq,xt,xn,xb,fc⟩=P1++P2++xt++[32]++xn++P3:=by
  unfold fieldF
  dsimp only
  rw [hP1.out,hP2.out,hP3.out]
 rw [hFe] at hlen ⊢
 have hlen2:(xs.length:Int)+P1.length+P2.length+xt.length+1+xn.length+P3.length≤64000:=by
  simp only [List.length_append,List.length_cons,List.length_nil] at hlen;omega
 obtain ⟨g,hg⟩:∃ g,w.heap.size=g:=⟨_,rfl⟩
 have hB:=Blk.new w #[.bool xh,.int .i64 xi,.int .i64 (xq:Int),.string ⟨xt.toArray⟩,.string ⟨xn.toArray⟩,.bool xb,.int .i64 (ik:Int),.int .i64 im,.int .u64 (id:Int),.string ⟨is.toArray⟩,.slice A k ac] 59
 rw [hg] at hB
 have hne:v.ownBlock≠some g:=by rw [← hg];exact hown.new
 have hn0:Nx w (w.alloc (.cells #[.bool xh,.int .i64 xi,.int .i64 (xq:Int),.string ⟨xt.toArray⟩,.string ⟨xn.toArray⟩,.bool xb,.int .i64 (ik:Int),.int .i64 im,.int .u64 (id:Int),.string ⟨is.toArray⟩,.slice A k ac] 59)):=nx0 _ _
 have HB:=Lib.hid hB
 have HN0:=Lib.hid hn0
 have HNE:=Lib.hid hne
 have HOWN:=Lib.hid hown
 have HT:=Lib.hid ht
 have HRC:=Lib.hid hrc
 have HPC:=Lib.hid hpc
 have HLEN:=Lib.hid hlen2
 have HSH:=Lib.hid hsh
 clear hB hn0 hne hown ht hrc hpc hlen hlen2 hsh hFe
 show Calls _ _ #[v,.agg #[.bool xh,.int .i64 xi,.int .i64 (xq:Int),.string ⟨xt.toArray⟩,.string ⟨xn.toArray⟩,.bool xb,.int .i64 (ik:Int),.int .i64 im,.int .u64 (id:Int),.string ⟨is.toArray⟩,.slice A k ac]] _ _
 go_enter Tryz.func94,Tryz.ntmps94
 go_upto_region 1 with fail
 generalize World.alloc w _=W at *
 have HO:=Lib.hid (HOWN.out.nx HN0.out)
 have HG0:=Lib.hid (Gw.nx HN0.out v)
 clear hg
 have c0:W.cell? ⟨g,0,none⟩=some (.bool xh):=HB.out.cell 0
 have c1:W.cell? ⟨g,1,none⟩=some (.int .i64 xi):=HB.out.cell 1
 go_upto_if 6 with fail
 go_cut [0] (fun v' wx=>Hid (Ob B wx v' (xs++P1))∧Hid (Gw v W v' wx))
 case first =>
  cases xh with
  | true =>
   have hx:=HLEN.out
   have hP:P1=tenS xi++[58,32]:=hP1.out.symm
   go_wp2_with fail
   refine (appendInt_any B xi v xs W hi1 hi2 HO.out (HT.out.on (HG0.out.below HOWN.out)) (by omega)).mono ?_;rintro e w2 ⟨v2,rfl,ho,hg⟩
   have HO2:=Lib.hid ho;have HG2:=Lib.hid hg
   have hz:((xs++tenS xi).length:Int)+(([58,32]:List UInt8).length:Int)≤1000000000:=by rw [hP] at hx;simp only [List.length_append] at hx ⊢;omega
   have HP:=Lib.hid hP
   clear ho hg hx hP
   go_wp2_with (refine wpList_apS _ rfl _ _ rfl _ (xs++tenS xi) rfl HO2.out ⟨#[58,32]⟩ [58,32] (Tx.of _) rfl hz ?_;intro v3 w3 ho hg;have HO3:=Lib.hid ho;have HG3:=Lib.hid (HG2.out.trans hg);clear ho hg)
   go_meet
   case rel=>exact ⟨Lib.hid (HO3.out.cast (by rw [HP.out];simp)),HG3⟩
  | false =>
   have hP:P1=[]:=hP1.out.symm
   have HP:=Lib.hid hP
   clear hP
   go_wp2_with fail
   go_meet
   case rel=>exact ⟨Lib.hid (HO.out.cast (by rw [HP.out];simp)),Lib.hid (Gw.refl _ _)⟩
 case rest =>
 obtain ⟨HO1,HG1⟩:=hcut
 obtain ⟨hb1,hne1⟩:=HG1.out.blk HB.out HNE.out
 have HB1:=Lib.hid hb1
 have HNE1:=Lib.hid hne1
 have k2:wc.cell? ⟨g,2,none⟩=some (.int .i64 (xq:Int)):=hb1.cell 2
 have HRC1:Hid (RC 13 wc (No u0) ⟨ik,im,id,is,.slice A k ac⟩ fc):=HRC.out.gw (HG0.out.trans HG1.out)
 have HT1:=Lib.hid (HT.out.on ((HG0.out.trans HG1.out).below HOWN.out))
 have HGa:=Lib.hid (HG0.out.trans HG1.out)
 clear hb1 hne1 HB HNE HG1 HG0 HRC c0 c1 HO HN0
 generalize hu:u0=v1 at *
 clear hu
 generalize hwc:wc=w1 at *
 clear hwc
 go_upto_block 0 with fail
 go_cut [0] (fun v' wx=>Hid (Ob B wx v' (xs++P1++P2))∧Hid (Gw v1 w1 v' wx))
 case first =>
  by_cases h1:xq=1
  ·subst h1
   have hP:P2=[114,101,113,117,105,114,101,100,32]:=hP2.out.symm
   have hz:((xs++P1).length:Int)+(([114,101,113,117,105,114,101,100,32]:List UInt8).length:Int)≤1000000000:=by have:=HLEN.out;simp only [List.length_append,List.length_cons,List.length_nil];omega
   have HP:=Lib.hid hP
   clear hP
   go_wp2_with (refine wpList_apS _ rfl _ _ rfl _ (xs++P1) rfl HO1.out ⟨#[114,101,113,117,105,114,101,100,32]⟩ [114,101,113,117,105,114,101,100,32] (Tx.of _) rfl hz ?_;intro v3 w3 ho hg;have HO3:=Lib.hid ho;have HG3:=Lib.hid hg;clear ho hg)
   go_meet
   case rel=>exact ⟨Lib.hid (HO3.out.cast (by rw [HP.out])),HG3⟩
  ·have b1:((xq:Int) == 1)=false:=by rw [beq_eq_false_iff_ne];omega
   have b1':¬ (xq:Int)=1:=by omega
   by_cases h2:xq=2
   ·subst h2
    have hP:P2=[111,112,116,105,111,110,97,108,32]:=hP2.out.symm
    have hz:((xs++P1).length:Int)+(([111,112,116,105,111,110,97,108,32]:List UInt8).length:Int)≤1000000000:=by have:=HLEN.out;simp only [List.length_append,List.length_cons,List.length_nil];omega
    have HP:=Lib.hid hP
    clear hP h1
    go_wp2_with (refine wpList_apS _ rfl _ _ rfl _ (xs++P1) rfl HO1.out ⟨#[111,112,116,105,111,110,97,108,32]⟩ [111,112,116,105,111,110,97,108,32] (Tx.of _) rfl hz ?_;intro v3 w3 ho hg;have HO3:=Lib.hid ho;have HG3:=Lib.hid hg;clear ho hg)
    go_meet
    case rel=>exact ⟨Lib.hid (HO3.out.cast (by rw [HP.out])),HG3⟩
   ·have b2:((xq:Int) == 2)=false:=by rw [beq_eq_false_iff_ne];omega
    have b2':¬ (xq:Int)=2:=by omega
    have hP:P2=[]:=by rw [← hP2.out,if_neg h1,if_neg h2]
    have HP:=Lib.hid hP
    clear hP h1 h2
    go_wp2_with fail
    go_meet
    case rel=>exact ⟨Lib.hid (HO1.out.cast (by rw [HP.out,List.append_nil])),Lib.hid (Gw.refl _ _)⟩
 case rest =>
 obtain ⟨HO2,HG2⟩:=hcut
 obtain ⟨hb2,hne2⟩:=HG2.out.blk HB1.out HNE1.out
 have HB2:=Lib.hid hb2
 have HNE2:=Lib.hid hne2
 have k3:wc.cell? ⟨g,3,none⟩=some (.string ⟨xt.toArray⟩):=hb2.cell 3
 have k4:wc.cell? ⟨g,4,none⟩=some (.string ⟨xn.toArray⟩):=hb2.cell 4
 have HRC2:Hid (RC 13 wc (No u0) ⟨ik,im,id,is,.slice A k ac⟩ fc):=HRC1.out.gw HG2.out
 have HGb:=Lib.hid (HGa.out.trans HG2.out)
 have hz:((xs++P1++P2).length:Int)+([xt,[32],xn].flatten.length:Int)≤100000000:=by have:=HLEN.out;simp;omega
 obtain ⟨h2,hh2⟩:∃ h,wc.heap.size=h:=⟨_,rfl⟩
 clear hb2 hne2 HB1 HNE1 HG2 HRC1 k2 HO1 HGa
 go_wp2_with fail
 refine (appendAll_new [xt,[32],xn] HO2.out (by simp) hz h2 hh2).mono ?_;rintro e w3 ⟨v3,rfl,HO3,HG3⟩
 obtain ⟨hb3,hne3⟩:=HG3.out.blk HB2.out HNE2.out
 have k5:w3.cell? ⟨g,5,none⟩=some (.bool xb):=hb3.cell 5
 have k6:w3.cell? ⟨g,6,none⟩=some (.int .i64 (ik:Int)):=hb3.cell 6
 have k7:w3.cell? ⟨g,7,none⟩=some (.int .i64 im):=hb3.cell 7
 have k8:w3.cell? ⟨g,8,none⟩=some (.int .u64 (id:Int)):=hb3.cell 8
 have k9:w3.cell? ⟨g,9,none⟩=some (.string ⟨is.toArray⟩):=hb3.cell 9
 have k10:w3.cell? ⟨g,10,none⟩=some (.slice A k ac):=hb3.cell 10
 have HRC3:Hid (RC 13 w3 (No v3) ⟨ik,im,id,is,.slice A k ac⟩ fc):=HRC2.out.gw HG3.out
 have HGc:=Lib.hid (HGb.out.trans HG3.out)
 have HT3:=Lib.hid (HT1.out.on (Below.refl _ _))
 have hres:∀ Q:List UInt8,xs++P1++P2++[xt,[32],xn].flatten++Q=xs++(P1++P2++xt++[32]++xn++Q):=fun Q=>by simp
 have HRES:=Lib.hid hres
 clear hb3 hne3 HG3 HGb HRC2 k3 k4 hz hh2 hres HO2
 cases xb with
 | true =>
  have hP:P3=[32,61,32]++constF tenS sh 13 fc:=hP3.out.symm
  obtain ⟨E,hE⟩:∃ E,Hid (constF tenS sh 13 fc=E):=⟨_,Lib.hid rfl⟩
  rw [hE.out] at hP
  have hP':P3=[[32,61,32],E].flatten:=by rw [hP];simp
  have hz:((xs++P1++P2++[xt,[32],xn].flatten).length:Int)+([[32,61,32],E].flatten.length:Int)≤100000000:=by have:=HLEN.out;rw [hP'] at this;simp at this ⊢;omega
  have hel:(E.length:Int)≤64000:=by have:=HLEN.out;rw [hP] at this;simp only [List.length_append] at this;omega
  have hcall:=printConst_any HSH.out 13 w3 (No v3) ⟨ik,im,id,is,.slice A k ac⟩ fc ((HT.out.on (HGc.out.below HOWN.out)).here) HRC3.out (HPC.out rfl) (by rw [hE.out];exact hel)
  rw [hE.out] at hcall
  have HC:=Lib.hid hcall
  have HP:=Lib.hid hP'
  clear hP hP' hel hcall
  go_wp2_with fail
  refine HC.out.mono ?_;rintro e w4 ⟨rfl,hn4⟩
  have HO4:=Lib.hid (HO3.out.nx hn4)
  have HG4:=Lib.hid (HGc.out.trans (Gw.nx hn4 v3))
  obtain ⟨h4,hh4⟩:∃ h,w4.heap.size=h:=⟨_,rfl⟩
  clear hn4
  go_wp2_with fail
  refine (appendAll_new [[32,61,32],E] HO4.out (by simp) hz h4 hh4).mono ?_;rintro e w5 ⟨v5,rfl,HO5,HG5⟩
  clear hh4
  go_wp2_with fail
  go_ret
  exact ⟨v5,rfl,HO5.out.cast (by rw [← HP.out,HRES.out]),HG4.out.trans HG5.out⟩
 | false =>
  have hP:P3=[]:=hP3.out.symm
  have HP:=Lib.hid hP
  clear hP
  go_wp2_with fail
  go_ret
  exact ⟨v3,rfl,HO3.out.cast (by have:=HRES.out [];rw [List.append_nil] at this;rw [HP.out,this]),HGc.out⟩
end Go.Proofs.YtjggghfekakogaaGreatDoor
namespace Go.Proofs.YtjggghfekakogaaGreatDoor
open Go.RowKit
theorem RM.gw {v v':Value} {w w':World} {x:MetS} {c:Met} (h:RM w (No v) x c) (hg:Gw v w v' w'):RM w' (No v') x c:=RM.lasts hg.mv h
theorem LM.gw {v v' lv:Value} {w w':World} {l:List Met} (h:LM w (No v) lv l) (hg:Gw v w v' w'):LM w' (No v') lv l:=LM.lasts hg.mv h
theorem LMm.gw {v v' lv:Value} {w w':World} {l:List Mem} (h:LMm w (No v) lv l) (hg:Gw v w v' w'):LMm w' (No v') lv l:=LMm.lasts hg.mv h
theorem comma_step2 (ts:List (List UInt8)) (i:Nat) (h:i<ts.length):commaF (ts.take (i+1))=commaF (ts.take i)++(if 0<i then [44,32] else [])++ts[i]:=by
 rw [(commaF_step ts i h).1]
 by_cases h0:i=0
 ·subst h0;simp
 ·rw [if_neg h0,if_pos (by omega)]
set_option maxRecDepth 100000 in
set_option maxHeartbeats 6400000 in
theorem appendFields_any {sh:Nat→List UInt8} (hsh:∀ B l,ShowR B l→l=sh B) (B:Nat) (w:World) (v lv:Value) (xs:List UInt8) (l:List Fld) (hown:Ob B w v xs) (ht:TabB B w) (hr:LF w (No v) lv l) (hll:l.length≤100000) (hok:∀ f ∈ l,prF f)
  (hlen:(xs.length:Int)+((fieldsF tenS sh l).length:Int)≤63998) :
  Calls Tryz.prog 146 #[v,lv] w fun e w'=>∃ v',e = .returned v'∧Hid (Ob B w' v' (xs++(40 :: (fieldsF tenS sh l++[41]))))∧Hid (Gw v w v' w'):=by
 obtain ⟨A,ac,zs,hlv,hzl,hzc,hzm,hrd,hall⟩:=hr.sl fldA_size
 have HR:=Lib.hid hr
 subst hlv
 unfold fieldsF at hlen ⊢
 obtain ⟨ts,hts⟩:∃ ts,Hid (l.map (fieldF tenS sh)=ts):=⟨_,Lib.hid rfl⟩
 rw [hts.out] at hlen ⊢
 have htl:ts.length=l.length:=by rw [← hts.out,List.length_map]
 have HTL:=Lib.hid htl
 have HOWN:=Lib.hid hown
 have HT:=Lib.hid ht
 have HOK:=Lib.hid hok
 have HLEN:=Lib.hid hlen
 have HSH:=Lib.hid hsh
 have hnI:(l.length:Int)≤100000:=by omega
 have HB1:=Lib.hid (hown.nx (nx0 w (.cells #[.int .u8 40] 5)))
 have HC1:Hid ((w.alloc (.cells #[.int .u8 40] 5)).cell? ⟨w.heap.size,0,none⟩=some (bv 40)):=(Blk.new w #[.int .u8 40] 5).cell 0
 have hx63:(xs.length:Int)≤1000000000:=by omega
 clear hown ht hok hlen hr hrd hall htl hzl hzc hzm hsh
 go_enter Tryz.func146,Tryz.ntmps146
 go_wp2_with (refine wpList_ap1 _ rfl _ _ rfl v xs rfl HB1.out w.heap.size 40 rfl HC1.out hx63 ?_;intro v1 w1 ho hg;have HOa:=Lib.hid ho;have HGa:=Lib.hid ((Gw.nx (nx0 w (.cells #[.int .u8 40] 5)) v).trans hg);clear ho hg HB1 HC1 hx63)
 go_loopw [0,12] (fun bv' iv wr=>∃ i:Nat,iv = .int .i64 (i:Int)∧i≤l.length∧Hid (Ob B wr bv' (xs++[40]++commaF (ts.take i)))∧Hid (Gw v w bv' wr)) (fun _ iv _=>(200000 - intOf iv).toNat)
 case atStart=>exact ⟨0,rfl,Nat.zero_le _,Lib.hid (HOa.out.cast (by simp [commaF])),HGa⟩
 case round =>
  obtain ⟨i,rfl,hi,HO,HG⟩:=hrel
  clear HOa HGa
  have hiI:(i:Int)≤100000:=by omega
  by_cases hlt:i<l.length
  ·have q1:decide ((i:Int)<(l.length:Int))=true:=decide_eq_true (by omega)
   have q2:(i:Int)<(l.length:Int):=by omega
   have hr2:=HR.out.gw HG.out
   obtain ⟨A',ac',zs,hlv,hzl,hzc,hzm,hrd,hall⟩:=hr2.sl fldA_size
   injection hlv with h1 h2 h3
   subst h1 h3
   clear h2
   obtain ⟨g2,rfl,hg2,hcs⟩:=hrd (by omega)
   obtain ⟨Z,hZ⟩:∃ Z,zs[i]'(by omega)=Z:=⟨_,rfl⟩
   have hrc:RF wr (No u0) Z l[i]:=by
    have:=hall.at_ i (by omega) hlt
    rw [hZ] at this
    exact RF.lasts ⟨fun _ _ _=>rfl,fun _ h _=>h.1⟩ this
   have hit:i<ts.length:=by rw [HTL.out];exact hlt
   have hst:=comma_step2 ts i hit
   have hle:=(commaF_step ts i hit).2
   have hte:ts[i]=fieldF tenS sh l[i]:=by simp only [← hts.out,List.getElem_map]
   rw [hte] at hst
   obtain ⟨E,hE⟩:∃ E,Hid (fieldF tenS sh l[i]=E):=⟨_,Lib.hid rfl⟩
   rw [hE.out] at hst
   obtain ⟨sp,hsp⟩:∃ sp:List UInt8,Hid ((if 0<i then [44,32] else [])=sp):=⟨_,Lib.hid rfl⟩
   rw [hsp.out] at hst
   have HST:=Lib.hid hst
   have HSUM:Hid ((xs.length:Int)+(commaF (ts.take i)).length+sp.length+E.length≤63998):=by
    have h1:=HLEN.out
    rw [hst] at hle
    simp only [List.length_append] at hle
    unfold Hid;omega
   obtain ⟨zh,zi,zq,zt,zn,zb,⟨ek,ei,ed,es,el⟩⟩:=Z
   obtain ⟨lA,lk,lc,hlq⟩:=hrc.2.2.2.2.2.2.slv
   dsimp only at hlq
   subst hlq
   have hcell:∀ j,j<11→wr.cell? ⟨g2,i * 11+j,none⟩=(fldA ⟨zh,zi,zq,zt,zn,zb,⟨ek,ei,ed,es,.slice lA lk lc⟩⟩)[j]?:=fun j hj=>by rw [hcs i (by omega) j hj,hZ]
   have e0:wr.cell? ⟨g2,i * 11,none⟩=some (.bool zh):=hcell 0 (by decide)
   have e1:wr.cell? ⟨g2,i * 11+1,none⟩=some (.int .i64 zi):=hcell 1 (by decide)
   have e2:wr.cell? ⟨g2,i * 11+2,none⟩=some (.int .i64 (zq:Int)):=hcell 2 (by decide)
   have e3:wr.cell? ⟨g2,i * 11+3,none⟩=some (.string ⟨zt.toArray⟩):=hcell 3 (by decide)
   have e4:wr.cell? ⟨g2,i * 11+4,none⟩=some (.string ⟨zn.toArray⟩):=hcell 4 (by decide)
   have e5:wr.cell? ⟨g2,i * 11+5,none⟩=some (.bool zb):=hcell 5 (by decide)
   have e6:wr.cell? ⟨g2,i * 11+6,none⟩=some (.int .i64 (ek:Int)):=hcell 6 (by decide)
   have e7:wr.cell? ⟨g2,i * 11+7,none⟩=some (.int .i64 ei):=hcell 7 (by decide)
   have e8:wr.cell? ⟨g2,i * 11+8,none⟩=some (.int .u64 (ed:Int)):=hcell 8 (by decide)
   have e9:wr.cell? ⟨g2,i * 11+9,none⟩=some (.string ⟨es.toArray⟩):=hcell 9 (by decide)
   have e10:wr.cell? ⟨g2,i * 11+10,none⟩=some (.slice lA lk lc):=hcell 10 (by decide)
   have HRC:=Lib.hid hrc
   clear hst hle hte hit hcs hcell hrd hall hr2 hZ hrc hzl hzc hzm
   obtain ⟨g,hg⟩:∃ g,wr.heap.size=g:=⟨_,rfl⟩
   go_upto_region 5 with fail
   have hB4:=Blk.new wr #[.bool zh,.int .i64 zi,.int .i64 (zq:Int),.string ⟨zt.toArray⟩,.string ⟨zn.toArray⟩,.bool zb,.int .i64 (ek:Int),.int .i64 ei,.int .u64 (ed:Int),.string ⟨es.toArray⟩,.slice lA lk lc] 59
   rw [hg] at hB4
   have hn4:Nx wr (wr.alloc (.cells #[.bool zh,.int .i64 zi,.int .i64 (zq:Int),.string ⟨zt.toArray⟩,.string ⟨zn.toArray⟩,.bool zb,.int .i64 (ek:Int),.int .i64 ei,.int .u64 (ed:Int),.string ⟨es.toArray⟩,.slice lA lk lc] 59)):=nx0 _ _
   generalize World.alloc wr _=W1 at *
   have HO1:=Lib.hid (HO.out.nx hn4)
   have HG1:=Lib.hid (HG.out.trans (Gw.nx hn4 u0))
   have HRC1:Hid (RF W1 (No u0) ⟨zh,zi,zq,zt,zn,zb,⟨ek,ei,ed,es,.slice lA lk lc⟩⟩ l[i]):=HRC.out.gw (Gw.nx hn4 u0)
   have hne:u0.ownBlock≠some g:=by rw [← hg];exact HO.out.new
   have HB4:=Lib.hid hB4
   have HNE:=Lib.hid hne
   clear hB4 hn4 hne hg HRC HO HG e0 e1 e2 e3 e4 e5 e6 e7 e8 e9 e10
   generalize hu:u0=v1 at *
   clear hu
   go_upto_if 18 with fail
   go_cut [0] (fun v' wx=>Hid (Ob B wx v' (xs++[40]++commaF (ts.take i)++sp))∧Hid (Gw v1 W1 v' wx))
   case first =>
    clear HRC1 HB4 HNE HST HR HT HOK HSH hts HTL HOWN HG1 hE HLEN hll hnI hi hlt q1 q2 hg2
    by_cases h0:0<i
    ·have hsep:sp=[44,32]:=by rw [← hsp.out,if_pos h0]
     have b3:decide ((i:Int) > 0)=true:=decide_eq_true (by omega)
     have HSEP:=Lib.hid hsep
     clear hsep
     go_wp2_with (refine wpList_apS _ rfl _ _ rfl _ (xs++[40]++commaF (ts.take i)) rfl HO1.out ⟨#[44,32]⟩ [44,32] (Tx.of _) rfl (by have:=HSUM.out;simp only [List.length_append,List.length_cons,List.length_nil];omega) ?_;intro v3 w3 ho hg;have HO2:=Lib.hid ho;have HG2:=Lib.hid hg;clear ho hg)
     go_meet
     case rel=>exact ⟨by rw [HSEP.out];exact HO2,HG2⟩
    ·have hsep:sp=[]:=by rw [← hsp.out,if_neg h0]
     have b3:decide ((i:Int) > 0)=false:=decide_eq_false (by omega)
     have HSEP:=Lib.hid hsep
     clear hsep
     go_wp2_with fail
     go_meet
     case rel=>exact ⟨by rw [HSEP.out,List.append_nil];exact HO1,Lib.hid (Gw.refl _ _)⟩
   case rest =>
    obtain ⟨HO2,HG2⟩:=hcut
    obtain ⟨hB5,hne5⟩:=HG2.out.blk HB4.out HNE.out
    have c0:wc.cell? ⟨g,0,none⟩=some (.bool zh):=hB5.cell 0
    have c1:wc.cell? ⟨g,1,none⟩=some (.int .i64 zi):=hB5.cell 1
    have c2:wc.cell? ⟨g,2,none⟩=some (.int .i64 (zq:Int)):=hB5.cell 2
    have c3:wc.cell? ⟨g,3,none⟩=some (.string ⟨zt.toArray⟩):=hB5.cell 3
    have c4:wc.cell? ⟨g,4,none⟩=some (.string ⟨zn.toArray⟩):=hB5.cell 4
    have c5:wc.cell? ⟨g,5,none⟩=some (.bool zb):=hB5.cell 5
    have c6:wc.cell? ⟨g,6,none⟩=some (.int .i64 (ek:Int)):=hB5.cell 6
    have c7:wc.cell? ⟨g,7,none⟩=some (.int .i64 ei):=hB5.cell 7
    have c8:wc.cell? ⟨g,8,none⟩=some (.int .u64 (ed:Int)):=hB5.cell 8
    have c9:wc.cell? ⟨g,9,none⟩=some (.string ⟨es.toArray⟩):=hB5.cell 9
    have c10:wc.cell? ⟨g,10,none⟩=some (.slice lA lk lc):=hB5.cell 10
    have hcall:=appendField_any HSH.out B wc u0 (xs++[40]++commaF (ts.take i)++sp) ⟨zh,zi,zq,zt,zn,zb,⟨ek,ei,ed,es,.slice lA lk lc⟩⟩ l[i] HO2.out (HT.out.on ((HG1.out.trans HG2.out).below HOWN.out)) (HRC1.out.gw HG2.out) (HOK.out _ (List.getElem_mem hlt))
     (by rw [hE.out];have:=HSUM.out;simp only [List.length_append,List.length_cons,List.length_nil];omega)
    rw [hE.out] at hcall
    have HCALL:=Lib.hid hcall
    clear hB5 hne5 hcall
    go_wp2_with fail
    refine HCALL.out.mono ?_;rintro e w5 ⟨v5,rfl,ho,hg5⟩
    have HO5:=Lib.hid ho;have HG5:=Lib.hid ((HG1.out.trans HG2.out).trans hg5);clear ho hg5
    go_wp2_with fail
    go_roundw
    case rel=>exact ⟨i+1,by go_num,hlt,Lib.hid (HO5.out.cast (by rw [HST.out];simp only [List.append_assoc])),HG5⟩
    case measure=>simp [intOf];omega
  ·obtain rfl:i=l.length:=by omega
   have q1:decide ((l.length:Int)<(l.length:Int))=false:=decide_eq_false (by omega)
   have htk:ts.take l.length=ts:=List.take_of_length_le (by rw [HTL.out];exact Nat.le_refl _)
   rw [htk] at HO
   have HB1:=Lib.hid (HO.out.nx (nx0 wr (.cells #[.int .u8 41] 5)))
   have HC1:Hid ((wr.alloc (.cells #[.int .u8 41] 5)).cell? ⟨wr.heap.size,0,none⟩=some (bv 41)):=(Blk.new wr #[.int .u8 41] 5).cell 0
   have hz:((xs++[40]++commaF ts).length:Int)≤1000000000:=by have:=HLEN.out;simp only [List.length_append,List.length_cons,List.length_nil];omega
   clear hlt hi htk
   go_wp2_with (refine wpList_ap1 _ rfl _ _ rfl _ (xs++[40]++commaF ts) rfl HB1.out wr.heap.size 41 rfl HC1.out hz ?_;intro v1 w1 ho hg;have HO3:=Lib.hid ho;have HG3:=Lib.hid (HG.out.trans ((Gw.nx (nx0 wr (.cells #[.int .u8 41] 5)) _).trans hg));clear ho hg)
   go_ret
   exact ⟨_,rfl,Lib.hid (HO3.out.cast (by simp)),HG3⟩
end Go.Proofs.YtjggghfekakogaaGreatDoor
namespace Go.Proofs.YtjggghfekakogaaGreatDoor
open Go.RowKit
def memG (m:Mem):List UInt8:=m.nm++(if m.has=true then [32,61,32]++tenS m.n else [])
def methG (sh:Nat→List UInt8) (m:Met):List UInt8 :=
 (if m.one=true then [111,110,101,119,97,121,32] else [])++[m.ret,[32],m.nm].flatten++(40 :: (fieldsF tenS sh m.args++[41]))++(if 0<m.thr.length then [32,116,104,114,111,119,115,32]++(40 :: (fieldsF tenS sh m.thr++[41])) else [])
theorem memG_is (m:Mem):memF tenS m=[32,32]++memG m++[44,10]:=by unfold memF memG;simp
theorem methG_is (sh:Nat→List UInt8) (m:Met):methodF tenS sh m=[32,32]++methG sh m++[44,10]:=by
 unfold methodF methG oneF
 cases m.one <;> split <;> simp
set_option maxRecDepth 100000 in
set_option maxHeartbeats 1600000 in
theorem appendMember_any (B:Nat) (w:World) (v:Value) (xs:List UInt8) (m:Mem) (hown:Ob B w v xs) (ht:TabB B w) (h1 : -9223372036854775808≤m.n) (h2:m.n≤9223372036854775807) (hlen:(xs.length:Int)+((memG m).length:Int)≤64000) :
  Calls Tryz.prog 92 #[v,.agg (memA m)] w fun e w'=>∃ v',e = .returned v'∧Ob B w' v' (xs++memG m)∧Gw v w v' w':=by
 obtain ⟨mn,mh,mi⟩:=m
 dsimp only at h1 h2
 obtain ⟨G,hG⟩:∃ G,Hid (memG ⟨mn,mh,mi⟩=G):=⟨_,Lib.hid rfl⟩
 have hz1:(xs.length:Int)+(mn.length:Int)≤64000:=by unfold memG at hlen;simp only [List.length_append] at hlen;omega
 rw [hG.out] at hlen ⊢
 obtain ⟨g,hg⟩:∃ g,w.heap.size=g:=⟨_,rfl⟩
 have hB:=Blk.new w #[.string ⟨mn.toArray⟩,.bool mh,.int .i64 mi] 57
 rw [hg] at hB
 have hne:v.ownBlock≠some g:=by rw [← hg];exact hown.new
 have hn0:Nx w (w.alloc (.cells #[.string ⟨mn.toArray⟩,.bool mh,.int .i64 mi] 57)):=nx0 _ _
 have HB:=Lib.hid hB
 have HN0:=Lib.hid hn0
 have HNE:=Lib.hid hne
 have HOWN:=Lib.hid hown
 have HT:=Lib.hid ht
 have HLEN:=Lib.hid hlen
 have HZ1:=Lib.hid hz1
 clear hB hn0 hne hown ht hlen hz1
 show Calls _ _ #[v,.agg #[.string ⟨mn.toArray⟩,.bool mh,.int .i64 mi]] _ _
 go_enter Tryz.func92,Tryz.ntmps92
 go_upto_region 1 with fail
 generalize World.alloc w _=W at *
 have HO:=Lib.hid (HOWN.out.nx HN0.out)
 have HG0:=Lib.hid (Gw.nx HN0.out v)
 clear hg
 have c0:W.cell? ⟨g,0,none⟩=some (.string ⟨mn.toArray⟩):=HB.out.cell 0
 go_upto_region 2 with (refine wpList_apS _ rfl _ _ rfl v xs rfl HO.out ⟨mn.toArray⟩ mn (Tx.of _) rfl (by have:=HZ1.out;omega) ?_;intro v3 w3 ho hg;have HO3:=Lib.hid ho;have HG3:=Lib.hid hg;clear ho hg)
 obtain ⟨hb3,hne3⟩:=HG3.out.blk HB.out HNE.out
 have k1:w3.cell? ⟨g,1,none⟩=some (.bool mh):=hb3.cell 1
 have k2:w3.cell? ⟨g,2,none⟩=some (.int .i64 mi):=hb3.cell 2
 have HG4:=Lib.hid (HG0.out.trans HG3.out)
 have HB3:=Lib.hid hb3
 have HNE3:=Lib.hid hne3
 clear c0 hb3 hne3 HB HNE HG0 HG3 HO
 cases mh with
 | true =>
  have hGe:G=mn++([32,61,32]++tenS mi):=hG.out.symm
  have HGE:=Lib.hid hGe
  rw [hGe] at HLEN
  clear hGe
  go_upto_region 4 with (refine wpList_apS _ rfl _ _ rfl _ (xs++mn) rfl HO3.out ⟨#[32,61,32]⟩ [32,61,32] (Tx.of _) rfl (by have:=HLEN.out;simp only [List.length_append,List.length_cons,List.length_nil] at this ⊢;omega) ?_;intro v5 w5 ho hg;have HO5:=Lib.hid ho;have HG5:=Lib.hid hg;clear ho hg)
  obtain ⟨hb5,-⟩:=HG5.out.blk HB3.out HNE3.out
  have k3:w5.cell? ⟨g,2,none⟩=some (.int .i64 mi):=hb5.cell 2
  have HG6:=Lib.hid (HG4.out.trans HG5.out)
  have hcall:=appendInt_any B mi v5 (xs++mn++[32,61,32]) w5 h1 h2 HO5.out (HT.out.on (HG6.out.below HOWN.out)) (by have:=HLEN.out;simp only [List.length_append,List.length_cons,List.length_nil] at this ⊢;omega)
  have HC:=Lib.hid hcall
  clear hb5 hcall HG5 k1 k2
  go_wp2_with fail
  refine HC.out.mono ?_;rintro e w6 ⟨v6,rfl,ho,hg⟩
  have HO6:=Lib.hid ho;have HG7:=Lib.hid (HG6.out.trans hg);clear ho hg
  go_wp2_with fail
  go_ret
  exact ⟨v6,rfl,HO6.out.cast (by rw [HGE.out];simp),HG7.out⟩
 | false =>
  have hGe:G=mn:=by rw [← hG.out];unfold memG;simp
  have HGE:=Lib.hid hGe
  clear hGe
  go_wp2_with fail
  go_ret
  exact ⟨v3,rfl,HO3.out.cast (by rw [HGE.out]),HG4.out⟩
set_option maxRecDepth 100000 in
set_option maxHeartbeats 3200000 in
theorem appendMethod_any {sh:Nat→List UInt8} (hsh:∀ B l,ShowR B l→l=sh B) (B:Nat) (w:World) (v:Value) (xs:List UInt8) (x:MetS) (m:Met) (hown:Ob B w v xs) (ht:TabB B w) (hr:RM w (No v) x m) (hok:prM m) (hlen:(xs.length:Int)+((methG sh m).length:Int)≤64000) :
  Calls Tryz.prog 96 #[v,.agg (metA x)] w fun e w'=>∃ v',e = .returned v'∧Ob B w' v' (xs++methG sh m)∧Gw v w v' w':=by
 obtain ⟨xn,xo,xr,xa,xt⟩:=x
 obtain ⟨mn,mo,mr,ma,mt⟩:=m
 obtain ⟨h1,h2,h3,hra,hrt⟩:=hr
 dsimp only at h1 h2 h3 hra hrt
 subst h1 h2 h3
 obtain ⟨hal,hoka,htl,hokt⟩:=hok
 dsimp only at hal hoka htl hokt
 obtain ⟨aA,ac,-,hxa,-,-,-,-,-⟩:=hra.sl fldA_size
 obtain ⟨tA,tc,-,hxt,-,-,-,-,-⟩:=hrt.sl fldA_size
 obtain ⟨P1,hP1⟩:∃ P:List UInt8,Hid ((if xo=true then [111,110,101,119,97,121,32] else [])=P):=⟨_,Lib.hid rfl⟩
 obtain ⟨E1,hE1⟩:∃ E,Hid (fieldsF tenS sh ma=E):=⟨_,Lib.hid rfl⟩
 obtain ⟨E2,hE2⟩:∃ E,Hid (fieldsF tenS sh mt=E):=⟨_,Lib.hid rfl⟩
 obtain ⟨P2,hP2⟩:∃ P:List UInt8,Hid ((if 0<mt.length then [32,116,104,114,111,119,115,32]++(40 :: (E2++[41])) else [])=P):=⟨_,Lib.hid rfl⟩
 have hGe:methG sh ⟨xn,xo,xr,ma,mt⟩=P1++[xr,[32],xn].flatten++(40 :: (E1++[41]))++P2:=by
  unfold methG
  dsimp only
  rw [hP1.out,hE1.out,hE2.out,hP2.out]
 rw [hGe] at hlen ⊢
 have hlen2:(xs.length:Int)+P1.length+xr.length+xn.length+E1.length+P2.length≤63997:=by
  simp only [List.length_append,List.length_cons,List.length_nil,List.flatten_cons,List.flatten_nil] at hlen;omega
 obtain ⟨g,hg⟩:∃ g,w.heap.size=g:=⟨_,rfl⟩
 have HRA:=Lib.hid hra
 have HRT:=Lib.hid hrt
 subst hxa hxt
 have hB:=Blk.new w #[.string ⟨xn.toArray⟩,.bool xo,.string ⟨xr.toArray⟩,.slice aA ma.length ac,.slice tA mt.length tc] 61
 rw [hg] at hB
 have hne:v.ownBlock≠some g:=by rw [← hg];exact hown.new
 have hn0:Nx w (w.alloc (.cells #[.string ⟨xn.toArray⟩,.bool xo,.string ⟨xr.toArray⟩,.slice aA ma.length ac,.slice tA mt.length tc] 61)):=nx0 _ _
 have HB:=Lib.hid hB
 have HN0:=Lib.hid hn0
 have HNE:=Lib.hid hne
 have HOWN:=Lib.hid hown
 have HT:=Lib.hid ht
 have HLEN:=Lib.hid hlen2
 have HOA:=Lib.hid hoka
 have HOT:=Lib.hid hokt
 have HSH:=Lib.hid hsh
 clear hB hn0 hne hown ht hlen hlen2 hoka hokt hsh hGe hra hrt
 show Calls _ _ #[v,.agg #[.string ⟨xn.toArray⟩,.bool xo,.string ⟨xr.toArray⟩,.slice aA ma.length ac,.slice tA mt.length tc]] _ _
 go_enter Tryz.func96,Tryz.ntmps96
 go_upto_region 1 with fail
 generalize World.alloc w _=W at *
 have HO:=Lib.hid (HOWN.out.nx HN0.out)
 have HG0:=Lib.hid (Gw.nx HN0.out v)
 clear hg
 have c0:W.cell? ⟨g,1,none⟩=some (.bool xo):=HB.out.cell 1
 go_upto_if 6 with fail
 go_cut [0] (fun v' wx=>Hid (Ob B wx v' (xs++P1))∧Hid (Gw v W v' wx))
 case first =>
  clear HRA HRT HOA HOT HSH HT
  cases xo with
  | true =>
   have hP:P1=[111,110,101,119,97,121,32]:=hP1.out.symm
   have HP:=Lib.hid hP
   clear hP
   go_wp2_with (refine wpList_apS _ rfl _ _ rfl _ xs rfl HO.out ⟨#[111,110,101,119,97,121,32]⟩ [111,110,101,119,97,121,32] (Tx.of _) rfl (by have:=HLEN.out;simp only [List.length_cons,List.length_nil];omega) ?_;intro v3 w3 ho hg;have HO3:=Lib.hid ho;have HG3:=Lib.hid hg;clear ho hg)
   go_meet
   case rel=>exact ⟨Lib.hid (HO3.out.cast (by rw [HP.out])),HG3⟩
  | false =>
   have hP:P1=[]:=hP1.out.symm
   have HP:=Lib.hid hP
   clear hP
   go_wp2_with fail
   go_meet
   case rel=>exact ⟨Lib.hid (HO.out.cast (by rw [HP.out];simp)),Lib.hid (Gw.refl _ _)⟩
 case rest =>
 obtain ⟨HO1,HG1⟩:=hcut
 obtain ⟨hb1,hne1⟩:=HG1.out.blk HB.out HNE.out
 have HB1:=Lib.hid hb1
 have HNE1:=Lib.hid hne1
 have k0:wc.cell? ⟨g,0,none⟩=some (.string ⟨xn.toArray⟩):=hb1.cell 0
 have k2:wc.cell? ⟨g,2,none⟩=some (.string ⟨xr.toArray⟩):=hb1.cell 2
 have HGa:=Lib.hid (HG0.out.trans HG1.out)
 obtain ⟨h2,hh2⟩:∃ h,wc.heap.size=h:=⟨_,rfl⟩
 clear hb1 hne1 HB HNE HG1 HG0 c0 HO HN0
 go_wp2_with fail
 refine (appendAll_new [xr,[32],xn] HO1.out (by simp) (by have:=HLEN.out;simp;omega) h2 hh2).mono ?_;rintro e w3 ⟨v3,rfl,HO3,HG3⟩
 obtain ⟨hb3,hne3⟩:=HG3.out.blk HB1.out HNE1.out
 have k3:w3.cell? ⟨g,3,none⟩=some (.slice aA ma.length ac):=hb3.cell 3
 have HB3:=Lib.hid hb3
 have HNE3:=Lib.hid hne3
 have HGc:=Lib.hid (HGa.out.trans HG3.out)
 have hcall:=appendFields_any HSH.out B w3 v3 (.slice aA ma.length ac) (xs++P1++[xr,[32],xn].flatten) ma HO3.out (HT.out.on (HGc.out.below HOWN.out)) (HRA.out.gw HGc.out) hal HOA.out (by rw [hE1.out];have:=HLEN.out;simp;omega)
 rw [hE1.out] at hcall
 have HC:=Lib.hid hcall
 clear hb3 hne3 HB1 HNE1 HG3 HGa k0 k2 hh2 hcall HO1
 go_wp2_with fail
 refine HC.out.mono ?_;rintro e w4 ⟨v4,rfl,HO4,HG4⟩
 obtain ⟨hb4,hne4⟩:=HG4.out.blk HB3.out HNE3.out
 have k4:w4.cell? ⟨g,4,none⟩=some (.slice tA mt.length tc):=hb4.cell 4
 have HB4:=Lib.hid hb4
 have HNE4:=Lib.hid hne4
 have HGd:=Lib.hid (HGc.out.trans HG4.out)
 have hres:∀ Q:List UInt8,xs++P1++[xr,[32],xn].flatten++(40 :: (E1++[41]))++Q=xs++(P1++[xr,[32],xn].flatten++(40 :: (E1++[41]))++Q):=fun Q=>by simp only [List.append_assoc]
 have HRES:=Lib.hid hres
 obtain ⟨T,hT⟩:∃ T,xs++P1++[xr,[32],xn].flatten++(40 :: (E1++[41]))=T:=⟨_,rfl⟩
 have hTl:(T.length:Int)+P2.length≤64000:=by have:=HLEN.out;rw [← hT];simp;omega
 rw [hT] at HO4 HRES
 have HTL:=Lib.hid hTl
 clear hb4 hne4 HB3 HNE3 HG4 HGc k3 HC HRA HOA hT hTl hres HO3
 by_cases h0:0<mt.length
 ·have b1:decide ((mt.length:Int) > 0)=true:=decide_eq_true (by omega)
  have hP:P2=[32,116,104,114,111,119,115,32]++(40 :: (E2++[41])):=by rw [← hP2.out,if_pos h0]
  have HP:=Lib.hid hP
  clear hP
  go_upto_region 7 with (refine wpList_apS _ rfl _ _ rfl _ T rfl HO4.out ⟨#[32,116,104,114,111,119,115,32]⟩ [32,116,104,114,111,119,115,32] (Tx.of _) rfl (by have:=HTL.out;simp only [List.length_cons,List.length_nil];omega) ?_;intro v5 w5 ho hg;have HO5:=Lib.hid ho;have HG5:=Lib.hid hg;clear ho hg)
  obtain ⟨hb5,-⟩:=HG5.out.blk HB4.out HNE4.out
  have k5:w5.cell? ⟨g,4,none⟩=some (.slice tA mt.length tc):=hb5.cell 4
  have HGe:=Lib.hid (HGd.out.trans HG5.out)
  have hcall:=appendFields_any HSH.out B w5 v5 (.slice tA mt.length tc) (T++[32,116,104,114,111,119,115,32]) mt HO5.out (HT.out.on (HGe.out.below HOWN.out)) (HRT.out.gw HGe.out) htl HOT.out (by rw [hE2.out];have:=HTL.out;rw [HP.out] at this;simp at this ⊢;omega)
  rw [hE2.out] at hcall
  have HC:=Lib.hid hcall
  clear hb5 hcall k4 HG5
  go_wp2_with fail
  refine HC.out.mono ?_;rintro e w6 ⟨v6,rfl,HO6,HG6⟩
  go_wp2_with fail
  go_ret
  exact ⟨v6,rfl,HO6.out.cast (by rw [← HRES.out,HP.out,List.append_assoc]),HGe.out.trans HG6.out⟩
 ·have b1:decide ((mt.length:Int) > 0)=false:=decide_eq_false (by omega)
  have hP:P2=[]:=by rw [← hP2.out,if_neg h0]
  have HP:=Lib.hid hP
  clear hP
  go_wp2_with fail
  go_ret
  exact ⟨v4,rfl,HO4.out.cast (by rw [← HRES.out,HP.out,List.append_nil]),HGd.out⟩
end Go.Proofs.YtjggghfekakogaaGreatDoor
