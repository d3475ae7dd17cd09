/- The code's printer: constants. The code's printer: a constant's text, a field. -/
import Derived.Test.YtjggghfekakogaaGreatDoorG13
set_option linter.unusedVariables false
set_option linter.unusedSimpArgs false
set_option linter.unnecessarySimpa false
namespace Go.Proofs.YtjggghfekakogaaGreatDoor
open Go.RowKit
set_option maxRecDepth 100000 in
set_option maxHeartbeats 6400000 in
theorem appendConst_step {sh:Nat→List UInt8} (hsh:∀ B l,ShowR B l→l=sh B) (n:Nat) (ih:CoP sh n):CoP sh (n+1):=by
 intro B w v xs x c hown ht hr hok hlen
 obtain ⟨k,i,d,s,l⟩:=c
 obtain ⟨xk,xi,xd,xs',xl⟩:=x
 obtain ⟨rfl,rfl,rfl,rfl,hrl⟩:xk=k∧xi=i∧xd=d∧xs'=s∧LC n w (No v) xl l:=hr
 obtain ⟨⟨hk1,hk6⟩,hev,⟨hi1,hi2⟩,hd,hll,hoks⟩:=hok
 obtain ⟨A,ac,-,hxl,-,-,-,-,-⟩:=RepL.sl conA_size hrl
 have HRL:=Lib.hid hrl
 subst hxl
 obtain ⟨F,hF⟩:∃ F,Hid (constF tenS sh (n+1) (.mk xk xi xd xs' l)=F):=⟨_,Lib.hid rfl⟩
 rw [hF.out] at hlen ⊢
 have HIH:=Lib.hid ih
 have HSH:=Lib.hid hsh
 have HOK:=Lib.hid hoks
 have HLEN:=Lib.hid hlen
 have HOWN:=Lib.hid hown
 have HT:=Lib.hid ht
 obtain ⟨g,hg⟩:∃ g,w.heap.size=g:=⟨_,rfl⟩
 have hB:=Blk.new w #[.int .i64 (xk:Int),.int .i64 xi,.int .u64 (xd:Int),.string ⟨xs'.toArray⟩,.slice A l.length ac] 48
 rw [hg] at hB
 have hne:v.ownBlock≠some g:=by rw [← hg];exact hown.new
 have hn0:Nx w (w.alloc (.cells #[.int .i64 (xk:Int),.int .i64 xi,.int .u64 (xd:Int),.string ⟨xs'.toArray⟩,.slice A l.length ac] 48)):=nx0 _ _
 have HB:=Lib.hid hB
 have HN0:=Lib.hid hn0
 have HNE:=Lib.hid hne
 clear hrl hlen hoks ih hB hn0 hne hown ht hsh
 show Calls _ _ #[v,.agg #[.int .i64 (xk:Int),.int .i64 xi,.int .u64 (xd:Int),.string ⟨xs'.toArray⟩,.slice A l.length ac]] _ _
 go_enter Tryz.func52,Tryz.ntmps52
 go_upto_region 1 with fail
 generalize World.alloc w _=W at *
 have HO:=Lib.hid (HOWN.out.nx HN0.out)
 have HTW:=Lib.hid (HT.out.on ((Gw.nx HN0.out v).below HOWN.out))
 have c0:W.cell? ⟨g,0,none⟩=some (.int .i64 (xk:Int)):=HB.out.cell 0
 have c1:W.cell? ⟨g,1,none⟩=some (.int .i64 xi):=HB.out.cell 1
 have c2:W.cell? ⟨g,2,none⟩=some (.int .u64 (xd:Int)):=HB.out.cell 2
 have c3:W.cell? ⟨g,3,none⟩=some (.string ⟨xs'.toArray⟩):=HB.out.cell 3
 have c4:W.cell? ⟨g,4,none⟩=some (.slice A l.length ac):=HB.out.cell 4
 clear hg
 by_cases h1:xk=1
 ·subst h1
  obtain rfl:F=tenS xi:=hF.out.symm
  have hx:=HLEN.out
  go_wp2_with fail
  refine (appendInt_any B xi v xs W hi1 hi2 HO.out HTW.out (by omega)).mono ?_;rintro e w2 ⟨v2,rfl,ho,hg⟩
  have HO2:=Lib.hid ho;have HG2:=Lib.hid ((Gw.nx HN0.out v).trans hg);clear ho hg
  go_wp2_with fail
  go_ret
  exact ⟨v2,rfl,HO2.out,HG2.out⟩
 have b1:((xk:Int) == 1)=false:=by rw [beq_eq_false_iff_ne];omega
 have b1':¬ (xk:Int)=1:=by omega
 by_cases h2:xk=2
 ·subst h2
  obtain rfl:F=sh xd:=hF.out.symm
  have hx:(xs.length:Int)+((sh xd).length:Int)≤1000000000:=by have:=HLEN.out;omega
  go_wp2_with fail
  refine (dshow_any xd W hd HTW.out.here).mono ?_;rintro e w2 ⟨t,lt,rfl,HTX,hS,hn2⟩
  obtain rfl:lt=sh xd:=HSH.out _ _ hS.out
  have HO2:=Lib.hid (HO.out.nx hn2)
  have HG2:=Lib.hid (Gw.nx (HN0.out.trans hn2) v)
  clear hS hn2
  go_wp2_with (refine wpList_apS _ rfl _ _ rfl v xs rfl HO2.out t (sh xd) HTX.out rfl hx ?_;intro v3 w3 ho hg;have HO3:=Lib.hid ho;have HG3:=Lib.hid (HG2.out.trans hg);clear ho hg)
  go_ret
  exact ⟨v3,rfl,HO3.out,HG3.out⟩
 have b2:((xk:Int) == 2)=false:=by rw [beq_eq_false_iff_ne];omega
 have b2':¬ (xk:Int)=2:=by omega
 by_cases h3:xk=3
 ·subst h3
  have hF3:F=if xs'.contains 34 then 39 :: (xs'++[39]) else 34 :: (xs'++[34]):=hF.out.symm
  have hFl:F.length=xs'.length+2:=by rw [hF3];split <;> simp
  have hx:(xs.length:Int)+(xs'.length:Int)≤10000000:=by have:=HLEN.out;omega
  have HF3:=Lib.hid hF3
  clear hF3 hFl
  go_wp2_with fail
  refine (appendQuoted_any B ⟨xs'.toArray⟩ xs' v xs W (Tx.of _) HO.out hx).mono ?_;rintro e w2 ⟨v2,rfl,ho,hg⟩
  rw [← HF3.out] at ho
  have HO2:=Lib.hid ho;have HG2:=Lib.hid ((Gw.nx HN0.out v).trans hg);clear ho hg
  go_wp2_with fail
  go_ret
  exact ⟨v2,rfl,HO2.out,HG2.out⟩
 have b3:((xk:Int) == 3)=false:=by rw [beq_eq_false_iff_ne];omega
 have b3':¬ (xk:Int)=3:=by omega
 by_cases h4:xk=4
 ·subst h4
  obtain rfl:F=xs':=hF.out.symm
  have hx:(xs.length:Int)+(F.length:Int)≤1000000000:=by have:=HLEN.out;omega
  go_wp2_with (refine wpList_apS _ rfl _ _ rfl v xs rfl HO.out ⟨F.toArray⟩ F (Tx.of _) rfl hx ?_;intro v3 w3 ho hg;have HO3:=Lib.hid ho;have HG3:=Lib.hid ((Gw.nx HN0.out v).trans hg);clear ho hg)
  go_ret
  exact ⟨v3,rfl,HO3.out,HG3.out⟩
 have b4:((xk:Int) == 4)=false:=by rw [beq_eq_false_iff_ne];omega
 have b4':¬ (xk:Int)=4:=by omega
 by_cases h5:xk=5
 ·subst h5
  have hF5:F=91 :: (commaF (l.map (constF tenS sh n))++[93]):=hF.out.symm
  obtain ⟨I,hI⟩:∃ I,Hid (innF [44,32] (l.map (constF tenS sh n)) l.length=I):=⟨_,Lib.hid rfl⟩
  have hII:commaF (l.map (constF tenS sh n))=I:=by
   rw [← hI.out]
   have h:=innF_list (l.map (constF tenS sh n)) l.length (by rw [List.length_map];exact Nat.le_refl _)
   rw [h,List.take_of_length_le (by rw [List.length_map];exact Nat.le_refl _)]
  rw [hII] at hF5
  have HF5:Hid (xs++F=xs++[91]++I++[93]):=by unfold Hid;rw [hF5];simp
  have hlI:(xs.length:Int)+(I.length:Int)+2≤64000:=by
   have h:=HLEN.out
   rw [hF5] at h
   simp only [List.length_append,List.length_cons,List.length_nil] at h
   omega
  have HLI:=Lib.hid hlI
  obtain ⟨LV,hLV⟩:∃ LV,Hid (LV=Value.slice A l.length ac):=⟨_,Lib.hid rfl⟩
  clear hF5 hII hlI
  go_upto_region 11 with fail
  refine RI.wp_region_X (LsS B g v LV xs I 91 93 W) rfl (by kernel_rfl) (by kernel_rfl) ?_ ?_ ?_
  ·intro x
   refine ⟨v,xs,?_⟩
   have e:(fun j=>(Array.replicate 9 false).getD j false)=fun _=>false:=by
    funext j
    rw [Array.getD_eq_getD_getElem?]
    cases h:(Array.replicate 9 false)[j]? with
    | none=>rfl
    | some b =>
     obtain ⟨h1,h2⟩:=Array.getElem?_eq_some_iff.1 h
     simp at h2
     simp [← h2]
   show LsV B g v LV xs I 91 93 W (fun j=>(Array.replicate 9 false).getD j false) x _ v xs
   rw [e]
   exact ⟨HO.out.nx (Nx.drawn _),Gw.nx (Nx.drawn _) _,(fun h=>by cases h),(fun h=>by cases h),(fun h=>by cases h),(fun h=>by cases h),(fun h=>by cases h),fun _=>⟨rfl,rfl⟩,(fun h=>by cases h),(fun h=>by cases h),(fun h=>by cases h),(fun h=>by cases h)⟩
  ·refine ⟨?_,?_,?_,?_,?_,?_,?_,?_,?_,trivial⟩
   ·intro a x ls w' hS hsz hni hcl hin hout hd K hK
    obtain ⟨cv,ct,hS⟩:=hS
    have o:a.eval (.tmp 0)=v:=hout 0 (by kernel_rfl)
    have:=hK w' v ⟨cv,ct,by rw [getD_upd (by rw [hsz];decide)];exact hS.set0⟩
    rw [← o] at this
    exact this
   ·intro a x ls w' hS hsz hni hcl hin hout hd K hK
    obtain ⟨cv,ct,hS⟩:=hS
    have:=hK _ _ ⟨cv,ct,by rw [getD_upd (by rw [hsz];decide)];exact hS.set1⟩
    clear hin hout hd hcl hS hK
    go_simp
    exact this
   ·intro a x ls w' hS hsz hni hcl hin hout hd K hK
    obtain ⟨cv,ct,hS⟩:=hS
    have n2:ls.getD 2 false=false:=RI.off_of (by rw [hsz];decide) hni
    have n5:ls.getD 5 false=false:=hcl.not 20 5 2 (by kernel_rfl) hni
    have n7:ls.getD 7 false=false:=hcl.not 20 7 2 (by kernel_rfl) hni
    have y0:=hd ⟨0,.data⟩ (by simp) rfl
    have y1:=hd ⟨1,.data⟩ (by simp) rfl
    obtain ⟨rfl,rfl⟩:=hS.o2 n2
    obtain ⟨h,k1,k2,k3⟩:=hS.x1 y1
    have i0:a.eval (.tmp 34)=cv:=(hin 34 0 (by kernel_rfl) (show 34<53 by decide)).trans (hS.x0 y0)
    have i1:a.eval (.tmp 35) = .slice (some ⟨h,0,none⟩) 1 1:=(hin 35 1 (by kernel_rfl) (show 35<53 by decide)).trans k1
    refine op_ap1 w' (.tmp 34) (.tmp 35) rfl cv ct i0 hS.ob h 91 i1 (k2.cell 0) (by have:=HLI.out;omega) fun v' w2 ho hg=>?_
    exact hK w2 v' ⟨v',_,by rw [getD_upd (by rw [hsz];decide)];exact hS.set2 n5 n7 ho hg⟩
   ·intro a x ls w' hS hsz hni hcl hin hout hd K hK
    obtain ⟨cv,ct,hS⟩:=hS
    have i3:a.tmps.getD 3 undef = .pointer (some ⟨g,0,none⟩):=hout 3 (by kernel_rfl)
    have j3:=i3
    rw [Array.getD_eq_getD_getElem?] at j3
    have:=hK _ _ ⟨cv,ct,by rw [getD_upd (by rw [hsz];decide)];exact hS.set3⟩
    clear hin hout hd hcl hS hK
    go_simp
    exact this
   ·intro a x ls w' hS hsz hni hcl hin hout hd K hK
    obtain ⟨cv,ct,hS⟩:=hS
    have y3:=hd ⟨3,.data⟩ (by simp) rfl
    have i3:a.tmps.getD 37 undef = .pointer (some ⟨g,4,none⟩):=(hin 37 3 (by kernel_rfl) (show 37<53 by decide)).trans (hS.x3 y3)
    have j3:=i3
    rw [Array.getD_eq_getD_getElem?] at j3
    obtain ⟨hb2,-⟩:=hS.gw.blk HB.out HNE.out
    have k4:w'.cell? ⟨g,4,none⟩=some (.slice A l.length ac):=hb2.cell 4
    have:=hK _ _ ⟨cv,ct,by rw [getD_upd (by rw [hsz];decide)];exact hS.set4⟩
    rw [hLV.out] at this
    clear hin hout hd hcl hS hK hb2
    go_simp
    exact this
   ·intro a x ls w' hS hsz hni hcl hin hout hd K hK
    obtain ⟨cv,ct,hS⟩:=hS
    have n5:ls.getD 5 false=false:=RI.off_of (by rw [hsz];decide) hni
    have n7:ls.getD 7 false=false:=hcl.not 20 7 5 (by kernel_rfl) hni
    have y2:=hd ⟨2,.data⟩ (by simp) rfl
    have y4:=hd ⟨4,.data⟩ (by simp) rfl
    obtain ⟨e2,rfl⟩:=hS.o5 y2 n5
    have i2:a.tmps.getD 36 undef=cv:=(hin 36 2 (by kernel_rfl) (show 36<53 by decide)).trans e2.symm
    have i4:a.tmps.getD 38 undef = .slice A l.length ac:=((hin 38 4 (by kernel_rfl) (show 38<53 by decide)).trans (hS.x4 y4)).trans hLV.out
    have j2:=i2
    rw [Array.getD_eq_getD_getElem?] at j2
    have j4:=i4
    rw [Array.getD_eq_getD_getElem?] at j4
    have hcall:=appendInner_any HIH.out B w' cv (.slice A l.length ac) (xs++[91]) [44,32] l ⟨#[44,32]⟩ (Tx.of _) rfl hS.ob (HT.out.on (((Gw.nx HN0.out v).trans hS.gw).below HOWN.out)) (HRL.out.gw ((Gw.nx HN0.out v).trans hS.gw)) hll HOK.out
     (by rw [hI.out];have:=HLI.out;rw [List.length_append];simp only [List.length_cons,List.length_nil];omega)
    rw [hI.out] at hcall
    have HC:=Lib.hid hcall
    have HS:=Lib.hid hS
    have HK:=Lib.hid hK
    clear hin hout hd hcl hS hcall hK e2
    go_simp
    refine HC.out.mono ?_;rintro e w2 ⟨v2,rfl,ho,hg⟩
    exact HK.out w2 v2 ⟨v2,_,by rw [getD_upd (by rw [hsz];decide)];exact HS.out.set5 y2 n7 ho hg⟩
   ·intro a x ls w' hS hsz hni hcl hin hout hd K hK
    obtain ⟨cv,ct,hS⟩:=hS
    have:=hK _ _ ⟨cv,ct,by rw [getD_upd (by rw [hsz];decide)];exact hS.set6⟩
    clear hin hout hd hcl hS hK
    go_simp
    exact this
   ·intro a x ls w' hS hsz hni hcl hin hout hd K hK
    obtain ⟨cv,ct,hS⟩:=hS
    have n7:ls.getD 7 false=false:=RI.off_of (by rw [hsz];decide) hni
    have n8:ls.getD 8 false=false:=hcl.not 20 8 7 (by kernel_rfl) hni
    have y5:=hd ⟨5,.data⟩ (by simp) rfl
    have y6:=hd ⟨6,.data⟩ (by simp) rfl
    have y2:ls.getD 2 false=true:=hcl.reach 20 5 2 (by kernel_rfl) y5
    obtain ⟨e5,rfl⟩:=hS.o7 y5 n7
    obtain ⟨h,k1,k2,k3⟩:=hS.x6 y6
    have i0:a.eval (.tmp 39)=cv:=(hin 39 5 (by kernel_rfl) (show 39<53 by decide)).trans e5.symm
    have i1:a.eval (.tmp 40) = .slice (some ⟨h,0,none⟩) 1 1:=(hin 40 6 (by kernel_rfl) (show 40<53 by decide)).trans k1
    refine op_ap1 w' (.tmp 39) (.tmp 40) rfl cv _ i0 hS.ob h 93 i1 (k2.cell 0) (by have:=HLI.out;rw [List.length_append,List.length_append];simp only [List.length_cons,List.length_nil];omega) fun v' w2 ho hg=>?_
    exact hK w2 v' ⟨v',_,by rw [getD_upd (by rw [hsz];decide)];exact hS.set7 y2 y5 n8 ho hg⟩
   ·intro a x ls w' hS hsz hni hcl hin hout hd K hK
    obtain ⟨cv,ct,hS⟩:=hS
    have o:a.eval (.tmp 41)=x 7:=hin 41 7 (by kernel_rfl) (show 41<53 by decide)
    have:=hK w' (x 7) ⟨cv,ct,by rw [getD_upd (by rw [hsz];decide)];exact hS.set8⟩
    rw [← o] at this
    exact this
  ·intro A' x ls w' hS hall hin hout hA
   obtain ⟨cv,ct,hS⟩:=hS
   obtain ⟨e7,rfl⟩:=hS.x7 (hall 7 (by decide))
   have e8:=hS.x8 (hall 8 (by decide))
   have hA2:=hA.out
   clear hA hin hout hall
   simp only [RI.setAll,List.toList_toArray,List.set_cons_succ,List.set_cons_zero,Nat.reduceAdd] at hA2
   rw [e8,← e7] at hA2
   have HOB:=Lib.hid hS.ob
   have HGW:=Lib.hid ((Gw.nx HN0.out v).trans hS.gw)
   subst hA2
   clear hS e7 e8
   go_wp2_with fail
   go_ret
   exact ⟨cv,rfl,HOB.out.cast HF5.out.symm,HGW.out⟩
 ·obtain rfl:xk=6:=by omega
  have hF5:F=123 :: (commaF (pairsF (l.map (constF tenS sh n)))++[125]):=hF.out.symm
  obtain ⟨I,hI⟩:∃ I,Hid (innF [58,32] (l.map (constF tenS sh n)) l.length=I):=⟨_,Lib.hid rfl⟩
  have hII:commaF (pairsF (l.map (constF tenS sh n)))=I:=by
   rw [← hI.out]
   have hm:2 * (l.length / 2)=l.length:=by have:=hev rfl;omega
   have h:=innF_map (l.map (constF tenS sh n)) (l.length / 2) (by rw [List.length_map,hm];exact Nat.le_refl _)
   rw [hm] at h
   rw [h,List.take_of_length_le (by rw [List.length_map];exact Nat.le_refl _)]
  rw [hII] at hF5
  have HF5:Hid (xs++F=xs++[123]++I++[125]):=by unfold Hid;rw [hF5];simp
  have hlI:(xs.length:Int)+(I.length:Int)+2≤64000:=by
   have h:=HLEN.out
   rw [hF5] at h
   simp only [List.length_append,List.length_cons,List.length_nil] at h
   omega
  have HLI:=Lib.hid hlI
  obtain ⟨LV,hLV⟩:∃ LV,Hid (LV=Value.slice A l.length ac):=⟨_,Lib.hid rfl⟩
  clear hF5 hII hlI
  go_upto_region 13 with fail
  refine RI.wp_region_X (LsS B g v LV xs I 123 125 W) rfl (by kernel_rfl) (by kernel_rfl) ?_ ?_ ?_
  ·intro x
   refine ⟨v,xs,?_⟩
   have e:(fun j=>(Array.replicate 9 false).getD j false)=fun _=>false:=by
    funext j
    rw [Array.getD_eq_getD_getElem?]
    cases h:(Array.replicate 9 false)[j]? with
    | none=>rfl
    | some b =>
     obtain ⟨h1,h2⟩:=Array.getElem?_eq_some_iff.1 h
     simp at h2
     simp [← h2]
   show LsV B g v LV xs I 123 125 W (fun j=>(Array.replicate 9 false).getD j false) x _ v xs
   rw [e]
   exact ⟨HO.out.nx (Nx.drawn _),Gw.nx (Nx.drawn _) _,(fun h=>by cases h),(fun h=>by cases h),(fun h=>by cases h),(fun h=>by cases h),(fun h=>by cases h),fun _=>⟨rfl,rfl⟩,(fun h=>by cases h),(fun h=>by cases h),(fun h=>by cases h),(fun h=>by cases h)⟩
  ·refine ⟨?_,?_,?_,?_,?_,?_,?_,?_,?_,trivial⟩
   ·intro a x ls w' hS hsz hni hcl hin hout hd K hK
    obtain ⟨cv,ct,hS⟩:=hS
    have o:a.eval (.tmp 0)=v:=hout 0 (by kernel_rfl)
    have:=hK w' v ⟨cv,ct,by rw [getD_upd (by rw [hsz];decide)];exact hS.set0⟩
    rw [← o] at this
    exact this
   ·intro a x ls w' hS hsz hni hcl hin hout hd K hK
    obtain ⟨cv,ct,hS⟩:=hS
    have:=hK _ _ ⟨cv,ct,by rw [getD_upd (by rw [hsz];decide)];exact hS.set1⟩
    clear hin hout hd hcl hS hK
    go_simp
    exact this
   ·intro a x ls w' hS hsz hni hcl hin hout hd K hK
    obtain ⟨cv,ct,hS⟩:=hS
    have n2:ls.getD 2 false=false:=RI.off_of (by rw [hsz];decide) hni
    have n5:ls.getD 5 false=false:=hcl.not 20 5 2 (by kernel_rfl) hni
    have n7:ls.getD 7 false=false:=hcl.not 20 7 2 (by kernel_rfl) hni
    have y0:=hd ⟨0,.data⟩ (by simp) rfl
    have y1:=hd ⟨1,.data⟩ (by simp) rfl
    obtain ⟨rfl,rfl⟩:=hS.o2 n2
    obtain ⟨h,k1,k2,k3⟩:=hS.x1 y1
    have i0:a.eval (.tmp 44)=cv:=(hin 44 0 (by kernel_rfl) (show 44<53 by decide)).trans (hS.x0 y0)
    have i1:a.eval (.tmp 45) = .slice (some ⟨h,0,none⟩) 1 1:=(hin 45 1 (by kernel_rfl) (show 45<53 by decide)).trans k1
    refine op_ap1 w' (.tmp 44) (.tmp 45) rfl cv ct i0 hS.ob h 123 i1 (k2.cell 0) (by have:=HLI.out;omega) fun v' w2 ho hg=>?_
    exact hK w2 v' ⟨v',_,by rw [getD_upd (by rw [hsz];decide)];exact hS.set2 n5 n7 ho hg⟩
   ·intro a x ls w' hS hsz hni hcl hin hout hd K hK
    obtain ⟨cv,ct,hS⟩:=hS
    have i3:a.tmps.getD 3 undef = .pointer (some ⟨g,0,none⟩):=hout 3 (by kernel_rfl)
    have j3:=i3
    rw [Array.getD_eq_getD_getElem?] at j3
    have:=hK _ _ ⟨cv,ct,by rw [getD_upd (by rw [hsz];decide)];exact hS.set3⟩
    clear hin hout hd hcl hS hK
    go_simp
    exact this
   ·intro a x ls w' hS hsz hni hcl hin hout hd K hK
    obtain ⟨cv,ct,hS⟩:=hS
    have y3:=hd ⟨3,.data⟩ (by simp) rfl
    have i3:a.tmps.getD 47 undef = .pointer (some ⟨g,4,none⟩):=(hin 47 3 (by kernel_rfl) (show 47<53 by decide)).trans (hS.x3 y3)
    have j3:=i3
    rw [Array.getD_eq_getD_getElem?] at j3
    obtain ⟨hb2,-⟩:=hS.gw.blk HB.out HNE.out
    have k4:w'.cell? ⟨g,4,none⟩=some (.slice A l.length ac):=hb2.cell 4
    have:=hK _ _ ⟨cv,ct,by rw [getD_upd (by rw [hsz];decide)];exact hS.set4⟩
    rw [hLV.out] at this
    clear hin hout hd hcl hS hK hb2
    go_simp
    exact this
   ·intro a x ls w' hS hsz hni hcl hin hout hd K hK
    obtain ⟨cv,ct,hS⟩:=hS
    have n5:ls.getD 5 false=false:=RI.off_of (by rw [hsz];decide) hni
    have n7:ls.getD 7 false=false:=hcl.not 20 7 5 (by kernel_rfl) hni
    have y2:=hd ⟨2,.data⟩ (by simp) rfl
    have y4:=hd ⟨4,.data⟩ (by simp) rfl
    obtain ⟨e2,rfl⟩:=hS.o5 y2 n5
    have i2:a.tmps.getD 46 undef=cv:=(hin 46 2 (by kernel_rfl) (show 46<53 by decide)).trans e2.symm
    have i4:a.tmps.getD 48 undef = .slice A l.length ac:=((hin 48 4 (by kernel_rfl) (show 48<53 by decide)).trans (hS.x4 y4)).trans hLV.out
    have j2:=i2
    rw [Array.getD_eq_getD_getElem?] at j2
    have j4:=i4
    rw [Array.getD_eq_getD_getElem?] at j4
    have hcall:=appendInner_any HIH.out B w' cv (.slice A l.length ac) (xs++[123]) [58,32] l ⟨#[58,32]⟩ (Tx.of _) rfl hS.ob (HT.out.on (((Gw.nx HN0.out v).trans hS.gw).below HOWN.out)) (HRL.out.gw ((Gw.nx HN0.out v).trans hS.gw)) hll HOK.out
     (by rw [hI.out];have:=HLI.out;rw [List.length_append];simp only [List.length_cons,List.length_nil];omega)
    rw [hI.out] at hcall
    have HC:=Lib.hid hcall
    have HS:=Lib.hid hS
    have HK:=Lib.hid hK
    clear hin hout hd hcl hS hcall hK e2
    go_simp
    refine HC.out.mono ?_;rintro e w2 ⟨v2,rfl,ho,hg⟩
    exact HK.out w2 v2 ⟨v2,_,by rw [getD_upd (by rw [hsz];decide)];exact HS.out.set5 y2 n7 ho hg⟩
   ·intro a x ls w' hS hsz hni hcl hin hout hd K hK
    obtain ⟨cv,ct,hS⟩:=hS
    have:=hK _ _ ⟨cv,ct,by rw [getD_upd (by rw [hsz];decide)];exact hS.set6⟩
    clear hin hout hd hcl hS hK
    go_simp
    exact this
   ·intro a x ls w' hS hsz hni hcl hin hout hd K hK
    obtain ⟨cv,ct,hS⟩:=hS
    have n7:ls.getD 7 false=false:=RI.off_of (by rw [hsz];decide) hni
    have n8:ls.getD 8 false=false:=hcl.not 20 8 7 (by kernel_rfl) hni
    have y5:=hd ⟨5,.data⟩ (by simp) rfl
    have y6:=hd ⟨6,.data⟩ (by simp) rfl
    have y2:ls.getD 2 false=true:=hcl.reach 20 5 2 (by kernel_rfl) y5
    obtain ⟨e5,rfl⟩:=hS.o7 y5 n7
    obtain ⟨h,k1,k2,k3⟩:=hS.x6 y6
    have i0:a.eval (.tmp 49)=cv:=(hin 49 5 (by kernel_rfl) (show 49<53 by decide)).trans e5.symm
    have i1:a.eval (.tmp 50) = .slice (some ⟨h,0,none⟩) 1 1:=(hin 50 6 (by kernel_rfl) (show 50<53 by decide)).trans k1
    refine op_ap1 w' (.tmp 49) (.tmp 50) rfl cv _ i0 hS.ob h 125 i1 (k2.cell 0) (by have:=HLI.out;rw [List.length_append,List.length_append];simp only [List.length_cons,List.length_nil];omega) fun v' w2 ho hg=>?_
    exact hK w2 v' ⟨v',_,by rw [getD_upd (by rw [hsz];decide)];exact hS.set7 y2 y5 n8 ho hg⟩
   ·intro a x ls w' hS hsz hni hcl hin hout hd K hK
    obtain ⟨cv,ct,hS⟩:=hS
    have o:a.eval (.tmp 51)=x 7:=hin 51 7 (by kernel_rfl) (show 51<53 by decide)
    have:=hK w' (x 7) ⟨cv,ct,by rw [getD_upd (by rw [hsz];decide)];exact hS.set8⟩
    rw [← o] at this
    exact this
  ·intro A' x ls w' hS hall hin hout hA
   obtain ⟨cv,ct,hS⟩:=hS
   obtain ⟨e7,rfl⟩:=hS.x7 (hall 7 (by decide))
   have e8:=hS.x8 (hall 8 (by decide))
   have hA2:=hA.out
   clear hA hin hout hall
   simp only [RI.setAll,List.toList_toArray,List.set_cons_succ,List.set_cons_zero,Nat.reduceAdd] at hA2
   rw [e8,← e7] at hA2
   have HOB:=Lib.hid hS.ob
   have HGW:=Lib.hid ((Gw.nx HN0.out v).trans hS.gw)
   subst hA2
   clear hS e7 e8
   go_wp2_with fail
   go_ret
   exact ⟨cv,rfl,HOB.out.cast HF5.out.symm,HGW.out⟩
theorem appendConst_any {sh:Nat→List UInt8} (hsh:∀ B l,ShowR B l→l=sh B):∀ n,CoP sh n
 | 0=>fun _ _ _ _ _ _ _ _ _ hok _=>hok.elim
 | n+1=>appendConst_step hsh n (appendConst_any hsh n)
end Go.Proofs.YtjggghfekakogaaGreatDoor
namespace Go.Proofs.YtjggghfekakogaaGreatDoor
open Go.RowKit
set_option maxRecDepth 100000 in
set_option maxHeartbeats 1600000 in
theorem printConst_any {sh:Nat→List UInt8} (hsh:∀ B l,ShowR B l→l=sh B) (n:Nat) (w:World) (P:Nat→Prop) (x:ConS) (c:Con) (ht:Tab w) (hr:RC n w P x c) (hok:prC n c) (hlen:((constF tenS sh n c).length:Int)≤64000) :
  Calls Tryz.prog 25 #[.agg (conA x)] w fun e w'=>e = .returned (.string ⟨(constF tenS sh n c).toArray⟩)∧Nx w w':=by
 obtain ⟨xk,xi,xd,xs,xl⟩:=x
 obtain ⟨A,k,ac,hxl⟩:=hr.slv
 dsimp only at hxl
 subst hxl
 obtain ⟨F,hF⟩:∃ F,Hid (constF tenS sh n c=F):=⟨_,Lib.hid rfl⟩
 rw [hF.out] at hlen ⊢
 have hn0:Nx w (w.alloc (.cells #[.int .i64 (xk:Int),.int .i64 xi,.int .u64 (xd:Int),.string ⟨xs.toArray⟩,.slice A k ac] 48)):=nx0 _ _
 obtain ⟨g,hg⟩:∃ g,w.heap.size=g:=⟨_,rfl⟩
 have hB:=Blk.new w #[.int .i64 (xk:Int),.int .i64 xi,.int .u64 (xd:Int),.string ⟨xs.toArray⟩,.slice A k ac] 48
 rw [hg] at hB
 have HG:=Lib.hid hg
 have hcall:=fun (W:World) (hW:Nx w W)=>appendConst_any hsh n w.heap.size W (.slice none 0 0) [] ⟨xk,xi,xd,xs,.slice A k ac⟩ c (Ob.nil_ hW.size) (fun w' hb=>(TabB.of ht) w' (Below.trans hW hb)) (RC.lasts n ⟨fun g' _ hl=>hW.block g' hl,fun _ _ _ e=>by cases e⟩ hr) hok (by rw [hF.out];simp;omega)
 rw [hF.out] at hcall
 have HC:=Lib.hid hcall
 have HN0:=Lib.hid hn0
 have HB:=Lib.hid hB
 clear hr hok hlen hcall hn0 hB ht
 show Calls _ _ #[.agg #[.int .i64 (xk:Int),.int .i64 xi,.int .u64 (xd:Int),.string ⟨xs.toArray⟩,.slice A k ac]] _ _
 go_enter Tryz.func25,Tryz.ntmps25
 go_upto_region 1 with fail
 generalize World.alloc w _=W at *
 have c0:W.cell? ⟨g,0,none⟩=some (.int .i64 (xk:Int)):=HB.out.cell 0
 have c1:W.cell? ⟨g,1,none⟩=some (.int .i64 xi):=HB.out.cell 1
 have c2:W.cell? ⟨g,2,none⟩=some (.int .u64 (xd:Int)):=HB.out.cell 2
 have c3:W.cell? ⟨g,3,none⟩=some (.string ⟨xs.toArray⟩):=HB.out.cell 3
 have c4:W.cell? ⟨g,4,none⟩=some (.slice A k ac):=HB.out.cell 4
 clear hg
 go_wp2_with fail
 refine (HC.out W HN0.out).mono ?_;rintro e w2 ⟨v2,rfl,ho,hg⟩
 obtain ⟨A2,c2',rfl,h1,h2,hrd⟩:=ho.sl
 rw [List.nil_append] at hrd ⊢
 have HRD:=Lib.hid hrd
 have HNX:=Lib.hid (hg.toNx HN0.out (fun k e=>by cases e))
 clear ho hg hrd h1 h2
 go_wp2_with (refine wpList_str _ rfl _ rfl Tryz.underlying34 Tryz.underlying5 Tryz.underlying9 _ _ _ rfl HRD.out ?_;intro t HT ht1 ht2)
 go_ret
 rw [HT.out]
 exact ⟨rfl,HNX.out⟩
theorem RF.gw {v v':Value} {w w':World} {x:FldS} {c:Fld} (h:RF w (No v) x c) (hg:Gw v w v' w'):RF w' (No v') x c:=RF.lasts hg.mv h
theorem LF.gw {v v' lv:Value} {w w':World} {l:List Fld} (h:LF w (No v) lv l) (hg:Gw v w v' w'):LF w' (No v') lv l:=LF.lasts hg.mv h
set_option maxRecDepth 100000 in
set_option maxHeartbeats 6400000 in
theorem appendField_any {sh:Nat→List UInt8} (hsh:∀ B l,ShowR B l→l=sh B) (B:Nat) (w:World) (v:Value) (xs:List UInt8) (x:FldS) (f:Fld) (hown:Ob B w v xs) (ht:TabB B w) (hr:RF w (No v) x f) (hok:prF f)
  (hlen:(xs.length:Int)+((fieldF tenS sh f).length:Int)≤64000) :
  Calls Tryz.prog 94 #[v,.agg (fldA x)] w fun e w'=>∃ v',e = .returned v'∧Ob B w' v' (xs++fieldF tenS sh f)∧Gw v w v' w':=by
 obtain ⟨xh,xi,xq,xt,xn,xb,⟨ik,im,id,is,il⟩⟩:=x
 obtain ⟨fh,fi,fq,ft,fn,fb,fc⟩:=f
 obtain ⟨h1,h2,h3,h4,h5,h6,hrc⟩:=hr
 dsimp only at h1 h2 h3 h4 h5 h6 hrc
 subst h1 h2 h3 h4 h5 h6
 obtain ⟨⟨hi1,hi2⟩,hpc⟩:=hok
 dsimp only at hi1 hi2 hpc
 obtain ⟨A,k,ac,hxl⟩:=hrc.slv
 dsimp only at hxl
 subst hxl
 obtain ⟨P1,hP1⟩:∃ P:List UInt8,Hid ((if xh=true then tenS xi++[58,32] else [])=P):=⟨_,Lib.hid rfl⟩
 obtain ⟨P2,hP2⟩:∃ P:List UInt8,Hid ((if xq=1 then [114,101,113,117,105,114,101,100,32] else if xq=2 then [111,112,116,105,111,110,97,108,32] else [])=P):=⟨_,Lib.hid rfl⟩
 obtain ⟨P3,hP3⟩:∃ P:List UInt8,Hid ((if xb=true then [32,61,32]++constF tenS sh 13 fc else [])=P):=⟨_,Lib.hid rfl⟩
 have hFe:fieldF tenS sh ⟨xh,xi,xq,xt,xn,xb,fc⟩=P1++P2++xt++[32]++xn++P3:=by
  unfold fieldF
  dsimp only
  rw [hP1.out,hP2.out,hP3.out]
 rw [hFe] at hlen ⊢
 have hlen2:(xs.length:Int)+P1.length+P2.length+xt.length+1+xn.length+P3.length≤64000:=by
  simp only [List.length_append,List.length_cons,List.length_nil] at hlen;omega
 obtain ⟨g,hg⟩:∃ g,w.heap.size=g:=⟨_,rfl⟩
 have hB:=Blk.new w #[.bool xh,.int .i64 xi,.int .i64 (xq:Int),.string ⟨xt.toArray⟩,.string ⟨xn.toArray⟩,.bool xb,.int .i64 (ik:Int),.int .i64 im,.int .u64 (id:Int),.string ⟨is.toArray⟩,.slice A k ac] 59
 rw [hg] at hB
 have hne:v.ownBlock≠some g:=by rw [← hg];exact hown.new
 have hn0:Nx w (w.alloc (.cells #[.bool xh,.int .i64 xi,.int .i64 (xq:Int),.string ⟨xt.toArray⟩,.string ⟨xn.toArray⟩,.bool xb,.int .i64 (ik:Int),.int .i64 im,.int .u64 (id:Int),.string ⟨is.toArray⟩,.slice A k ac] 59)):=nx0 _ _
 have HB:=Lib.hid hB
 have HN0:=Lib.hid hn0
 have HNE:=Lib.hid hne
 have HOWN:=Lib.hid hown
 have HT:=Lib.hid ht
 have HRC:=Lib.hid hrc
 have HPC:=Lib.hid hpc
 have HLEN:=Lib.hid hlen2
 have HSH:=Lib.hid hsh
 clear hB hn0 hne hown ht hrc hpc hlen hlen2 hsh hFe
 show Calls _ _ #[v,.agg #[.bool xh,.int .i64 xi,.int .i64 (xq:Int),.string ⟨xt.toArray⟩,.string ⟨xn.toArray⟩,.bool xb,.int .i64 (ik:Int),.int .i64 im,.int .u64 (id:Int),.string ⟨is.toArray⟩,.slice A k ac]] _ _
 go_enter Tryz.func94,Tryz.ntmps94
 go_upto_region 1 with fail
 generalize World.alloc w _=W at *
 have HO:=Lib.hid (HOWN.out.nx HN0.out)
 have HG0:=Lib.hid (Gw.nx HN0.out v)
 clear hg
 have c0:W.cell? ⟨g,0,none⟩=some (.bool xh):=HB.out.cell 0
 have c1:W.cell? ⟨g,1,none⟩=some (.int .i64 xi):=HB.out.cell 1
 go_upto_if 6 with fail
 go_cut [0] (fun v' wx=>Hid (Ob B wx v' (xs++P1))∧Hid (Gw v W v' wx))
 case first =>
  cases xh with
  | true =>
   have hx:=HLEN.out
   have hP:P1=tenS xi++[58,32]:=hP1.out.symm
   go_wp2_with fail
   refine (appendInt_any B xi v xs W hi1 hi2 HO.out (HT.out.on (HG0.out.below HOWN.out)) (by omega)).mono ?_;rintro e w2 ⟨v2,rfl,ho,hg⟩
   have HO2:=Lib.hid ho;have HG2:=Lib.hid hg
   have hz:((xs++tenS xi).length:Int)+(([58,32]:List UInt8).length:Int)≤1000000000:=by rw [hP] at hx;simp only [List.length_append] at hx ⊢;omega
   have HP:=Lib.hid hP
   clear ho hg hx hP
   go_wp2_with (refine wpList_apS _ rfl _ _ rfl _ (xs++tenS xi) rfl HO2.out ⟨#[58,32]⟩ [58,32] (Tx.of _) rfl hz ?_;intro v3 w3 ho hg;have HO3:=Lib.hid ho;have HG3:=Lib.hid (HG2.out.trans hg);clear ho hg)
   go_meet
   case rel=>exact ⟨Lib.hid (HO3.out.cast (by rw [HP.out];simp)),HG3⟩
  | false =>
   have hP:P1=[]:=hP1.out.symm
   have HP:=Lib.hid hP
   clear hP
   go_wp2_with fail
   go_meet
   case rel=>exact ⟨Lib.hid (HO.out.cast (by rw [HP.out];simp)),Lib.hid (Gw.refl _ _)⟩
 case rest =>
 obtain ⟨HO1,HG1⟩:=hcut
 obtain ⟨hb1,hne1⟩:=HG1.out.blk HB.out HNE.out
 have HB1:=Lib.hid hb1
 have HNE1:=Lib.hid hne1
 have k2:wc.cell? ⟨g,2,none⟩=some (.int .i64 (xq:Int)):=hb1.cell 2
 have HRC1:Hid (RC 13 wc (No u0) ⟨ik,im,id,is,.slice A k ac⟩ fc):=HRC.out.gw (HG0.out.trans HG1.out)
 have HT1:=Lib.hid (HT.out.on ((HG0.out.trans HG1.out).below HOWN.out))
 have HGa:=Lib.hid (HG0.out.trans HG1.out)
 clear hb1 hne1 HB HNE HG1 HG0 HRC c0 c1 HO HN0
 generalize hu:u0=v1 at *
 clear hu
 generalize hwc:wc=w1 at *
 clear hwc
 go_upto_block 0 with fail
 go_cut [0] (fun v' wx=>Hid (Ob B wx v' (xs++P1++P2))∧Hid (Gw v1 w1 v' wx))
 case first =>
  by_cases h1:xq=1
  ·subst h1
   have hP:P2=[114,101,113,117,105,114,101,100,32]:=hP2.out.symm
   have hz:((xs++P1).length:Int)+(([114,101,113,117,105,114,101,100,32]:List UInt8).length:Int)≤1000000000:=by have:=HLEN.out;simp only [List.length_append,List.length_cons,List.length_nil];omega
   have HP:=Lib.hid hP
   clear hP
   go_wp2_with (refine wpList_apS _ rfl _ _ rfl _ (xs++P1) rfl HO1.out ⟨#[114,101,113,117,105,114,101,100,32]⟩ [114,101,113,117,105,114,101,100,32] (Tx.of _) rfl hz ?_;intro v3 w3 ho hg;have HO3:=Lib.hid ho;have HG3:=Lib.hid hg;clear ho hg)
   go_meet
   case rel=>exact ⟨Lib.hid (HO3.out.cast (by rw [HP.out])),HG3⟩
  ·have b1:((xq:Int) == 1)=false:=by rw [beq_eq_false_iff_ne];omega
   have b1':¬ (xq:Int)=1:=by omega
   by_cases h2:xq=2
   ·subst h2
    have hP:P2=[111,112,116,105,111,110,97,108,32]:=hP2.out.symm
    have hz:((xs++P1).length:Int)+(([111,112,116,105,111,110,97,108,32]:List UInt8).length:Int)≤1000000000:=by have:=HLEN.out;simp only [List.length_append,List.length_cons,List.length_nil];omega
    have HP:=Lib.hid hP
    clear hP h1
    go_wp2_with (refine wpList_apS _ rfl _ _ rfl _ (xs++P1) rfl HO1.out ⟨#[111,112,116,105,111,110,97,108,32]⟩ [111,112,116,105,111,110,97,108,32] (Tx.of _) rfl hz ?_;intro v3 w3 ho hg;have HO3:=Lib.hid ho;have HG3:=Lib.hid hg;clear ho hg)
    go_meet
    case rel=>exact ⟨Lib.hid (HO3.out.cast (by rw [HP.out])),HG3⟩
   ·have b2:((xq:Int) == 2)=false:=by rw [beq_eq_false_iff_ne];omega
    have b2':¬ (xq:Int)=2:=by omega
    have hP:P2=[]:=by rw [← hP2.out,if_neg h1,if_neg h2]
    have HP:=Lib.hid hP
    clear hP h1 h2
    go_wp2_with fail
    go_meet
    case rel=>exact ⟨Lib.hid (HO1.out.cast (by rw [HP.out,List.append_nil])),Lib.hid (Gw.refl _ _)⟩
 case rest =>
 obtain ⟨HO2,HG2⟩:=hcut
 obtain ⟨hb2,hne2⟩:=HG2.out.blk HB1.out HNE1.out
 have HB2:=Lib.hid hb2
 have HNE2:=Lib.hid hne2
 have k3:wc.cell? ⟨g,3,none⟩=some (.string ⟨xt.toArray⟩):=hb2.cell 3
 have k4:wc.cell? ⟨g,4,none⟩=some (.string ⟨xn.toArray⟩):=hb2.cell 4
 have HRC2:Hid (RC 13 wc (No u0) ⟨ik,im,id,is,.slice A k ac⟩ fc):=HRC1.out.gw HG2.out
 have HGb:=Lib.hid (HGa.out.trans HG2.out)
 have hz:((xs++P1++P2).length:Int)+([xt,[32],xn].flatten.length:Int)≤100000000:=by have:=HLEN.out;simp;omega
 obtain ⟨h2,hh2⟩:∃ h,wc.heap.size=h:=⟨_,rfl⟩
 clear hb2 hne2 HB1 HNE1 HG2 HRC1 k2 HO1 HGa
 go_wp2_with fail
 refine (appendAll_new [xt,[32],xn] HO2.out (by simp) hz h2 hh2).mono ?_;rintro e w3 ⟨v3,rfl,HO3,HG3⟩
 obtain ⟨hb3,hne3⟩:=HG3.out.blk HB2.out HNE2.out
 have k5:w3.cell? ⟨g,5,none⟩=some (.bool xb):=hb3.cell 5
 have k6:w3.cell? ⟨g,6,none⟩=some (.int .i64 (ik:Int)):=hb3.cell 6
 have k7:w3.cell? ⟨g,7,none⟩=some (.int .i64 im):=hb3.cell 7
 have k8:w3.cell? ⟨g,8,none⟩=some (.int .u64 (id:Int)):=hb3.cell 8
 have k9:w3.cell? ⟨g,9,none⟩=some (.string ⟨is.toArray⟩):=hb3.cell 9
 have k10:w3.cell? ⟨g,10,none⟩=some (.slice A k ac):=hb3.cell 10
 have HRC3:Hid (RC 13 w3 (No v3) ⟨ik,im,id,is,.slice A k ac⟩ fc):=HRC2.out.gw HG3.out
 have HGc:=Lib.hid (HGb.out.trans HG3.out)
 have HT3:=Lib.hid (HT1.out.on (Below.refl _ _))
 have hres:∀ Q:List UInt8,xs++P1++P2++[xt,[32],xn].flatten++Q=xs++(P1++P2++xt++[32]++xn++Q):=fun Q=>by simp
 have HRES:=Lib.hid hres
 clear hb3 hne3 HG3 HGb HRC2 k3 k4 hz hh2 hres HO2
 cases xb with
 | true =>
  have hP:P3=[32,61,32]++constF tenS sh 13 fc:=hP3.out.symm
  obtain ⟨E,hE⟩:∃ E,Hid (constF tenS sh 13 fc=E):=⟨_,Lib.hid rfl⟩
  rw [hE.out] at hP
  have hP':P3=[[32,61,32],E].flatten:=by rw [hP];simp
  have hz:((xs++P1++P2++[xt,[32],xn].flatten).length:Int)+([[32,61,32],E].flatten.length:Int)≤100000000:=by have:=HLEN.out;rw [hP'] at this;simp at this ⊢;omega
  have hel:(E.length:Int)≤64000:=by have:=HLEN.out;rw [hP] at this;simp only [List.length_append] at this;omega
  have hcall:=printConst_any HSH.out 13 w3 (No v3) ⟨ik,im,id,is,.slice A k ac⟩ fc ((HT.out.on (HGc.out.below HOWN.out)).here) HRC3.out (HPC.out rfl) (by rw [hE.out];exact hel)
  rw [hE.out] at hcall
  have HC:=Lib.hid hcall
  have HP:=Lib.hid hP'
  clear hP hP' hel hcall
  go_wp2_with fail
  refine HC.out.mono ?_;rintro e w4 ⟨rfl,hn4⟩
  have HO4:=Lib.hid (HO3.out.nx hn4)
  have HG4:=Lib.hid (HGc.out.trans (Gw.nx hn4 v3))
  obtain ⟨h4,hh4⟩:∃ h,w4.heap.size=h:=⟨_,rfl⟩
  clear hn4
  go_wp2_with fail
  refine (appendAll_new [[32,61,32],E] HO4.out (by simp) hz h4 hh4).mono ?_;rintro e w5 ⟨v5,rfl,HO5,HG5⟩
  clear hh4
  go_wp2_with fail
  go_ret
  exact ⟨v5,rfl,HO5.out.cast (by rw [← HP.out,HRES.out]),HG4.out.trans HG5.out⟩
 | false =>
  have hP:P3=[]:=hP3.out.symm
  have HP:=Lib.hid hP
  clear hP
  go_wp2_with fail
  go_ret
  exact ⟨v3,rfl,HO3.out.cast (by have:=HRES.out [];rw [List.append_nil] at this;rw [HP.out,this]),HGc.out⟩
end Go.Proofs.YtjggghfekakogaaGreatDoor
