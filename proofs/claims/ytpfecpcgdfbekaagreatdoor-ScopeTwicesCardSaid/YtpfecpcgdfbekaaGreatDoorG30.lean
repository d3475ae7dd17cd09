/- A definition, copied by way of a file. A definition, copied by way of a file: Get, copyOf. -/
import Derived.Test.YtpfecpcgdfbekaaGreatDoorG29
import Derived.BigRegion
set_option linter.unusedVariables false
set_option linter.unusedSimpArgs false
set_option linter.unnecessarySimpa false
namespace Go.Proofs.YtpfecpcgdfbekaaGreatDoor
open Go.RowKit
set_option maxRecDepth 100000 in
set_option maxHeartbeats 3200000 in
theorem copyFile_one (w:World) (A1 A2 A3:Option Addr) (c1 c2 c3:Nat) (d:Dfn) (hd:RepL dfnA 12 56 RD w (Fm 0) (.slice A3 1 c3) [d]) (hok:dfnB d=true) :
  Calls Tryz.prog 91 #[.agg #[.slice A1 0 c1,.slice A2 0 c2,.slice A3 1 c3]] w fun e w'=>∃ v1 v2 v3,e = .returned (.agg #[v1,v2,v3])∧IsSl v1∧IsSl v2∧RepL dfnA 12 56 RNm w' (Fm w.heap.size) v3 [d]∧Nx w w':=by
 have hmf:=makeFunc_runB
 have HD:=Lib.hid hd
 clear hd
 go_enter Tryz.func91,Tryz.ntmps91
 obtain ⟨gb,hgb⟩:∃ g,w.heap.size=g:=⟨_,rfl⟩
 obtain ⟨gr,hgr⟩:∃ g,gb+1=g:=⟨_,rfl⟩
 obtain ⟨gc,hgc⟩:∃ g,gr+1=g:=⟨_,rfl⟩
 go_upto_region 2 with (fail)
 obtain ⟨w1,hw1⟩:∃ w1,((w.alloc (.cells #[.slice A1 0 c1,.slice A2 0 c2,.slice A3 1 c3] 74)).alloc (.cells #[.slice none 0 0,.slice none 0 0,.slice none 0 0] 74)).alloc (.cells #[.int .i64 64000] 190)=w1:=⟨_,rfl⟩
 have HB:Hid (Blk w1 gb gb #[.slice A1 0 c1,.slice A2 0 c2,.slice A3 1 c3] 74):=by
  unfold Hid;rw [← hw1,← hgb];exact ((Blk.new w _ _).alloc _).alloc _
 have HR:Hid (Blk w1 gb gr #[.slice none 0 0,.slice none 0 0,.slice none 0 0] 74):=by
  unfold Hid;rw [← hw1,← hgr,← hgb,show w.heap.size+1=(w.alloc (.cells #[.slice A1 0 c1,.slice A2 0 c2,.slice A3 1 c3] 74)).heap.size from by simp]
  exact ((Blk.new (w.alloc (.cells #[.slice A1 0 c1,.slice A2 0 c2,.slice A3 1 c3] 74)) _ _).alloc _).less (by simp)
 have HN:Hid (Nx w w1):=by unfold Hid;rw [← hw1];exact Nx.al (Nx.al (nx0 w _) _) _
 have HCP:Hid (Cp gc w1):=by
  refine ⟨64000,Nat.le_refl _,?_⟩
  have e:gc=((w.alloc (.cells #[.slice A1 0 c1,.slice A2 0 c2,.slice A3 1 c3] 74)).alloc (.cells #[.slice none 0 0,.slice none 0 0,.slice none 0 0] 74)).heap.size:=by simp;omega
  rw [← hw1,e]
  exact Blk.new _ _ _
 rw [hw1]
 have HGB:=Lib.hid hgb
 have HLT:Hid (gb<gr∧gr<gc):=by unfold Hid;omega
 have hne1:gc≠gb:=by omega
 have hne2:gc≠gr:=by omega
 have HD1:Hid (RepL dfnA 12 56 RD w1 (Ltg gc) (.slice A3 1 c3) [d]):=by
  refine RepL.mv RD.lasts ⟨fun g _ hl=>HN.out.block g hl,fun g _ hl=>?_⟩ HD.out
  show g<gc
  omega
 have HOK:Hid (∀ c ∈ [d],dfnB c=true):=fun c hc=>by rw [List.mem_singleton.1 hc];exact hok
 clear hw1 hgb hgr hgc
 have L0:∀ x:EO.GrO gc w1,x.1.cell? ⟨gb,0,none⟩=some (.slice A1 0 c1):=fun x=>(x.2.blk HB.out (Ne.symm hne1)).cell 0
 have L1:∀ x:EO.GrO gc w1,x.1.cell? ⟨gb,1,none⟩=some (.slice A2 0 c2):=fun x=>(x.2.blk HB.out (Ne.symm hne1)).cell 1
 have L2:∀ x:EO.GrO gc w1,x.1.cell? ⟨gb,2,none⟩=some (.slice A3 1 c3):=fun x=>(x.2.blk HB.out (Ne.symm hne1)).cell 2
 refine EO.wp_region_hyb ⟨[11],gc⟩ [(0,1),(1,1),(3,1),(4,1),(6,1),(7,1),(8,2),(2,0),(5,0),(9,0),(10,2),(11,0)] rfl (by kernel_rfl) ?_
 iterate 6 (refine EO.hyb_calm rfl (fun K hK=>?_);go_simp;refine hK _ ?_;clear hK K)
 refine EO.hyb_pure rfl (fun K hK=>?_);go_simp;refine hK _ ?_;clear hK K
 clear L0 L1 L2
 refine EO.hyb_alone rfl (fun w2 hn2 K hK=>?_)
 go_simp
 refine (eachI_nil w2 _ _ _).mono ?_;rintro e w3 ⟨v1,rfl,⟨g1,rfl⟩,hn3⟩
 refine hK _ _ (.inr (Oth.nx hn3)) ?_
 clear hK K
 refine EO.hyb_alone rfl (fun w4 hn4 K hK=>?_)
 go_simp
 refine (eachS_nil w4 _ _ _).mono ?_;rintro e w5 ⟨v2,rfl,⟨g2,rfl⟩,hn5⟩
 refine hK _ _ (.inr (Oth.nx hn5)) ?_
 clear hK K
 refine EO.hyb_alone rfl (fun w6 hn6 K hK=>?_)
 have hnA:Nx w1 w6:=hn2.trans (hn3.trans (hn4.trans (hn5.trans hn6)))
 have hcA:=eachD_any gc w6 (.slice A3 1 c3) [d] (HCP.out.nx hnA) (RepL.mv RD.lasts (mvO (Oth.nx hnA)) HD1.out) HOK.out (by simp)
 go_simp
 refine hcA.mono ?_;rintro e w7 ⟨v3,rfl,hr7,ho7,hcp7⟩
 obtain ⟨A7,c7,_,h7,-⟩:=hr7.sl dfnA_size
 have h7':v3 = .slice A7 1 c7:=h7
 subst h7'
 refine hK _ _ (.inr ho7) ?_
 clear hK K hcA h7
 refine EO.hyb_pure rfl (fun K hK=>?_);go_simp;refine hK _ ?_;clear hK K
 refine EO.hyb_alone rfl (fun w8 hn8 K hK=>?_)
 have hoZ:Oth gc w1 w8:=(Oth.nx hnA).trans (ho7.trans (Oth.nx hn8))
 have hb8:=hoZ.blk HR.out (Ne.symm hne2)
 have r0:w8.cell? ⟨gr,0,none⟩=some (.slice none 0 0):=hb8.cell 0
 have r1:w8.cell? ⟨gr,1,none⟩=some (.slice none 0 0):=hb8.cell 1
 have r2:w8.cell? ⟨gr,2,none⟩=some (.slice none 0 0):=hb8.cell 2
 have f0:=hb8.free 0
 have f1:=hb8.free 1
 have f2:=hb8.free 2
 have HB8:=Lib.hid hb8
 have HN8:Hid (Nx w w8):=hoZ.to HN.out (by have:=HLT.out;have:=HGB.out;omega)
 have HR8:Hid (RepL dfnA 12 56 RNm w8 (Fm w6.heap.size) (.slice A7 1 c7) [d]):=RepL.nx RNm.lasts hr7 hn8
 have HZ6:Hid (gr<w6.heap.size):=Nat.lt_of_lt_of_le HR.out.lt hnA.size
 have HZ7:Hid (w.heap.size≤w6.heap.size):=(HN.out.trans hnA).size
 clear hoZ hb8 hr7 ho7 hcp7
 go_simp
 refine hK _ _ (.inl (by simp)) ?_
 clear hK K r0 r1 r2 f0 f1 f2
 have HB9:=Lib.hid (((HB8.out.put 0 (.slice (some ⟨g1,0,none⟩) 0 0)).put 1 (.slice (some ⟨g2,0,none⟩) 0 0)).put 2 (.slice A7 1 c7))
 have HN9:Hid (Nx w (((w8.setCell ⟨gr,0,none⟩ (.slice (some ⟨g1,0,none⟩) 0 0)).setCell ⟨gr,1,none⟩ (.slice (some ⟨g2,0,none⟩) 0 0)).setCell ⟨gr,2,none⟩ (.slice A7 1 c7))):=by
  have hg:w.heap.size≤gr:=by have:=HLT.out;have:=HGB.out;omega
  exact ((HN8.out.put' hg 0 _).put' hg 1 _).put' hg 2 _
 have HR9:Hid (RepL dfnA 12 56 RNm (((w8.setCell ⟨gr,0,none⟩ (.slice (some ⟨g1,0,none⟩) 0 0)).setCell ⟨gr,1,none⟩ (.slice (some ⟨g2,0,none⟩) 0 0)).setCell ⟨gr,2,none⟩ (.slice A7 1 c7)) (Fm w.heap.size) (.slice A7 1 c7) [d]):=by
  refine RepL.mv RNm.lasts ⟨fun g hg _=>?_,fun g hg _=>Nat.le_trans HZ7.out hg⟩ HR8.out
  have:w6.heap.size≤g:=hg
  have:=HZ6.out
  simp only [World.setCell]
  rw [Array.getElem?_modify,if_neg (by show ¬ gr=g;omega),Array.getElem?_modify,if_neg (by show ¬ gr=g;omega),Array.getElem?_modify,if_neg (by show ¬ gr=g;omega)]
 generalize World.setCell (World.setCell (World.setCell _ _ _) _ _) _ _=w9 at *
 refine EO.hyb_nil (fun w10 hn10=>?_)
 have HB10:=Lib.hid (HB9.out.below hn10)
 have HN10:=Lib.hid (HN9.out.trans hn10)
 have HR10:=Lib.hid (RepL.nx RNm.lasts HR9.out hn10)
 go_wp2_with fail
 refine bodyPost_ret (results_cell_row rfl _ _ gr _ _ _ _ rfl HB10.out.2 Tryz.underlying74 rfl (by kernel_rfl)) rfl ?_
 exact ⟨_,_,_,rfl,⟨_,_,_,rfl⟩,⟨_,_,_,rfl⟩,HR10.out,HN10.out⟩
end Go.Proofs.YtpfecpcgdfbekaaGreatDoor
namespace Go.Proofs.YtpfecpcgdfbekaaGreatDoor
open Go.RowKit
theorem results_cell_tmp_rowB {P:Program} {fn:Func} {p u1:Tmp} {ty:TypeId} (h:fn.results=#[.cell p ty,.tmp u1]) (tmps:Array Value) (w:World) (g:Nat) (t:TypeId) (cs:Array Value) (fr:Nat×Nat) (d:TypeDesc)
  (hp:tmps.getD p undef = .pointer (some ⟨g,0,none⟩)) (hg:w.heap[g]? = some (.cells cs t fr))
  (hu:P.underlying ty=some d) (hd:(match d with | .struct _ | .array _ _=>true | _=>false)=true) (hi:(P.info? ty).map (·.size)=some cs.size) :
  (results fn tmps).run P w = .ok (.tuple #[.agg cs,tmps.getD u1 undef]) w:=by
 have hp':tmps[p]?.getD undef = .pointer (some ⟨g,0,none⟩):=by simpa using hp
 simp [results,h,hp',asAddr,run_loadVar_row w g t ty cs fr d hg hu hd hi]
set_option maxRecDepth 100000 in
set_option maxHeartbeats 3200000 in
theorem get_one (w:World) (gn gf:Nat) (A3:Option Addr) (c3:Nat) (d:Dfn) (hn:w.cell? ⟨gn,0,none⟩=some (.string ⟨#[]⟩)) (hgn:gn<w.heap.size) (hgf:gf<w.heap.size) (h0:w.cell? ⟨gf,0,none⟩=some (.slice none 0 0)) (h1:w.cell? ⟨gf,1,none⟩=some (.slice none 0 0)) (h2:w.cell? ⟨gf,2,none⟩=some (.slice A3 1 c3))
  (hd:RepL dfnA 12 56 RD w (Fm 0) (.slice A3 1 c3) [d]) (hok:dfnB d=true) :
  Calls Tryz.prog 64 #[.agg #[.slice (some ⟨gn,0,none⟩) 1 1,.slice (some ⟨gf,0,none⟩) 1 1],.string ⟨#[]⟩] w fun e w'=>∃ v1 v2 v3,e = .returned (.tuple #[.agg #[v1,v2,v3],.bool true])∧IsSl v1∧IsSl v2∧RepL dfnA 12 56 RNm w' (Fm w.heap.size) v3 [d]∧Nx w w':=by
 have HRD:Hid (RdS strA 1 w (some ⟨gn,0,none⟩) [[]]):=by
  intro _
  refine ⟨gn,rfl,hgn,fun i hi j hj=>?_⟩
  obtain rfl:i=0:=by simp at hi;omega
  obtain rfl:j=0:=by omega
  exact hn
 have HD:=Lib.hid hd
 have HOK:=Lib.hid hok
 have HF:=Lib.hid hgf
 have H0:=Lib.hid h0
 have H1:=Lib.hid h1
 have H2:=Lib.hid h2
 clear hn hgn hgf h0 h1 h2 hd hok
 obtain ⟨gb,hgb⟩:∃ g,w.heap.size=g:=⟨_,rfl⟩
 obtain ⟨gr,hgr⟩:∃ g,gb+1=g:=⟨_,rfl⟩
 go_enter Tryz.func64,Tryz.ntmps64
 go_upto_region 1 with (fail)
 obtain ⟨w1,hw1⟩:∃ w1,(w.alloc (.cells #[.slice (some ⟨gn,0,none⟩) 1 1,.slice (some ⟨gf,0,none⟩) 1 1] 39)).alloc (.cells #[.slice none 0 0,.slice none 0 0,.slice none 0 0] 74)=w1:=⟨_,rfl⟩
 have HB:Hid (Blk w1 gb gb #[.slice (some ⟨gn,0,none⟩) 1 1,.slice (some ⟨gf,0,none⟩) 1 1] 39):=by
  unfold Hid;rw [← hw1,← hgb];exact (Blk.new w _ _).alloc _
 have HR:Hid (Blk w1 gb gr #[.slice none 0 0,.slice none 0 0,.slice none 0 0] 74):=by
  unfold Hid;rw [← hw1,← hgr,← hgb,show w.heap.size+1=(w.alloc (.cells #[.slice (some ⟨gn,0,none⟩) 1 1,.slice (some ⟨gf,0,none⟩) 1 1] 39)).heap.size from by simp]
  exact (Blk.new (w.alloc (.cells #[.slice (some ⟨gn,0,none⟩) 1 1,.slice (some ⟨gf,0,none⟩) 1 1] 39)) _ _).less (by simp)
 have HN:Hid (Nx w w1):=by unfold Hid;rw [← hw1];exact Nx.al (nx0 w _) _
 rw [hw1]
 have HGB:=Lib.hid hgb
 clear hw1 hgb hgr
 have b0:w1.cell? ⟨gb,0,none⟩=some (.slice (some ⟨gn,0,none⟩) 1 1):=HB.out.cell 0
 have HIX:=Lib.hid (sidx_any w1 (some ⟨gn,0,none⟩) 1 1 [[]] rfl (HRD.out.nx HN.out) (by decide) ⟨#[]⟩ [] (Tx.of []))
 go_wp2_with fail
 refine HIX.out.mono ?_;rintro e w2 ⟨rfl,hw⟩;obtain rfl:=hw.symm
 rw [show idxI [[]] []=0 from rfl]
 have b1:w1.cell? ⟨gb,1,none⟩=some (.slice (some ⟨gf,0,none⟩) 1 1):=HB.out.cell 1
 have e0:w1.cell? ⟨gf,0,none⟩=some (.slice none 0 0):=(HN.out.cell (p:=⟨gf,0,none⟩) HF.out).trans H0.out
 have e1:w1.cell? ⟨gf,1,none⟩=some (.slice none 0 0):=(HN.out.cell (p:=⟨gf,1,none⟩) HF.out).trans H1.out
 have e2:w1.cell? ⟨gf,2,none⟩=some (.slice A3 1 c3):=(HN.out.cell (p:=⟨gf,2,none⟩) HF.out).trans H2.out
 clear b0
 go_wp2_with fail
 refine (copyFile_one w1 _ _ _ _ _ _ d (RepL.nx RD.lasts HD.out HN.out) HOK.out).mono ?_;rintro e w3 ⟨v1,v2,v3,rfl,⟨A1,n1,c1,rfl⟩,⟨A2,n2,c2,rfl⟩,hr3,hn3⟩
 obtain ⟨A7,c7,_,h7,-⟩:=hr3.sl dfnA_size
 have h7':v3 = .slice A7 1 c7:=h7
 subst h7'
 have hb3:=HR.out.below hn3
 have HN3:=Lib.hid (HN.out.trans hn3)
 have HR3:=Lib.hid hb3
 have HL3:=Lib.hid hr3
 have r0:w3.cell? ⟨gr,0,none⟩=some (.slice none 0 0):=hb3.cell 0
 have r1:w3.cell? ⟨gr,1,none⟩=some (.slice none 0 0):=hb3.cell 1
 have r2:w3.cell? ⟨gr,2,none⟩=some (.slice none 0 0):=hb3.cell 2
 have f0:=hb3.free 0
 have f1:=hb3.free 1
 have f2:=hb3.free 2
 clear b1 e0 e1 e2 hn3 hb3 hr3 h7
 go_wp2_with fail
 refine bodyPost_ret (results_cell_tmp_rowB rfl _ _ gr _ _ _ _ rfl (((HR3.out.put 0 (.slice A1 n1 c1)).put 1 (.slice A2 n2 c2)).put 2 (.slice A7 1 c7)).2 Tryz.underlying74 rfl (by kernel_rfl)) rfl ?_
 have hgg:w.heap.size≤gr:=by rw [HGB.out];exact HR.out.1
 have hgl:=HR.out.lt
 refine ⟨_,_,_,rfl,⟨_,_,_,rfl⟩,⟨_,_,_,rfl⟩,?_,Nx.put' (Nx.put' (Nx.put' HN3.out hgg 0 _) hgg 1 _) hgg 2 _⟩
 refine RepL.mv RNm.lasts ⟨fun g hg _=>?_,fun g hg _=>Nat.le_trans HN.out.size hg⟩ HL3.out
 have:w1.heap.size≤g:=hg
 simp only [World.setCell]
 rw [Array.getElem?_modify,if_neg (by show ¬ gr=g;omega),Array.getElem?_modify,if_neg (by show ¬ gr=g;omega),Array.getElem?_modify,if_neg (by show ¬ gr=g;omega)]
theorem rep_one {w:World} {x:DfnS} {d:Dfn} {gd:Nat} (h:RD w (Fm 0) x d) {w':World} (hn:Nx w w') (hb:Blk w' w.heap.size gd (dfnA x) 56):RepL dfnA 12 56 RD w' (Fm 0) (.slice (some ⟨gd,0,none⟩) 1 1) [d]:=by
 refine ⟨[x],⟨⟨by simp [rowL,dfnA],.inr ⟨gd,1,dfnA x,rfl,Nat.zero_le _,hb.2,Nat.le_refl _,by simp [maxLen],rfl,?_⟩⟩,fun _ _=>Nat.zero_le _⟩,?_,trivial⟩
 ·simp [rowL,dfnA]
 ·refine RD.lasts ⟨fun g _ hl=>hn.block g hl,fun g hg hl=>⟨hg,fun e=>?_⟩⟩ h
  cases e
  have h1:=hb.1
  have h2:gd<w.heap.size:=hl
  omega
set_option maxRecDepth 100000 in
set_option maxHeartbeats 6400000 in
theorem copyOf_any (w:World) (x:DfnS) (d:Dfn) (hx:RD w (Fm 0) x d) (hok:dfnB d=true) :
  Calls Tryz.prog 46 #[.agg (dfnA x)] w fun e w'=>∃ z,e = .returned (.agg (dfnA z))∧z.k=d.k∧z.nm=d.nm∧z.ty=d.ty∧IsSl z.ini.l∧IsSl z.fields∧IsSl z.mems∧IsSl z.mets∧Nx w w':=by
 have HX:=Lib.hid hx
 have HOK:=Lib.hid hok
 obtain ⟨dk,dn,dt,⟨xk,xn,xd,s,xl⟩,xf,xm,de,xt⟩:=x
 obtain ⟨zA,zu,zc,hxl⟩:∃ A k c,xl = .slice A k c:=rc_sl hx.2.2.2.1
 obtain ⟨fA,fu,fc,hxf⟩:∃ A k c,xf = .slice A k c:=by obtain ⟨A,c,_,h,-⟩:=hx.2.2.2.2.1.sl fldA_size;exact ⟨_,_,_,h⟩
 obtain ⟨mA,mu,mc,hxm⟩:∃ A k c,xm = .slice A k c:=by obtain ⟨A,c,_,h,-⟩:=hx.2.2.2.2.2.1.sl memA_size;exact ⟨_,_,_,h⟩
 obtain ⟨tA,tu,tc,hxt⟩:∃ A k c,xt = .slice A k c:=by obtain ⟨A,c,_,h,-⟩:=hx.2.2.2.2.2.2.2.sl metA_size;exact ⟨_,_,_,h⟩
 subst hxl hxf hxm hxt
 clear hx hok
 obtain ⟨gx,hgx⟩:∃ g,w.heap.size=g:=⟨_,rfl⟩
 obtain ⟨gr,hgr⟩:∃ g,gx+1=g:=⟨_,rfl⟩
 obtain ⟨gs,hgs⟩:∃ g,gr+1=g:=⟨_,rfl⟩
 obtain ⟨gd,hgd⟩:∃ g,gs+1=g:=⟨_,rfl⟩
 obtain ⟨gf,hgf⟩:∃ g,gd+1=g:=⟨_,rfl⟩
 obtain ⟨w1,hw⟩:∃ w1,(w.alloc (.cells #[.int .i64 (dk:Int),.string ⟨dn.toArray⟩,.string ⟨dt.toArray⟩,.int .i64 (xk:Int),.int .i64 xn,.int .u64 (xd:Int),.string ⟨s.toArray⟩,.slice zA zu zc,.slice fA fu fc,.slice mA mu mc,.string ⟨de.toArray⟩,.slice tA tu tc] 56)).alloc (.cells #[.int .i64 0,.string ⟨#[]⟩,.string ⟨#[]⟩,.int .i64 0,.int .i64 0,.int .u64 0,.string ⟨#[]⟩,.slice none 0 0,.slice none 0 0,.slice none 0 0,.string ⟨#[]⟩,.slice none 0 0] 56)=w1:=⟨_,rfl⟩
 have HBX:Hid (Blk w1 gx gx #[.int .i64 (dk:Int),.string ⟨dn.toArray⟩,.string ⟨dt.toArray⟩,.int .i64 (xk:Int),.int .i64 xn,.int .u64 (xd:Int),.string ⟨s.toArray⟩,.slice zA zu zc,.slice fA fu fc,.slice mA mu mc,.string ⟨de.toArray⟩,.slice tA tu tc] 56):=by
  unfold Hid;rw [← hw,← hgx];exact (Blk.new w _ _).alloc _
 have HBR:Hid (Blk w1 gx gr #[.int .i64 0,.string ⟨#[]⟩,.string ⟨#[]⟩,.int .i64 0,.int .i64 0,.int .u64 0,.string ⟨#[]⟩,.slice none 0 0,.slice none 0 0,.slice none 0 0,.string ⟨#[]⟩,.slice none 0 0] 56):=by
  unfold Hid;rw [← hw,← hgr,← hgx,show w.heap.size+1=(w.alloc (.cells #[.int .i64 (dk:Int),.string ⟨dn.toArray⟩,.string ⟨dt.toArray⟩,.int .i64 (xk:Int),.int .i64 xn,.int .u64 (xd:Int),.string ⟨s.toArray⟩,.slice zA zu zc,.slice fA fu fc,.slice mA mu mc,.string ⟨de.toArray⟩,.slice tA tu tc] 56)).heap.size from by simp]
  exact (Blk.new (w.alloc (.cells #[.int .i64 (dk:Int),.string ⟨dn.toArray⟩,.string ⟨dt.toArray⟩,.int .i64 (xk:Int),.int .i64 xn,.int .u64 (xd:Int),.string ⟨s.toArray⟩,.slice zA zu zc,.slice fA fu fc,.slice mA mu mc,.string ⟨de.toArray⟩,.slice tA tu tc] 56)) _ _).less (by simp)
 have HN1:Hid (Nx w w1):=by unfold Hid;rw [← hw];exact Nx.al (nx0 w _) _
 have hsz:w1.heap.size=gs:=by rw [← hw];simp;omega
 have HGX:=Lib.hid hgx
 have HLT:Hid (gx<gr∧gr<gs∧gs<gd∧gd<gf):=by unfold Hid;omega
 show Calls _ _ #[.agg #[.int .i64 (dk:Int),.string ⟨dn.toArray⟩,.string ⟨dt.toArray⟩,.int .i64 (xk:Int),.int .i64 xn,.int .u64 (xd:Int),.string ⟨s.toArray⟩,.slice zA zu zc,.slice fA fu fc,.slice mA mu mc,.string ⟨de.toArray⟩,.slice tA tu tc]] _ _
 go_enter Tryz.func46,Tryz.ntmps46
 go_upto_region 1 with (fail)
 try rw [hw]
 clear hw hgx hgr
 obtain ⟨w2,hw2⟩:∃ w2,w1.alloc (.cells #[.string ⟨#[]⟩] 9)=w2:=⟨_,rfl⟩
 have HBS2:Hid (Blk w2 gs gs #[.string ⟨#[]⟩] 9):=by
  unfold Hid;rw [← hw2,← hsz];exact Blk.new w1 _ _
 have hz2:w2.heap.size=gd:=by rw [← hw2];simp;omega
 have HN2:Hid (Nx w1 w2):=by unfold Hid;rw [← hw2];exact nx0 _ _
 have hb2:=HBX.out.below HN2.out
 have x0:w2.cell? ⟨gx,0,none⟩=some (.int .i64 (dk:Int)):=hb2.cell 0
 have x1:w2.cell? ⟨gx,1,none⟩=some (.string ⟨dn.toArray⟩):=hb2.cell 1
 have x2:w2.cell? ⟨gx,2,none⟩=some (.string ⟨dt.toArray⟩):=hb2.cell 2
 have x3:w2.cell? ⟨gx,3,none⟩=some (.int .i64 (xk:Int)):=hb2.cell 3
 have x4:w2.cell? ⟨gx,4,none⟩=some (.int .i64 xn):=hb2.cell 4
 have x5:w2.cell? ⟨gx,5,none⟩=some (.int .u64 (xd:Int)):=hb2.cell 5
 have x6:w2.cell? ⟨gx,6,none⟩=some (.string ⟨s.toArray⟩):=hb2.cell 6
 have x7:w2.cell? ⟨gx,7,none⟩=some (.slice zA zu zc):=hb2.cell 7
 have x8:w2.cell? ⟨gx,8,none⟩=some (.slice fA fu fc):=hb2.cell 8
 have x9:w2.cell? ⟨gx,9,none⟩=some (.slice mA mu mc):=hb2.cell 9
 have x10:w2.cell? ⟨gx,10,none⟩=some (.string ⟨de.toArray⟩):=hb2.cell 10
 have x11:w2.cell? ⟨gx,11,none⟩=some (.slice tA tu tc):=hb2.cell 11
 clear hb2
 obtain ⟨w4,hw4⟩:∃ w4,(w2.alloc (.cells #[.int .i64 (dk:Int),.string ⟨dn.toArray⟩,.string ⟨dt.toArray⟩,.int .i64 (xk:Int),.int .i64 xn,.int .u64 (xd:Int),.string ⟨s.toArray⟩,.slice zA zu zc,.slice fA fu fc,.slice mA mu mc,.string ⟨de.toArray⟩,.slice tA tu tc] 56)).alloc (.cells #[.slice none 0 0,.slice none 0 0,.slice (some ⟨gd,0,none⟩) 1 1] 74)=w4:=⟨_,rfl⟩
 have hs3:(w2.alloc (.cells #[.int .i64 (dk:Int),.string ⟨dn.toArray⟩,.string ⟨dt.toArray⟩,.int .i64 (xk:Int),.int .i64 xn,.int .u64 (xd:Int),.string ⟨s.toArray⟩,.slice zA zu zc,.slice fA fu fc,.slice mA mu mc,.string ⟨de.toArray⟩,.slice tA tu tc] 56)).heap.size=gf:=by simp;omega
 have HBD:Hid (Blk w4 gx gd #[.int .i64 (dk:Int),.string ⟨dn.toArray⟩,.string ⟨dt.toArray⟩,.int .i64 (xk:Int),.int .i64 xn,.int .u64 (xd:Int),.string ⟨s.toArray⟩,.slice zA zu zc,.slice fA fu fc,.slice mA mu mc,.string ⟨de.toArray⟩,.slice tA tu tc] 56):=by
  unfold Hid;rw [← hw4,← hz2];exact ((Blk.new w2 _ _).alloc _).less (by have:=HLT.out;omega)
 have HBF:Hid (Blk w4 gx gf #[.slice none 0 0,.slice none 0 0,.slice (some ⟨gd,0,none⟩) 1 1] 74):=by
  unfold Hid;rw [← hw4,← hs3];exact (Blk.new _ _ _).less (by have:=HLT.out;omega)
 have HN24:Hid (Nx w2 w4):=by unfold Hid;rw [← hw4];exact Nx.al (nx0 w2 _) _
 have HBS:=Lib.hid (HBS2.out.below HN24.out)
 have HN4:=Lib.hid (HN2.out.trans HN24.out)
 have HG:=Lib.hid (get_one w4 gs gf (some ⟨gd,0,none⟩) 1 d (HBS.out.cell 0) HBS.out.lt HBF.out.lt (HBF.out.cell 0) (HBF.out.cell 1) (HBF.out.cell 2) (rep_one HX.out (HN1.out.trans HN4.out) (by rw [HGX.out];exact HBD.out)) HOK.out)
 clear hs3
 go_wp2_with fail
 refine HG.out.mono ?_;rintro e w5 ⟨v1,v2,v3,rfl,⟨A1,n1,c1,rfl⟩,⟨A2,n2,c2,rfl⟩,hr5,hn5⟩
 obtain ⟨A7,c7,zs,h7,hzl,-,-,hrd7,hall7⟩:=hr5.sl dfnA_size
 have h7':v3 = .slice A7 1 c7:=h7
 subst h7'
 obtain ⟨g7,rfl,hg7,hc7⟩:=hrd7 (by rw [hzl];simp)
 have hz0:0<zs.length:=by rw [hzl];simp
 obtain ⟨z,hz⟩:∃ z,zs[0]=z:=⟨_,rfl⟩
 have hnm:=hall7.at_ 0 hz0 (by simp)
 rw [hz] at hnm
 have HNM:Hid (RNm w5 (But (Fm w4.heap.size) (.slice (some ⟨g7,0,none⟩) 1 c7)) z d):=hnm
 have hcz:∀ j,j<12→w5.cell? ⟨g7,j,none⟩=(dfnA z)[j]?:=fun j hj=>by
  have:=hc7 0 hz0 j hj
  rw [hz,show 0 * 12+j=j by omega] at this
  exact this
 obtain ⟨zk,zn,zt,⟨yk,yn,yd,ys,yl⟩,zf,zm,ze,zz⟩:=z
 obtain ⟨A8,n8,c8,hyl⟩:=hnm.2.2.2.1
 obtain ⟨B8,p8,q8,hzf⟩:=hnm.2.2.2.2.1
 obtain ⟨C8,k8,h8,hzm⟩:=hnm.2.2.2.2.2.1
 obtain ⟨D8,u8,v8,hzz⟩:=hnm.2.2.2.2.2.2
 dsimp only at hyl hzf hzm hzz
 subst hyl hzf hzm hzz
 obtain ⟨g3,hg3⟩:∃ g,w5.heap.size=g:=⟨_,rfl⟩
 obtain ⟨w6,hw6⟩:∃ w6,w5.alloc (.cells #[.slice A1 n1 c1,.slice A2 n2 c2,.slice (some ⟨g7,0,none⟩) 1 c7] 74)=w6:=⟨_,rfl⟩
 have hn6:Nx w5 w6:=by rw [← hw6];exact nx0 _ _
 have hb6:Blk w6 g3 g3 #[.slice A1 n1 c1,.slice A2 n2 c2,.slice (some ⟨g7,0,none⟩) 1 c7] 74:=by rw [← hw6,← hg3];exact Blk.new w5 _ _
 have HN6:Hid (Nx w w6):=HN1.out.trans (HN4.out.trans (hn5.trans hn6))
 have hr6:=HBR.out.below (HN4.out.trans (hn5.trans hn6))
 have HR6:=Lib.hid hr6
 have t2:w6.cell? ⟨g3,2,none⟩=some (.slice (some ⟨g7,0,none⟩) 1 c7):=hb6.cell 2
 have z0:w6.cell? ⟨g7,0,none⟩=some (.int .i64 (zk:Int)):=(hn6.cell (p:=⟨g7,0,none⟩) hg7).trans (hcz 0 (by decide))
 have z1:w6.cell? ⟨g7,1,none⟩=some (.string ⟨zn.toArray⟩):=(hn6.cell (p:=⟨g7,1,none⟩) hg7).trans (hcz 1 (by decide))
 have z2:w6.cell? ⟨g7,2,none⟩=some (.string ⟨zt.toArray⟩):=(hn6.cell (p:=⟨g7,2,none⟩) hg7).trans (hcz 2 (by decide))
 have z3:w6.cell? ⟨g7,3,none⟩=some (.int .i64 (yk:Int)):=(hn6.cell (p:=⟨g7,3,none⟩) hg7).trans (hcz 3 (by decide))
 have z4:w6.cell? ⟨g7,4,none⟩=some (.int .i64 yn):=(hn6.cell (p:=⟨g7,4,none⟩) hg7).trans (hcz 4 (by decide))
 have z5:w6.cell? ⟨g7,5,none⟩=some (.int .u64 (yd:Int)):=(hn6.cell (p:=⟨g7,5,none⟩) hg7).trans (hcz 5 (by decide))
 have z6:w6.cell? ⟨g7,6,none⟩=some (.string ⟨ys.toArray⟩):=(hn6.cell (p:=⟨g7,6,none⟩) hg7).trans (hcz 6 (by decide))
 have z7:w6.cell? ⟨g7,7,none⟩=some (.slice A8 n8 c8):=(hn6.cell (p:=⟨g7,7,none⟩) hg7).trans (hcz 7 (by decide))
 have z8:w6.cell? ⟨g7,8,none⟩=some (.slice B8 p8 q8):=(hn6.cell (p:=⟨g7,8,none⟩) hg7).trans (hcz 8 (by decide))
 have z9:w6.cell? ⟨g7,9,none⟩=some (.slice C8 k8 h8):=(hn6.cell (p:=⟨g7,9,none⟩) hg7).trans (hcz 9 (by decide))
 have z10:w6.cell? ⟨g7,10,none⟩=some (.string ⟨ze.toArray⟩):=(hn6.cell (p:=⟨g7,10,none⟩) hg7).trans (hcz 10 (by decide))
 have z11:w6.cell? ⟨g7,11,none⟩=some (.slice D8 u8 v8):=(hn6.cell (p:=⟨g7,11,none⟩) hg7).trans (hcz 11 (by decide))
 have y0:w6.cell? ⟨gr,0,none⟩=some (.int .i64 0):=hr6.cell 0
 have y1:w6.cell? ⟨gr,1,none⟩=some (.string ⟨#[]⟩):=hr6.cell 1
 have y2:w6.cell? ⟨gr,2,none⟩=some (.string ⟨#[]⟩):=hr6.cell 2
 have y3:w6.cell? ⟨gr,3,none⟩=some (.int .i64 0):=hr6.cell 3
 have y4:w6.cell? ⟨gr,4,none⟩=some (.int .i64 0):=hr6.cell 4
 have y5:w6.cell? ⟨gr,5,none⟩=some (.int .u64 0):=hr6.cell 5
 have y6:w6.cell? ⟨gr,6,none⟩=some (.string ⟨#[]⟩):=hr6.cell 6
 have y7:w6.cell? ⟨gr,7,none⟩=some (.slice none 0 0):=hr6.cell 7
 have y8:w6.cell? ⟨gr,8,none⟩=some (.slice none 0 0):=hr6.cell 8
 have y9:w6.cell? ⟨gr,9,none⟩=some (.slice none 0 0):=hr6.cell 9
 have y10:w6.cell? ⟨gr,10,none⟩=some (.string ⟨#[]⟩):=hr6.cell 10
 have y11:w6.cell? ⟨gr,11,none⟩=some (.slice none 0 0):=hr6.cell 11
 have r0:=hr6.free 0
 have r1:=hr6.free 1
 have r2:=hr6.free 2
 have r3:=hr6.free 3
 have r4:=hr6.free 4
 have r5:=hr6.free 5
 have r6:=hr6.free 6
 have r7:=hr6.free 7
 have r8:=hr6.free 8
 have r9:=hr6.free 9
 have r10:=hr6.free 10
 have r11:=hr6.free 11
 clear hr6 hn6 hb6 hn5 hr5 hrd7 hall7 hc7 hcz hzl hz0 hz hnm h7 hg7 hw4 hw2 hz2 x0 x1 x2 x3 x4 x5 x6 x7 x8 x9 x10 x11 HG
 go_wp2_with fail
 refine bodyPost_ret (results_cell_row rfl _ _ gr _ _ _ _ rfl (HR6.out.putAll [.int .i64 (zk:Int),.string ⟨zn.toArray⟩,.string ⟨zt.toArray⟩,.int .i64 (yk:Int),.int .i64 yn,.int .u64 (yd:Int),.string ⟨ys.toArray⟩,.slice A8 n8 c8,.slice B8 p8 q8,.slice C8 k8 h8,.string ⟨ze.toArray⟩,.slice D8 u8 v8] rfl).2 Tryz.underlying56 rfl (by kernel_rfl)) rfl ?_
 have hgw:w.heap.size≤gr:=by have:=HLT.out;have:=HGX.out;omega
 exact ⟨⟨zk,zn,zt,⟨yk,yn,yd,ys,.slice A8 n8 c8⟩,.slice B8 p8 q8,.slice C8 k8 h8,ze,.slice D8 u8 v8⟩,rfl,HNM.out.1,HNM.out.2.1,HNM.out.2.2.1,⟨_,_,_,rfl⟩,⟨_,_,_,rfl⟩,⟨_,_,_,rfl⟩,⟨_,_,_,rfl⟩,HN6.out.puts hgw [.int .i64 (zk:Int),.string ⟨zn.toArray⟩,.string ⟨zt.toArray⟩,.int .i64 (yk:Int),.int .i64 yn,.int .u64 (yd:Int),.string ⟨ys.toArray⟩,.slice A8 n8 c8,.slice B8 p8 q8,.slice C8 k8 h8,.string ⟨ze.toArray⟩,.slice D8 u8 v8] 0⟩
end Go.Proofs.YtpfecpcgdfbekaaGreatDoor
