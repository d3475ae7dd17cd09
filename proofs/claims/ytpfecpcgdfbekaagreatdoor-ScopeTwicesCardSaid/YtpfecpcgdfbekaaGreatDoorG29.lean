/- The copier of bundles: definitions without methods. slices.Index, slices.Contains of texts; the last full stop. -/
import Derived.Test.YtpfecpcgdfbekaaGreatDoorG27
import Derived.Test.YtpfecpcgdfbekaaGreatDoorG28
import Derived.Test.YtpfecpcgdfbekaaGreatDoorG08
import Derived.Test.YtpfecpcgdfbekaaGreatDoorG12
import Derived.Deep.DeepCutAuto
set_option linter.unusedVariables false
set_option linter.unusedSimpArgs false
set_option linter.unnecessarySimpa false
namespace Go.Proofs.YtpfecpcgdfbekaaGreatDoor
open Go.RowKit
def NewS (v:Value):Prop:=∃ g,v = .slice (some ⟨g,0,none⟩) 0 0
theorem makeFunc_runB (fn:Fn) (first cap:Array Value) (w:World):(Instr.makeFunc fn first cap).run Tryz.prog w = .ok (.func fn first cap) w:=rfl
set_option maxRecDepth 100000 in
set_option maxHeartbeats 1600000 in
theorem eachI_nil (w:World) (A:Option Addr) (c:Nat) (fv:Value) :
  Calls Tryz.prog 112 #[.slice A 0 c,fv] w fun e w'=>∃ v,e = .returned v∧NewS v∧Nx w w':=by
 obtain ⟨i0,hi,hz0,hz1,hz2⟩:=info_parts infoI
 obtain ⟨M,hM⟩:∃ M,M=madeCells (Value.cells (.string ⟨#[]⟩)) ((((0:Nat):Int)).toNat * i0.size):=⟨_,rfl⟩
 have hmk:∀ W:World,(Instr.makeSlice 25 (.int .i64 0) (.int .i64 0)).run Tryz.prog W = .ok (.slice (some ⟨W.heap.size,0,none⟩) 0 0) (W.alloc (.cells M 9)):=fun W=>by
  have h:=run_make (P:=Tryz.prog) W 25 9 i0 _ Tryz.underlying25 hi hz0 .i64 .i64 0 0 (by omega) (by omega) (by rw [hz2];omega) (by omega)
  rw [show (((0:Nat):Int))=0 from rfl] at hM
  rw [← hM] at h
  simpa using h
 clear hM
 go_enter Tryz.func112,Tryz.ntmps112
 go_wp2_with fail
 go_loopw [5,13] (fun u v wr=>NewS u∧v = .int .i64 0∧Nx w wr) (fun _ _ _=>0)
 case atStart=>exact ⟨⟨_,rfl⟩,rfl,nx0 _ _⟩
 case round =>
  obtain ⟨⟨g5,rfl⟩,rfl,hn⟩:=hrel
  have HN:=Lib.hid hn
  clear hn
  go_wp2_with fail
  go_ret
  exact ⟨_,rfl,⟨_,rfl⟩,HN.out⟩
set_option maxRecDepth 100000 in
set_option maxHeartbeats 1600000 in
theorem eachS_nil (w:World) (A:Option Addr) (c:Nat) (fv:Value) :
  Calls Tryz.prog 113 #[.slice A 0 c,fv] w fun e w'=>∃ v,e = .returned v∧NewS v∧Nx w w':=by
 obtain ⟨i0,hi,hz0,hz1,hz2⟩:=info_parts infoS
 obtain ⟨M,hM⟩:∃ M,M=madeCells (Value.cells (.agg #[.string ⟨#[]⟩,.string ⟨#[]⟩])) ((((0:Nat):Int)).toNat * i0.size):=⟨_,rfl⟩
 have hmk:∀ W:World,(Instr.makeSlice 71 (.int .i64 0) (.int .i64 0)).run Tryz.prog W = .ok (.slice (some ⟨W.heap.size,0,none⟩) 0 0) (W.alloc (.cells M 159)):=fun W=>by
  have h:=run_make (P:=Tryz.prog) W 71 159 i0 _ Tryz.underlying71 hi hz0 .i64 .i64 0 0 (by omega) (by omega) (by rw [hz2];omega) (by omega)
  rw [show (((0:Nat):Int))=0 from rfl] at hM
  rw [← hM] at h
  simpa using h
 clear hM
 go_enter Tryz.func113,Tryz.ntmps113
 go_wp2_with fail
 go_loopw [5,13] (fun u v wr=>NewS u∧v = .int .i64 0∧Nx w wr) (fun _ _ _=>0)
 case atStart=>exact ⟨⟨_,rfl⟩,rfl,nx0 _ _⟩
 case round =>
  obtain ⟨⟨g5,rfl⟩,rfl,hn⟩:=hrel
  have HN:=Lib.hid hn
  clear hn
  go_wp2_with fail
  go_ret
  exact ⟨_,rfl,⟨_,rfl⟩,HN.out⟩
set_option maxRecDepth 100000 in
set_option maxHeartbeats 1600000 in
theorem eachT_nil (w:World) (A:Option Addr) (c:Nat) (fv:Value) :
  Calls Tryz.prog 135 #[.slice A 0 c,fv] w fun e w'=>∃ v,e = .returned v∧NewS v∧Nx w w':=by
 obtain ⟨i0,hi,hz0,hz1,hz2⟩:=info_parts infoT
 obtain ⟨M,hM⟩:∃ M,M=madeCells (Value.cells (.agg #[.string ⟨#[]⟩,.bool false,.string ⟨#[]⟩,.slice none 0 0,.slice none 0 0])) ((((0:Nat):Int)).toNat * i0.size):=⟨_,rfl⟩
 have hmk:∀ W:World,(Instr.makeSlice 54 (.int .i64 0) (.int .i64 0)).run Tryz.prog W = .ok (.slice (some ⟨W.heap.size,0,none⟩) 0 0) (W.alloc (.cells M 180)):=fun W=>by
  have h:=run_make (P:=Tryz.prog) W 54 180 i0 _ Tryz.underlying54 hi hz0 .i64 .i64 0 0 (by omega) (by omega) (by rw [hz2];omega) (by omega)
  rw [show (((0:Nat):Int))=0 from rfl] at hM
  rw [← hM] at h
  simpa using h
 clear hM
 go_enter Tryz.func135,Tryz.ntmps135
 go_wp2_with fail
 go_loopw [5,13] (fun u v wr=>NewS u∧v = .int .i64 0∧Nx w wr) (fun _ _ _=>0)
 case atStart=>exact ⟨⟨_,rfl⟩,rfl,nx0 _ _⟩
 case round =>
  obtain ⟨⟨g5,rfl⟩,rfl,hn⟩:=hrel
  have HN:=Lib.hid hn
  clear hn
  go_wp2_with fail
  go_ret
  exact ⟨_,rfl,⟨_,rfl⟩,HN.out⟩
def dfnB (d:Dfn):Bool:=decide (d.nm.length≤8000) && decide (d.ty.length≤8000) && decide (d.ext.length≤8000) && conB 13 d.ini && d.fields.all fldB && decide (d.fields.length≤1000) && d.mems.all (fun m=>decide (m.nm.length≤8000)) && decide (d.mems.length≤1000) && decide (d.mets.length=0)
def RNm (_:World) (_:Nat→Prop) (x:DfnS) (y:Dfn):Prop:=x.k=y.k∧x.nm=y.nm∧x.ty=y.ty∧IsSl x.ini.l∧IsSl x.fields∧IsSl x.mems∧IsSl x.mets
theorem RNm.lasts:Lasts RNm:=fun _ _ _ h=>h
def DfC (gc:Nat):Prop:=∀ (w:World) (x:DfnS) (y:Dfn),Cp gc w→RD w (Ltg gc) x y→dfnB y=true →
 Calls Tryz.prog 116 #[.pointer (some ⟨gc,0,none⟩),.agg (dfnA x)] w fun e w'=>∃ z,e = .returned (.agg (dfnA z))∧RNm w' (Ltg gc) z y∧Oth gc w w'∧Cp gc w'
def EdC (gc:Nat):Prop:=∀ (w:World) (v:Value) (l:List Dfn),Cp gc w→RepL dfnA 12 56 RD w (Ltg gc) v l→(∀ c ∈ l,dfnB c=true)→l.length≤1000 →
 Calls Tryz.prog 115 #[v,.func (.func 116) #[.pointer (some ⟨gc,0,none⟩)] #[]] w fun e w'=>∃ v',e = .returned v'∧RepL dfnA 12 56 RNm w' (Fm w.heap.size) v' l∧Oth gc w w'∧Cp gc w'
set_option maxRecDepth 100000 in
set_option maxHeartbeats 6400000 in
theorem def_any (gc:Nat):DfC gc:=by
 intro w x y hcp hxy hok
 obtain ⟨dk,dn,dt,⟨xk,xn,xd,s,xl⟩,xf,xm,de,xt⟩:=x
 obtain ⟨hk,hnm,hty,hrc,hfl,hmm,hex,hmt⟩:=hxy
 unfold dfnB at hok
 simp only [Bool.and_eq_true,decide_eq_true_eq,List.all_eq_true] at hok
 obtain ⟨⟨⟨⟨⟨⟨⟨⟨b1,b2⟩,b3⟩,b4⟩,b5⟩,b6⟩,b7⟩,b8⟩,b9⟩:=hok
 dsimp only at hk hnm hty hrc hfl hmm hex hmt
 obtain ⟨zA,zu,zc,hxl⟩:=rc_sl hrc
 dsimp only at hxl
 subst hxl
 obtain ⟨fA,fc,-,rfl,-⟩:=hfl.sl fldA_size
 obtain ⟨mA,mc,-,rfl,-⟩:=hmm.sl memA_size
 obtain ⟨tA,tc,-,rfl,-⟩:=hmt.sl metA_size
 rw [b9] at hmt ⊢
 rw [← hnm] at b1
 rw [← hty] at b2
 rw [← hex] at b3
 have HL1:Hid (dn.length≤140737488355328):=by unfold Hid;omega
 have HL2:Hid (dt.length≤140737488355328):=by unfold Hid;omega
 have HL3:Hid (de.length≤140737488355328):=by unfold Hid;omega
 have HRC:=Lib.hid hrc
 have HFL:=Lib.hid hfl
 have HMM:=Lib.hid hmm
 have HCB:=Lib.hid b4
 have HFB:=Lib.hid b5
 have HFB2:=Lib.hid b6
 have HMB:Hid (∀ c ∈ y.mems,decide (c.nm.length≤8000)=true):=fun c hc=>decide_eq_true (b7 c hc)
 have HMB2:=Lib.hid b8
 have HEQ:Hid (dk=y.k∧dn=y.nm∧dt=y.ty):=⟨hk,hnm,hty⟩
 have HCP:=Lib.hid hcp
 obtain ⟨fu,hfu⟩:∃ k,y.fields.length=k:=⟨_,rfl⟩
 obtain ⟨mu,hmu⟩:∃ k,y.mems.length=k:=⟨_,rfl⟩
 rw [hfu] at HFL ⊢
 rw [hmu] at HMM ⊢
 obtain ⟨gx,hgx⟩:∃ g,w.heap.size=g:=⟨_,rfl⟩
 obtain ⟨gr,hgr⟩:∃ g,gx+1=g:=⟨_,rfl⟩
 have hgc:gc<gx:=by rw [← hgx];exact hcp.lt
 obtain ⟨w1,hw⟩:∃ w1,(w.alloc (.cells #[.int .i64 (dk:Int),.string ⟨dn.toArray⟩,.string ⟨dt.toArray⟩,.int .i64 (xk:Int),.int .i64 xn,.int .u64 (xd:Int),.string ⟨s.toArray⟩,.slice zA zu zc,.slice fA fu fc,.slice mA mu mc,.string ⟨de.toArray⟩,.slice tA 0 tc] 56)).alloc (.cells #[.int .i64 0,.string ⟨#[]⟩,.string ⟨#[]⟩,.int .i64 0,.int .i64 0,.int .u64 0,.string ⟨#[]⟩,.slice none 0 0,.slice none 0 0,.slice none 0 0,.string ⟨#[]⟩,.slice none 0 0] 56)=w1:=⟨_,rfl⟩
 have HBX:Hid (Blk w1 gx gx #[.int .i64 (dk:Int),.string ⟨dn.toArray⟩,.string ⟨dt.toArray⟩,.int .i64 (xk:Int),.int .i64 xn,.int .u64 (xd:Int),.string ⟨s.toArray⟩,.slice zA zu zc,.slice fA fu fc,.slice mA mu mc,.string ⟨de.toArray⟩,.slice tA 0 tc] 56):=by
  unfold Hid;rw [← hw,← hgx];exact (Blk.new w _ _).alloc _
 have HBR:Hid (Blk w1 gx gr #[.int .i64 0,.string ⟨#[]⟩,.string ⟨#[]⟩,.int .i64 0,.int .i64 0,.int .u64 0,.string ⟨#[]⟩,.slice none 0 0,.slice none 0 0,.slice none 0 0,.string ⟨#[]⟩,.slice none 0 0] 56):=by
  unfold Hid;rw [← hw,← hgr,← hgx,show w.heap.size+1=(w.alloc (.cells #[.int .i64 (dk:Int),.string ⟨dn.toArray⟩,.string ⟨dt.toArray⟩,.int .i64 (xk:Int),.int .i64 xn,.int .u64 (xd:Int),.string ⟨s.toArray⟩,.slice zA zu zc,.slice fA fu fc,.slice mA mu mc,.string ⟨de.toArray⟩,.slice tA 0 tc] 56)).heap.size from by simp]
  exact (Blk.new (w.alloc (.cells #[.int .i64 (dk:Int),.string ⟨dn.toArray⟩,.string ⟨dt.toArray⟩,.int .i64 (xk:Int),.int .i64 xn,.int .u64 (xd:Int),.string ⟨s.toArray⟩,.slice zA zu zc,.slice fA fu fc,.slice mA mu mc,.string ⟨de.toArray⟩,.slice tA 0 tc] 56)) _ _).less (by simp)
 have HN1:Hid (Nx w w1):=by unfold Hid;rw [← hw];exact Nx.al (nx0 w _) _
 have HGX:=Lib.hid hgx
 have hne1:gc≠gx:=by omega
 have hne2:gc≠gr:=by omega
 have HGR:Hid (gx<gr):=by unfold Hid;omega
 show Calls _ _ #[.pointer (some ⟨gc,0,none⟩),.agg #[.int .i64 (dk:Int),.string ⟨dn.toArray⟩,.string ⟨dt.toArray⟩,.int .i64 (xk:Int),.int .i64 xn,.int .u64 (xd:Int),.string ⟨s.toArray⟩,.slice zA zu zc,.slice fA fu fc,.slice mA mu mc,.string ⟨de.toArray⟩,.slice tA 0 tc]] _ _
 clear hcp hrc hfl hmm hmt b1 b2 b3 b4 b5 b6 b7 b8 b9 hk hnm hty hex hfu hmu
 have hmf:=makeFunc_runB
 go_enter Tryz.func116,Tryz.ntmps116
 go_upto_region 1 with (fail)
 try rw [hw]
 clear hw hgx hgr
 have L0:∀ x:EO.GrO gc w1,x.1.cell? ⟨gx,0,none⟩=some (.int .i64 (dk:Int)):=fun x=>(x.2.blk HBX.out (Ne.symm hne1)).cell 0
 have L1:∀ x:EO.GrO gc w1,x.1.cell? ⟨gx,1,none⟩=some (.string ⟨dn.toArray⟩):=fun x=>(x.2.blk HBX.out (Ne.symm hne1)).cell 1
 have L2:∀ x:EO.GrO gc w1,x.1.cell? ⟨gx,2,none⟩=some (.string ⟨dt.toArray⟩):=fun x=>(x.2.blk HBX.out (Ne.symm hne1)).cell 2
 have L3:∀ x:EO.GrO gc w1,x.1.cell? ⟨gx,3,none⟩=some (.int .i64 (xk:Int)):=fun x=>(x.2.blk HBX.out (Ne.symm hne1)).cell 3
 have L4:∀ x:EO.GrO gc w1,x.1.cell? ⟨gx,4,none⟩=some (.int .i64 xn):=fun x=>(x.2.blk HBX.out (Ne.symm hne1)).cell 4
 have L5:∀ x:EO.GrO gc w1,x.1.cell? ⟨gx,5,none⟩=some (.int .u64 (xd:Int)):=fun x=>(x.2.blk HBX.out (Ne.symm hne1)).cell 5
 have L6:∀ x:EO.GrO gc w1,x.1.cell? ⟨gx,6,none⟩=some (.string ⟨s.toArray⟩):=fun x=>(x.2.blk HBX.out (Ne.symm hne1)).cell 6
 have L7:∀ x:EO.GrO gc w1,x.1.cell? ⟨gx,7,none⟩=some (.slice zA zu zc):=fun x=>(x.2.blk HBX.out (Ne.symm hne1)).cell 7
 have L8:∀ x:EO.GrO gc w1,x.1.cell? ⟨gx,8,none⟩=some (.slice fA fu fc):=fun x=>(x.2.blk HBX.out (Ne.symm hne1)).cell 8
 have L9:∀ x:EO.GrO gc w1,x.1.cell? ⟨gx,9,none⟩=some (.slice mA mu mc):=fun x=>(x.2.blk HBX.out (Ne.symm hne1)).cell 9
 have L10:∀ x:EO.GrO gc w1,x.1.cell? ⟨gx,10,none⟩=some (.string ⟨de.toArray⟩):=fun x=>(x.2.blk HBX.out (Ne.symm hne1)).cell 10
 have L11:∀ x:EO.GrO gc w1,x.1.cell? ⟨gx,11,none⟩=some (.slice tA 0 tc):=fun x=>(x.2.blk HBX.out (Ne.symm hne1)).cell 11
 refine EO.wp_region_hyb ⟨[29],gc⟩ [(0,1),(1,1),(2,1),(3,1),(5,1),(6,1),(8,1),(9,1),(10,1),(12,1),(13,1),(14,1),(17,1),(18,1),(20,1),(21,1),(23,1),(24,1),(25,1),(15,2),(26,2),(4,0),(7,0),(11,0),(16,0),(19,0),(22,0),(27,0),(28,2),(29,0)] rfl (by kernel_rfl) ?_
 iterate 19 (refine EO.hyb_calm rfl (fun K hK=>?_);go_simp;refine hK _ ?_;clear hK K)
 clear L0 L1 L2 L3 L4 L5 L6 L7 L8 L9 L10 L11
 iterate 2 (refine EO.hyb_pure rfl (fun K hK=>?_);go_simp;refine hK _ ?_;clear hK K)
 refine EO.hyb_alone rfl (fun w2 hn2 K hK=>?_)
 go_simp
 refine (clone_any w2 _ dn (Tx.of _) HL1.out).mono ?_;rintro e w3 ⟨rfl,hn3⟩
 refine hK _ _ (.inr (Oth.nx hn3)) ?_
 clear hK K
 refine EO.hyb_alone rfl (fun w4 hn4 K hK=>?_)
 go_simp
 refine (clone_any w4 _ dt (Tx.of _) HL2.out).mono ?_;rintro e w5 ⟨rfl,hn5⟩
 refine hK _ _ (.inr (Oth.nx hn5)) ?_
 clear hK K
 refine EO.hyb_alone rfl (fun w6 hn6 K hK=>?_)
 have hnA:Nx w w6:=HN1.out.trans (hn2.trans (hn3.trans (hn4.trans (hn5.trans hn6))))
 have hcA:=constant_any 13 w6 ⟨xk,xn,xd,s,.slice zA zu zc⟩ y.ini (HCP.out.nx hnA) (RC.lasts 13 (mvO (Oth.nx hnA)) HRC.out) HCB.out
 go_simp
 refine hcA.mono ?_;rintro e w7 ⟨s8,_,rfl,⟨A8,n8,c8,rfl⟩,ho7,hcp7⟩
 rw [show conA ⟨xk,xn,xd,s8,.slice A8 n8 c8⟩=#[.int .i64 (xk:Int),.int .i64 xn,.int .u64 (xd:Int),.string ⟨s8.toArray⟩,.slice A8 n8 c8] from rfl]
 refine hK _ _ (.inr ho7) ?_
 clear hK K hcA
 refine EO.hyb_alone rfl (fun w8 hn8 K hK=>?_)
 have hoB:Oth gc w w8:=(Oth.nx hnA).trans (ho7.trans (Oth.nx hn8))
 have hcB:=eachF_any gc w8 (.slice fA fu fc) y.fields (hcp7.nx hn8) (RepL.mv RF.lasts (mvO hoB) HFL.out) HFB.out HFB2.out
 go_simp
 refine hcB.mono ?_;rintro e w9 ⟨_,rfl,⟨B8,p8,q8,rfl⟩,ho9,hcp9⟩
 refine hK _ _ (.inr ho9) ?_
 clear hK K hcB
 refine EO.hyb_alone rfl (fun wa hna K hK=>?_)
 have hoC:Oth gc w wa:=hoB.trans (ho9.trans (Oth.nx hna))
 have hcC:=eachM_any gc wa (.slice mA mu mc) y.mems (hcp9.nx hna) (RepL.mv REq.lasts (mvO hoC) HMM.out) HMB.out HMB2.out
 go_simp
 refine hcC.mono ?_;rintro e wb ⟨_,rfl,⟨C8,r8,h8,rfl⟩,hob,hcpb⟩
 refine hK _ _ (.inr hob) ?_
 clear hK K hcC
 refine EO.hyb_alone rfl (fun wc hnc K hK=>?_)
 go_simp
 refine (clone_any wc _ de (Tx.of _) HL3.out).mono ?_;rintro e wd ⟨rfl,hnd⟩
 refine hK _ _ (.inr (Oth.nx hnd)) ?_
 clear hK K
 refine EO.hyb_alone rfl (fun we hne K hK=>?_)
 go_simp
 refine (eachT_nil we _ _ _).mono ?_;rintro e wf ⟨_,rfl,⟨g3,rfl⟩,hnf⟩
 refine hK _ _ (.inr (Oth.nx hnf)) ?_
 clear hK K
 refine EO.hyb_pure rfl (fun K hK=>?_);go_simp;refine hK _ ?_;clear hK K
 refine EO.hyb_alone rfl (fun wg hng K hK=>?_)
 have hnZ:Nx wb wg:=hnc.trans (hnd.trans (hne.trans (hnf.trans hng)))
 have hoZ:Oth gc w1 wg:=(Oth.nx (hn2.trans (hn3.trans (hn4.trans (hn5.trans hn6))))).trans (ho7.trans ((Oth.nx hn8).trans (ho9.trans ((Oth.nx hna).trans (hob.trans (Oth.nx hnZ))))))
 have hrg:=hoZ.blk HBR.out (Ne.symm hne2)
 have HRG:=Lib.hid hrg
 have HOZ:=Lib.hid ((Oth.nx HN1.out).trans hoZ)
 have HCPZ:=Lib.hid (hcpb.nx hnZ)
 have y0:wg.cell? ⟨gr,0,none⟩=some (.int .i64 0):=hrg.cell 0
 have y1:wg.cell? ⟨gr,1,none⟩=some (.string ⟨#[]⟩):=hrg.cell 1
 have y2:wg.cell? ⟨gr,2,none⟩=some (.string ⟨#[]⟩):=hrg.cell 2
 have y3:wg.cell? ⟨gr,3,none⟩=some (.int .i64 0):=hrg.cell 3
 have y4:wg.cell? ⟨gr,4,none⟩=some (.int .i64 0):=hrg.cell 4
 have y5:wg.cell? ⟨gr,5,none⟩=some (.int .u64 0):=hrg.cell 5
 have y6:wg.cell? ⟨gr,6,none⟩=some (.string ⟨#[]⟩):=hrg.cell 6
 have y7:wg.cell? ⟨gr,7,none⟩=some (.slice none 0 0):=hrg.cell 7
 have y8:wg.cell? ⟨gr,8,none⟩=some (.slice none 0 0):=hrg.cell 8
 have y9:wg.cell? ⟨gr,9,none⟩=some (.slice none 0 0):=hrg.cell 9
 have y10:wg.cell? ⟨gr,10,none⟩=some (.string ⟨#[]⟩):=hrg.cell 10
 have y11:wg.cell? ⟨gr,11,none⟩=some (.slice none 0 0):=hrg.cell 11
 have r0:=hrg.free 0
 have r1:=hrg.free 1
 have r2:=hrg.free 2
 have r3:=hrg.free 3
 have r4:=hrg.free 4
 have r5:=hrg.free 5
 have r6:=hrg.free 6
 have r7:=hrg.free 7
 have r8:=hrg.free 8
 have r9:=hrg.free 9
 have r10:=hrg.free 10
 have r11:=hrg.free 11
 clear hrg hoZ hnZ hcpb hob hoB hoC hnA
 go_simp
 refine hK _ _ (.inl (by simp)) ?_
 clear hK K y0 r0 y1 r1 y2 r2 y3 r3 y4 r4 y5 r5 y6 r6 y7 r7 y8 r8 y9 r9 y10 r10 y11 r11
 obtain ⟨w9,hw9⟩:∃ w9,w9=wputs wg gr 0 [.int .i64 (dk:Int),.string ⟨dn.toArray⟩,.string ⟨dt.toArray⟩,.int .i64 (xk:Int),.int .i64 xn,.int .u64 (xd:Int),.string ⟨s8.toArray⟩,.slice A8 n8 c8,.slice B8 p8 q8,.slice C8 r8 h8,.string ⟨de.toArray⟩,.slice (some ⟨g3,0,none⟩) 0 0]:=⟨_,rfl⟩
 show EO.Hyb _ _ _ _ _ _ (wputs wg gr 0 [.int .i64 (dk:Int),.string ⟨dn.toArray⟩,.string ⟨dt.toArray⟩,.int .i64 (xk:Int),.int .i64 xn,.int .u64 (xd:Int),.string ⟨s8.toArray⟩,.slice A8 n8 c8,.slice B8 p8 q8,.slice C8 r8 h8,.string ⟨de.toArray⟩,.slice (some ⟨g3,0,none⟩) 0 0])
 rw [← hw9]
 have HB9:Hid (Blk w9 gx gr #[.int .i64 (dk:Int),.string ⟨dn.toArray⟩,.string ⟨dt.toArray⟩,.int .i64 (xk:Int),.int .i64 xn,.int .u64 (xd:Int),.string ⟨s8.toArray⟩,.slice A8 n8 c8,.slice B8 p8 q8,.slice C8 r8 h8,.string ⟨de.toArray⟩,.slice (some ⟨g3,0,none⟩) 0 0] 56):=by unfold Hid;rw [hw9];exact HRG.out.putAll [.int .i64 (dk:Int),.string ⟨dn.toArray⟩,.string ⟨dt.toArray⟩,.int .i64 (xk:Int),.int .i64 xn,.int .u64 (xd:Int),.string ⟨s8.toArray⟩,.slice A8 n8 c8,.slice B8 p8 q8,.slice C8 r8 h8,.string ⟨de.toArray⟩,.slice (some ⟨g3,0,none⟩) 0 0] rfl
 have HO9:Hid (Oth gc w w9):=by unfold Hid;rw [hw9];exact HOZ.out.puts (by have:=HGR.out;have:=HGX.out;omega) [.int .i64 (dk:Int),.string ⟨dn.toArray⟩,.string ⟨dt.toArray⟩,.int .i64 (xk:Int),.int .i64 xn,.int .u64 (xd:Int),.string ⟨s8.toArray⟩,.slice A8 n8 c8,.slice B8 p8 q8,.slice C8 r8 h8,.string ⟨de.toArray⟩,.slice (some ⟨g3,0,none⟩) 0 0] 0
 have HCP9:Hid (Cp gc w9):=by
  obtain ⟨N5,hN5,hbc5⟩:=HCPZ.out
  unfold Hid;rw [hw9];exact ⟨N5,hN5,hbc5.apart (Ne.symm hne2) [.int .i64 (dk:Int),.string ⟨dn.toArray⟩,.string ⟨dt.toArray⟩,.int .i64 (xk:Int),.int .i64 xn,.int .u64 (xd:Int),.string ⟨s8.toArray⟩,.slice A8 n8 c8,.slice B8 p8 q8,.slice C8 r8 h8,.string ⟨de.toArray⟩,.slice (some ⟨g3,0,none⟩) 0 0] 0⟩
 clear hw9 HRG HOZ HCPZ
 refine EO.hyb_nil (fun wz hnz=>?_)
 have HNZ:=Lib.hid hnz
 clear hnz
 go_wp2_with fail
 refine bodyPost_ret (results_cell_row rfl _ _ gr _ _ _ _ rfl (HB9.out.below HNZ.out).2 Tryz.underlying56 rfl (by kernel_rfl)) rfl ?_
 exact ⟨⟨dk,dn,dt,⟨xk,xn,xd,s8,.slice A8 n8 c8⟩,.slice B8 p8 q8,.slice C8 r8 h8,de,.slice (some ⟨g3,0,none⟩) 0 0⟩,rfl,⟨HEQ.out.1,HEQ.out.2.1,HEQ.out.2.2,⟨_,_,_,rfl⟩,⟨_,_,_,rfl⟩,⟨_,_,_,rfl⟩,⟨_,_,_,rfl⟩⟩,HO9.out.trans (Oth.nx HNZ.out),HCP9.out.nx HNZ.out⟩
set_option maxRecDepth 100000 in
set_option maxHeartbeats 3200000 in
theorem eachD_of {gc:Nat} (hC:DfC gc):EdC gc:=by
 intro w v l hcp hrep hok hlen
 obtain ⟨A,cp,xs,rfl,hxl,hlc,hcm,hrd,hall⟩:=hrep.sl dfnA_size
 have HREP:=Lib.hid hrep
 have HRD:=Lib.hid hrd
 have HALL:=Lib.hid hall
 have HOK:=Lib.hid hok
 have HCP:=Lib.hid hcp
 have HC:=Lib.hid hC
 have HXL:=Lib.hid hxl
 obtain ⟨N,hN⟩:∃ N,l.length=N:=⟨_,rfl⟩
 have HN:=Lib.hid hN
 rw [hN] at hlen ⊢
 have hN9:(N:Int)≤1000:=by omega
 obtain ⟨B,hB⟩:∃ B,w.heap.size=B:=⟨_,rfl⟩
 have HB:=Lib.hid hB
 have HGB:Hid (gc<B):=by unfold Hid;rw [← hB];exact hcp.lt
 obtain ⟨i0,hi,hz0,hz1,hz2⟩:=info_parts infoD
 obtain ⟨M,hM⟩:∃ M,M=madeCells (Value.cells (.agg #[.int .i64 0,.string ⟨#[]⟩,.string ⟨#[]⟩,.int .i64 0,.int .i64 0,.int .u64 0,.string ⟨#[]⟩,.slice none 0 0,.slice none 0 0,.slice none 0 0,.string ⟨#[]⟩,.slice none 0 0])) (((N:Nat):Int).toNat * i0.size):=⟨_,rfl⟩
 have hMs:M.size=N * 12:=by rw [hM,size_madeCells,hz1];simp
 have hmk:∀ W:World,(Instr.makeSlice 72 (.int .i64 0) (.int .i64 (N:Int))).run Tryz.prog W = .ok (.slice (some ⟨W.heap.size,0,none⟩) 0 N) (W.alloc (.cells M 56)):=fun W=>by
  have h:=run_make (P:=Tryz.prog) W 72 56 i0 _ Tryz.underlying72 hi hz0 .i64 .i64 0 (N:Int) (by omega) (by omega) (by rw [hz2];omega) (by omega)
  rw [← hM] at h
  simpa using h
 have HRM:Hid (RepL dfnA 12 56 RNm (w.alloc (.cells M 56)) (Fm w.heap.size) (.slice (some ⟨B,0,none⟩) 0 N) (l.take 0)):=by
  unfold Hid;rw [List.take_zero,← hB];exact made_nil (z:=0) hMs (Nat.le_refl _) (by simp [maxLen];omega)
 have HN1:Hid (Nx w (w.alloc (.cells M 56))):=nx0 _ _
 clear hM hi hz0 hz1 hz2 hMs hrep hrd hall hok hcp hC hxl hN hlc hcm hlen
 go_enter Tryz.func115,Tryz.ntmps115
 go_wp2_with fail
 generalize World.alloc w _=w1 at *
 clear hB
 go_loopw [5,13] (fun u v wr=>∃ i:Nat,v = .int .i64 (i:Int)∧i≤N∧RepL dfnA 12 56 RNm wr (Fm w.heap.size) u (l.take i)∧Oth gc w wr∧Cp gc wr) (fun _ v _=>(N - intOf v).toNat)
 case atStart=>exact ⟨0,rfl,Nat.zero_le _,HRM.out,Oth.nx HN1.out,HCP.out.nx HN1.out⟩
 case round =>
  obtain ⟨i,rfl,hi,hrep,ho,hcp⟩:=hrel
  obtain ⟨uA,un,uc,rfl⟩:∃ A n c,u5 = .slice A n c:=by
   obtain ⟨A,c,_,h,-⟩:=hrep.sl dfnA_size
   exact ⟨_,_,_,h⟩
  have HREP2:=Lib.hid hrep
  have HO:=Lib.hid ho
  have HCP2:=Lib.hid hcp
  clear hrep ho hcp
  by_cases hlt:i<N
  ·have q1:decide ((i:Int)<(N:Int))=true:=decide_eq_true (by omega)
   have q2:(i:Int)<(N:Int):=by omega
   have hix:i<xs.length:=by rw [HXL.out,HN.out];exact hlt
   have hil:i<l.length:=by rw [HN.out];exact hlt
   obtain ⟨g,rfl,hg,hc⟩:=HRD.out (by omega)
   have hgg:g<gc:=(RepL.own_lt HREP.out g rfl).1
   have hrel:=HALL.out.at_ i hix hil
   have hcx:=HOK.out _ (List.getElem_mem hil)
   obtain ⟨⟨dk,dn,dt,⟨xk,xn,xd,s,xl⟩,xf,xm,de,xt⟩,hx⟩:∃ x,xs[i]=x:=⟨_,rfl⟩
   obtain ⟨y,hy⟩:∃ y,l[i]=y:=⟨_,rfl⟩
   have htk:l.take (i+1)=l.take i++[y]:=by rw [List.take_succ_eq_append_getElem hil,hy]
   have hcell:∀ j,j<12→wr.cell? ⟨g,i * 12+j,none⟩=(dfnA ⟨dk,dn,dt,⟨xk,xn,xd,s,xl⟩,xf,xm,de,xt⟩)[j]?:=fun j hj=>by
    rw [← hx,← hc i hix j hj]
    exact World.cell?_of_block (HO.out.block g hg (by omega))
   rw [hx,hy] at hrel
   rw [hy] at hcx
   have hrc:=RD.lasts (mvO HO.out) (RD.lasts ⟨fun _ _ _=>rfl,fun _ h _=>h.1⟩ hrel)
   obtain ⟨zA,zu,zc,hxl⟩:∃ A k c,xl = .slice A k c:=rc_sl hrc.2.2.2.1
   obtain ⟨fA,fu,fc,hxf⟩:∃ A k c,xf = .slice A k c:=by obtain ⟨A,c,_,h,-⟩:=hrc.2.2.2.2.1.sl fldA_size;exact ⟨_,_,_,h⟩
   obtain ⟨mA,mu,mc,hxm⟩:∃ A k c,xm = .slice A k c:=by obtain ⟨A,c,_,h,-⟩:=hrc.2.2.2.2.2.1.sl memA_size;exact ⟨_,_,_,h⟩
   obtain ⟨tA,tu,tc,hxt⟩:∃ A k c,xt = .slice A k c:=by obtain ⟨A,c,_,h,-⟩:=hrc.2.2.2.2.2.2.2.sl metA_size;exact ⟨_,_,_,h⟩
   subst hxl hxf hxm hxt
   have e0:wr.cell? ⟨g,i * 12,none⟩=some (.int .i64 (dk:Int)):=hcell 0 (by decide)
   have e1:wr.cell? ⟨g,i * 12+1,none⟩=some (.string ⟨dn.toArray⟩):=hcell 1 (by decide)
   have e2:wr.cell? ⟨g,i * 12+2,none⟩=some (.string ⟨dt.toArray⟩):=hcell 2 (by decide)
   have e3:wr.cell? ⟨g,i * 12+3,none⟩=some (.int .i64 (xk:Int)):=hcell 3 (by decide)
   have e4:wr.cell? ⟨g,i * 12+4,none⟩=some (.int .i64 xn):=hcell 4 (by decide)
   have e5:wr.cell? ⟨g,i * 12+5,none⟩=some (.int .u64 (xd:Int)):=hcell 5 (by decide)
   have e6:wr.cell? ⟨g,i * 12+6,none⟩=some (.string ⟨s.toArray⟩):=hcell 6 (by decide)
   have e7:wr.cell? ⟨g,i * 12+7,none⟩=some (.slice zA zu zc):=hcell 7 (by decide)
   have e8:wr.cell? ⟨g,i * 12+8,none⟩=some (.slice fA fu fc):=hcell 8 (by decide)
   have e9:wr.cell? ⟨g,i * 12+9,none⟩=some (.slice mA mu mc):=hcell 9 (by decide)
   have e10:wr.cell? ⟨g,i * 12+10,none⟩=some (.string ⟨de.toArray⟩):=hcell 10 (by decide)
   have e11:wr.cell? ⟨g,i * 12+11,none⟩=some (.slice tA tu tc):=hcell 11 (by decide)
   have HTK:=Lib.hid htk
   have HLT:=Lib.hid hlt
   have HIL:Hid ((l.take i).length=i):=by unfold Hid;rw [List.length_take];omega
   have HRC:=Lib.hid hrc
   have HCX:=Lib.hid hcx
   clear hcell hx hy hrel hc htk hcx hrc hix hil
   go_upto_region 5 with (fail)
   obtain ⟨g7,hg7⟩:∃ g7,wr.heap.size=g7:=⟨_,rfl⟩
   have hB7:=Blk.new wr #[.int .i64 (dk:Int),.string ⟨dn.toArray⟩,.string ⟨dt.toArray⟩,.int .i64 (xk:Int),.int .i64 xn,.int .u64 (xd:Int),.string ⟨s.toArray⟩,.slice zA zu zc,.slice fA fu fc,.slice mA mu mc,.string ⟨de.toArray⟩,.slice tA tu tc] 56
   have hn7:=nx0 wr (.cells #[.int .i64 (dk:Int),.string ⟨dn.toArray⟩,.string ⟨dt.toArray⟩,.int .i64 (xk:Int),.int .i64 xn,.int .u64 (xd:Int),.string ⟨s.toArray⟩,.slice zA zu zc,.slice fA fu fc,.slice mA mu mc,.string ⟨de.toArray⟩,.slice tA tu tc] 56)
   rw [hg7] at hB7
   rw [hg7]
   generalize World.alloc wr _=w7 at *
   have HB7:=Lib.hid hB7
   have HN7:=Lib.hid hn7
   have HC7:=Lib.hid (HC.out w7 ⟨dk,dn,dt,⟨xk,xn,xd,s,.slice zA zu zc⟩,.slice fA fu fc,.slice mA mu mc,de,.slice tA tu tc⟩ y (HCP2.out.nx hn7) (RD.lasts (mvO (Oth.nx hn7)) HRC.out) HCX.out)
   clear hg7 hB7 hn7 e0 e1 e2 e3 e4 e5 e6 e7 e8 e9 e10 e11
   have t0:w7.cell? ⟨g7,0,none⟩=some (.int .i64 (dk:Int)):=HB7.out.cell 0
   have t1:w7.cell? ⟨g7,1,none⟩=some (.string ⟨dn.toArray⟩):=HB7.out.cell 1
   have t2:w7.cell? ⟨g7,2,none⟩=some (.string ⟨dt.toArray⟩):=HB7.out.cell 2
   have t3:w7.cell? ⟨g7,3,none⟩=some (.int .i64 (xk:Int)):=HB7.out.cell 3
   have t4:w7.cell? ⟨g7,4,none⟩=some (.int .i64 xn):=HB7.out.cell 4
   have t5:w7.cell? ⟨g7,5,none⟩=some (.int .u64 (xd:Int)):=HB7.out.cell 5
   have t6:w7.cell? ⟨g7,6,none⟩=some (.string ⟨s.toArray⟩):=HB7.out.cell 6
   have t7:w7.cell? ⟨g7,7,none⟩=some (.slice zA zu zc):=HB7.out.cell 7
   have t8:w7.cell? ⟨g7,8,none⟩=some (.slice fA fu fc):=HB7.out.cell 8
   have t9:w7.cell? ⟨g7,9,none⟩=some (.slice mA mu mc):=HB7.out.cell 9
   have t10:w7.cell? ⟨g7,10,none⟩=some (.string ⟨de.toArray⟩):=HB7.out.cell 10
   have t11:w7.cell? ⟨g7,11,none⟩=some (.slice tA tu tc):=HB7.out.cell 11
   go_wp2_with fail
   refine HC7.out.mono ?_;rintro e w8 ⟨⟨zk,zn,zt,⟨yk,yn,yd,ys,yl⟩,zf,zm,ze,zz⟩,rfl,hnmm,ho8,hcp8⟩
   obtain ⟨A8,n8,c8,hyl⟩:=hnmm.2.2.2.1
   obtain ⟨B8,p8,q8,hzf⟩:=hnmm.2.2.2.2.1
   obtain ⟨C8,r8,h8,hzm⟩:=hnmm.2.2.2.2.2.1
   obtain ⟨D8,u8,v8,hzz⟩:=hnmm.2.2.2.2.2.2
   dsimp only at hyl hzf hzm hzz
   subst hyl hzf hzm hzz
   have HNMM:=Lib.hid hnmm
   clear hnmm
   rw [show dfnA ⟨zk,zn,zt,⟨yk,yn,yd,ys,.slice A8 n8 c8⟩,.slice B8 p8 q8,.slice C8 r8 h8,ze,.slice D8 u8 v8⟩=#[.int .i64 (zk:Int),.string ⟨zn.toArray⟩,.string ⟨zt.toArray⟩,.int .i64 (yk:Int),.int .i64 yn,.int .u64 (yd:Int),.string ⟨ys.toArray⟩,.slice A8 n8 c8,.slice B8 p8 q8,.slice C8 r8 h8,.string ⟨ze.toArray⟩,.slice D8 u8 v8] from rfl]
   have HO8:=Lib.hid (HO.out.trans ((Oth.nx HN7.out).trans ho8))
   have HCP8:=Lib.hid hcp8
   have HR8:Hid (RepL dfnA 12 56 RNm w8 (Fm w.heap.size) (.slice uA un uc) (l.take i)):=RepL.oth RNm.lasts HREP2.out ((Oth.nx HN7.out).trans ho8) (by rw [HB.out];exact HGB.out)
   have h63:((l.take i).length:Int)≤100000:=by rw [HIL.out];omega
   have hwB:w.heap.size≤w8.heap.size:=HO8.out.size
   have hgB:gc<w.heap.size:=by rw [HB.out];exact HGB.out
   have HONE:Hid (∀ u ∈ (dfnA ⟨zk,zn,zt,⟨yk,yn,yd,ys,.slice A8 n8 c8⟩,.slice B8 p8 q8,.slice C8 r8 h8,ze,.slice D8 u8 v8⟩).toList,u.oneCell'=true):=fun u hu=>by
    simp [dfnA,bt] at hu
    rcases hu with rfl | rfl | rfl | rfl | rfl | rfl | rfl | rfl | rfl | rfl | rfl | rfl <;> rfl
   have H63:=Lib.hid h63
   have HWB:=Lib.hid hwB
   have HGB2:=Lib.hid hgB
   clear ho8 hcp8 HC7 t0 t1 t2 t3 t4 t5 t6 t7 t8 t9 t10 t11 HB7 HN7 h63 hwB hgB
   go_wp2_with (at_builtin;go_must (refine wpList_appL _ RNm.lasts infoD Tryz.underlying72 rfl (by decide) (by decide) dfnA_size rfl _ _ rfl w.heap.size gc (.slice uA un uc) (l.take i) ⟨zk,zn,zt,⟨yk,yn,yd,ys,.slice A8 n8 c8⟩,.slice B8 p8 q8,.slice C8 r8 h8,ze,.slice D8 u8 v8⟩ y rfl (RepL.nx RNm.lasts HR8.out (nx0 _ _)) HONE.out _ rfl (fun j hj=>cell_newP (by simp)) HNMM.out H63.out (Nat.le_trans HWB.out (nx0 _ _).size) HGB2.out ?_;intro v9 w9 hl9 hf9 hk9;have HL9:=Lib.hid hl9;have HX9:=Lib.hid (cp_app (RepL.nx RNm.lasts HR8.out (nx0 _ _)) (HO8.out.trans (Oth.nx (nx0 _ _))) (HCP8.out.nx (nx0 _ _)) HGB2.out hf9 hk9);clear hl9 hf9 hk9))
   go_roundw
   case rel=>exact ⟨i+1,by go_num,HLT.out,by rw [HTK.out];exact HL9.out,HX9.out.1,HX9.out.2⟩
   case measure=>have:=HLT.out;simp [intOf];omega
  ·have q1:decide ((i:Int)<(N:Int))=false:=decide_eq_false (by omega)
   have q2:¬ (i:Int)<(N:Int):=by omega
   have hiN:i=N:=by omega
   have HTE:Hid (l.take i=l):=by unfold Hid;rw [hiN,← HN.out];exact List.take_length
   clear hlt hiN
   go_wp2_with fail
   go_ret
   exact ⟨_,rfl,by have:=HREP2.out;rw [HTE.out] at this;exact this,HO.out,HCP2.out⟩
theorem eachD_any (gc:Nat):EdC gc:=eachD_of (def_any gc)
end Go.Proofs.YtpfecpcgdfbekaaGreatDoor
namespace Go.Proofs.YtpfecpcgdfbekaaGreatDoor
open Go.RowKit
def idxN:List (List UInt8)→List UInt8→Option Nat
 | [],_=>none
 | x :: r,t=>if x=t then some 0 else (idxN r t).map (· + 1)
def idxI (l:List (List UInt8)) (t:List UInt8):Int:=match idxN l t with
 | none=>-1
 | some i=>(i:Int)
theorem idxN_none:∀ {l:List (List UInt8)} {t:List UInt8},(∀ i (h:i<l.length),l[i]≠t)→idxN l t=none
 | [],_,_=>rfl
 | x :: r,t,h=>by
  unfold idxN
  have h0:x≠t:=h 0 (by simp)
  rw [if_neg h0,idxN_none fun i hi=>h (i+1) (by simpa using hi)];rfl
theorem idxN_at:∀ {l:List (List UInt8)} {t:List UInt8} (i:Nat) (hi:i<l.length),l[i]=t→(∀ j (h:j<i),l[j]≠t)→idxN l t=some i
 | x :: r,t,0,_,e,_=>if_pos e
 | x :: r,t,i+1,hi,e,h=>by
  unfold idxN
  have h0:x≠t:=h 0 (by omega)
  rw [if_neg h0,idxN_at i (by simpa using hi) e fun j hj=>h (j+1) (by omega)];rfl
theorem idxN_lt:∀ {l:List (List UInt8)} {t:List UInt8} {i:Nat},idxN l t=some i→∃ h:i<l.length,l[i]=t
 | [],_,_,h=>by cases h
 | x :: r,t,i,h=>by
  unfold idxN at h
  split at h
  ·cases h;rename_i e;exact ⟨by simp,e⟩
  ·obtain ⟨j,hj,rfl⟩:=Option.map_eq_some_iff.1 h
   obtain ⟨h1,h2⟩:=idxN_lt hj
   exact ⟨by simp;omega,by simpa using h2⟩
set_option maxRecDepth 100000 in
set_option maxHeartbeats 1600000 in
theorem sidx_any (w:World) (A:Option Addr) (n c:Nat) (xs:List (List UInt8)) (hn:xs.length=n) (hrd:RdS strA 1 w A xs) (hn9:n≤100000) (s:ByteArray) (l:List UInt8) (hl:Tx s l) :
  Calls Tryz.prog 63 #[.slice A n c,.string s] w fun e w'=>e = .returned (.int .i64 (idxI xs l))∧w'=w:=by
 obtain rfl:=hl.eq
 have HRD:=Lib.hid hrd
 have HN:=Lib.hid hn
 obtain ⟨I,hI⟩:∃ I,Hid (idxI xs l=I):=⟨_,rfl⟩
 rw [hI.out]
 clear hl hrd hn
 go_enter Tryz.func63,Tryz.ntmps63
 go_wp2_with fail
 go_loopw [8] (fun v wr=>∃ j:Nat,v = .int .i64 j∧j≤n∧wr=w∧Hid (∀ m (h:m<j) (hm:m<xs.length),xs[m]≠l)) (fun v _=>(n - intOf v).toNat)
 case atStart=>exact ⟨0,rfl,Nat.zero_le _,rfl,fun m h=>absurd h (by omega)⟩
 case round =>
  obtain ⟨j,rfl,hj,rfl,HNO⟩:=hrel
  have hj9:(j:Int)≤100000:=by omega
  by_cases hlt:j<n
  ·have q1:decide ((j:Int)<(n:Int))=true:=decide_eq_true (by omega)
   have q2:(j:Int)<(n:Int):=by omega
   have hjx:j<xs.length:=by rw [HN.out];exact hlt
   obtain ⟨g,rfl,hg,hc⟩:=HRD.out (by omega)
   obtain ⟨y,hy⟩:∃ y,xs[j]=y:=⟨_,rfl⟩
   have e0:wr.cell? ⟨g,j,none⟩=some (.string ⟨y.toArray⟩):=by
    have:=hc j hjx 0 (by decide)
    rw [hy,show j * 1+0=j by omega] at this
    exact this
   have HLT:=Lib.hid hlt
   by_cases hyl:l=y
   ·have heq:(l == y)=true:=by rw [hyl];simp
    have HX:Hid (I=(j:Int)):=by
     unfold Hid;rw [← hI.out];unfold idxI
     rw [idxN_at j hjx (by rw [hy];exact hyl.symm) fun m hm=>HNO.out m hm (by omega)]
    clear hy hc hg hjx hyl
    go_wp2_with fail
    go_ret
    exact ⟨by rw [HX.out];rfl,rfl⟩
   ·have heq:(l == y)=false:=by rw [beq_eq_false_iff_ne];exact hyl
    have HNO2:Hid (∀ m (h:m<j+1) (hm:m<xs.length),xs[m]≠l):=by
     intro m h hm
     rcases Nat.lt_or_ge m j with h2 | h2
     ·exact HNO.out m h2 hm
     ·obtain rfl:m=j:=by omega
      rw [hy];exact fun e=>hyl e.symm
    clear hy hc hg hjx hyl
    go_wp2_with fail
    go_roundw
    case rel=>exact ⟨j+1,by go_num,HLT.out,trivial,HNO2⟩
    case measure=>have:=HLT.out;simp [intOf];omega
  ·have q1:decide ((j:Int)<(n:Int))=false:=decide_eq_false (by omega)
   have q2:¬ (j:Int)<(n:Int):=by omega
   have HX:Hid (I = -1):=by
    unfold Hid;rw [← hI.out];unfold idxI
    rw [idxN_none fun m hm=>HNO.out m (by have:=HN.out;omega) hm]
   clear hlt
   go_wp2_with fail
   go_ret
   exact ⟨by rw [HX.out];rfl,rfl⟩
set_option maxRecDepth 100000 in
set_option maxHeartbeats 1600000 in
theorem scont_any (w:World) (A:Option Addr) (n c:Nat) (xs:List (List UInt8)) (hn:xs.length=n) (hrd:RdS strA 1 w A xs) (hn9:n≤100000) (s:ByteArray) (l:List UInt8) (hl:Tx s l) :
  Calls Tryz.prog 43 #[.slice A n c,.string s] w fun e w'=>e = .returned (.bool (idxN xs l).isSome)∧w'=w:=by
 have HC:=Lib.hid (sidx_any w A n c xs hn hrd hn9 s l hl)
 have hb:decide ((0:Int)≤idxI xs l)=(idxN xs l).isSome:=by
  unfold idxI
  cases idxN xs l with
  | none=>rfl
  | some i=>exact decide_eq_true (by show (0:Int)≤(i:Int);omega)
 obtain ⟨I,hI⟩:∃ I,idxI xs l=I:=⟨_,rfl⟩
 obtain ⟨B,hB⟩:∃ B,(idxN xs l).isSome=B:=⟨_,rfl⟩
 rw [hI] at HC hb
 rw [hB] at hb ⊢
 clear hrd hl hI hB hn hn9
 go_enter Tryz.func43,Tryz.ntmps43
 go_wp2_with fail
 refine HC.out.mono ?_;rintro e w' ⟨rfl,hw⟩;obtain rfl:=hw.symm
 go_wp2_with fail
 go_ret
 exact ⟨rfl,rfl⟩
def lastD:List UInt8→Option Nat
 | []=>none
 | c :: r=>match lastD r with
  | some i=>some (i+1)
  | none=>if c=46 then some 0 else none
def lastI (l:List UInt8):Int:=match lastD l with
 | none=>-1
 | some i=>(i:Int)
theorem lastD_none:∀ {l:List UInt8},(∀ i (h:i<l.length),l[i]≠46)→lastD l=none
 | [],_=>rfl
 | c :: r,h=>by
  have h0:c≠46:=h 0 (by simp)
  unfold lastD
  rw [lastD_none fun i hi=>h (i+1) (by simpa using hi)]
  exact if_neg h0
theorem lastD_at:∀ {l:List UInt8} (i:Nat) (hi:i<l.length),l[i]=46→(∀ j (h:j<l.length),i<j→l[j]≠46)→lastD l=some i
 | c :: r,0,_,e,h=>by
  have h0:c=46:=e
  unfold lastD
  rw [lastD_none fun i hi=>h (i+1) (by simpa using hi) (by omega)]
  exact if_pos h0
 | c :: r,i+1,hi,e,h=>by
  unfold lastD
  rw [lastD_at i (by simpa using hi) e fun j hj hij=>h (j+1) (by simpa using hj) (by omega)]
theorem lastD_lt:∀ {l:List UInt8} {i:Nat},lastD l=some i→i<l.length
 | [],_,h=>by cases h
 | c :: r,i,h=>by
  unfold lastD at h
  split at h
  ·rename_i j hj
   cases h
   have:=lastD_lt hj
   simp;omega
  ·split at h
   ·cases h;simp
   ·cases h
set_option maxRecDepth 100000 in
set_option maxHeartbeats 1600000 in
theorem slast_in (w:World) (s:ByteArray) (l:List UInt8) (hl:Tx s l) (hs:(l.length:Int)≤8000) :
  Calls Tryz.prog 65 #[.string s,.int .u8 46] w fun e w'=>e = .returned (.int .i64 (lastI l))∧w'=w:=by
 have hz:(s.size:Int)=(l.length:Int):=by rw [hl.size]
 have HL:=Lib.hid hl
 obtain ⟨N,hN⟩:∃ N,l.length=N:=⟨_,rfl⟩
 have HN:=Lib.hid hN
 obtain ⟨R,hR⟩:∃ R,Hid (lastI l=R):=⟨_,rfl⟩
 rw [hR.out]
 rw [hN] at hz hs
 obtain ⟨I0,hI0⟩:∃ I:Int,(N:Int) - 1=I:=⟨_,rfl⟩
 have hw0:IntKind.i64.wrap I0=I0:=by rw [IntKind.wrap_i64];omega
 clear hl hN
 go_enter Tryz.func65,Tryz.ntmps65
 go_wp2_with fail
 go_loopw [5] (fun v wr=>∃ I:Int,v = .int .i64 I∧-1≤I∧I<(N:Int)∧wr=w∧Hid (∀ m (h:m<l.length),I<(m:Int)→l[m]≠46)) (fun v _=>(intOf v+1).toNat)
 case atStart=>exact ⟨I0,rfl,by omega,by omega,rfl,fun m h h2=>absurd h2 (by have:=HN.out;omega)⟩
 case round =>
  obtain ⟨I,rfl,h1,h2,rfl,HNO⟩:=hrel
  by_cases h0:0≤I
  ·obtain ⟨j,rfl⟩:∃ j:Nat,I=(j:Int):=⟨I.toNat,by omega⟩
   have hjl:j<l.length:=by rw [HN.out];omega
   obtain ⟨hp,hc⟩:=HL.out.idx j hjl
   obtain ⟨c,hcc⟩:∃ c,l[j]=c:=⟨_,rfl⟩
   rw [hcc] at hc
   have q1:decide ((0:Int)≤(j:Int))=true:=decide_eq_true h0
   have hjs:(j:Int)<(s.size:Int):=by omega
   have h02:(0:Int)≤(j:Int):=h0
   obtain ⟨J,hJ⟩:∃ J:Int,(j:Int) - 1=J:=⟨_,rfl⟩
   have hwJ:IntKind.i64.wrap J=J:=by rw [IntKind.wrap_i64];omega
   have HJ:=Lib.hid hJ
   have H2:=Lib.hid h2
   by_cases he:c=46
   ·have b1:((c.toNat:Int) == 46)=true:=by rw [he];rfl
    have HX:Hid (R=(j:Int)):=by
     unfold Hid;rw [← hR.out];unfold lastI
     rw [lastD_at j hjl (by rw [hcc];exact he) fun m hm hjm=>HNO.out m hm (by omega)]
    clear hcc hjl he
    go_wp2_with fail
    go_ret
    exact ⟨by rw [HX.out];rfl,rfl⟩
   ·have b1:((c.toNat:Int) == 46)=false:=by
     rw [beq_eq_false_iff_ne]
     intro e
     have e2:c.toNat=(46:UInt8).toNat:=by show c.toNat=46;omega
     exact he (UInt8.toNat_inj.1 e2)
    have HNO2:Hid (∀ m (h:m<l.length),J<(m:Int)→l[m]≠46):=by
     intro m h h3
     by_cases h4:(j:Int)<(m:Int)
     ·exact HNO.out m h h4
     ·obtain rfl:m=j:=by omega
      rw [hcc];exact he
    clear hcc hjl he
    go_wp2_with fail
    go_roundw
    case rel=>exact ⟨J,rfl,by have:=HJ.out;omega,by have:=HJ.out;have:=H2.out;omega,trivial,HNO2⟩
    case measure=>have:=HJ.out;simp [intOf];omega
  ·obtain rfl:I = -1:=by omega
   have HX:Hid (R = -1):=by
    unfold Hid;rw [← hR.out];unfold lastI
    rw [lastD_none fun m hm=>HNO.out m hm (by omega)]
   clear h0 h1 h2
   go_wp2_with fail
   go_ret
   exact ⟨by rw [HX.out];rfl,rfl⟩
theorem slast_any (w:World) (s:ByteArray) (l:List UInt8) (hl:Tx s l) (hs:(l.length:Int)≤8000) :
  Calls Tryz.prog 47 #[.string s,.int .u8 46] w fun e w'=>e = .returned (.int .i64 (lastI l))∧w'=w:=by
 have HC:=Lib.hid (slast_in w s l hl hs)
 obtain ⟨R,hR⟩:∃ R,lastI l=R:=⟨_,rfl⟩
 rw [hR] at HC ⊢
 clear hl hs hR
 go_enter Tryz.func47,Tryz.ntmps47
 go_wp2_with fail
 refine HC.out.mono ?_;rintro e w' ⟨rfl,hw⟩;obtain rfl:=hw.symm
 go_wp2_with fail
 go_ret
 exact ⟨rfl,rfl⟩
end Go.Proofs.YtpfecpcgdfbekaaGreatDoor
