/- The copier of bundles: fields. -/
import Derived.Test.YtpfecpcgdfbekaaGreatDoorG27
set_option linter.unusedVariables false
set_option linter.unusedSimpArgs false
set_option linter.unnecessarySimpa false
namespace Go.Proofs.YtpfecpcgdfbekaaGreatDoor
open Go.RowKit
def fldB (f:Fld):Bool:=decide (f.ty.length≤8000) && decide (f.nm.length≤8000) && conB 13 f.ini
def FdC (gc:Nat):Prop:=∀ (w:World) (x:FldS) (y:Fld),Cp gc w→RF w (Ltg gc) x y→fldB y=true →
 Calls Tryz.prog 132 #[.pointer (some ⟨gc,0,none⟩),.agg (fldA x)] w fun e w'=>∃ s v,e = .returned (.agg (fldA ⟨x.hasID,x.id,x.req,x.ty,x.nm,x.hasIn,⟨x.ini.k,x.ini.n,x.ini.d,s,v⟩⟩))∧IsSl v∧Oth gc w w'∧Cp gc w'
def EfC (gc:Nat):Prop:=∀ (w:World) (v:Value) (l:List Fld),Cp gc w→RepL fldA 11 202 RF w (Ltg gc) v l→(∀ c ∈ l,fldB c=true)→l.length≤1000 →
 Calls Tryz.prog 131 #[v,.func (.func 132) #[.pointer (some ⟨gc,0,none⟩)] #[]] w fun e w'=>∃ v',e = .returned v'∧IsSl v'∧Oth gc w w'∧Cp gc w'
set_option maxRecDepth 100000 in
set_option maxHeartbeats 3200000 in
theorem field_any (gc:Nat):FdC gc:=by
 intro w x y hcp hxy hok
 obtain ⟨fh,fi,fr,ft,fn,fI,⟨xk,xn,xd,s,xl⟩⟩:=x
 obtain ⟨-,-,-,hty,hnm,-,hrc⟩:=hxy
 dsimp only at hty hnm
 obtain ⟨A,L,q,hxl⟩:=rc_sl hrc
 dsimp only at hxl
 subst hxl
 unfold fldB at hok
 simp only [Bool.and_eq_true,decide_eq_true_eq] at hok
 obtain ⟨⟨h1,h2⟩,h3⟩:=hok
 rw [← hty] at h1
 rw [← hnm] at h2
 have HL1:Hid (ft.length≤140737488355328):=by unfold Hid;omega
 have HL2:Hid (fn.length≤140737488355328):=by unfold Hid;omega
 have HRC:=Lib.hid hrc
 have HCB:=Lib.hid h3
 have HCP:=Lib.hid hcp
 obtain ⟨gx,hgx⟩:∃ g,w.heap.size=g:=⟨_,rfl⟩
 obtain ⟨gr,hgr⟩:∃ g,gx+1=g:=⟨_,rfl⟩
 have hgc:gc<gx:=by rw [← hgx];exact hcp.lt
 obtain ⟨w1,hw⟩:∃ w1,(w.alloc (.cells #[.bool fh,.int .i64 fi,.int .i64 (fr:Int),.string ⟨ft.toArray⟩,.string ⟨fn.toArray⟩,.bool fI,.int .i64 (xk:Int),.int .i64 xn,.int .u64 (xd:Int),.string ⟨s.toArray⟩,.slice A L q] 202)).alloc (.cells #[.bool false,.int .i64 0,.int .i64 0,.string ⟨#[]⟩,.string ⟨#[]⟩,.bool false,.int .i64 0,.int .i64 0,.int .u64 0,.string ⟨#[]⟩,.slice none 0 0] 202)=w1:=⟨_,rfl⟩
 have HBX:Hid (Blk w1 gx gx #[.bool fh,.int .i64 fi,.int .i64 (fr:Int),.string ⟨ft.toArray⟩,.string ⟨fn.toArray⟩,.bool fI,.int .i64 (xk:Int),.int .i64 xn,.int .u64 (xd:Int),.string ⟨s.toArray⟩,.slice A L q] 202):=by
  unfold Hid;rw [← hw,← hgx];exact (Blk.new w _ _).alloc _
 have HBR:Hid (Blk w1 gx gr #[.bool false,.int .i64 0,.int .i64 0,.string ⟨#[]⟩,.string ⟨#[]⟩,.bool false,.int .i64 0,.int .i64 0,.int .u64 0,.string ⟨#[]⟩,.slice none 0 0] 202):=by
  unfold Hid;rw [← hw,← hgr,← hgx,show w.heap.size+1=(w.alloc (.cells #[.bool fh,.int .i64 fi,.int .i64 (fr:Int),.string ⟨ft.toArray⟩,.string ⟨fn.toArray⟩,.bool fI,.int .i64 (xk:Int),.int .i64 xn,.int .u64 (xd:Int),.string ⟨s.toArray⟩,.slice A L q] 202)).heap.size from by simp]
  exact (Blk.new (w.alloc (.cells #[.bool fh,.int .i64 fi,.int .i64 (fr:Int),.string ⟨ft.toArray⟩,.string ⟨fn.toArray⟩,.bool fI,.int .i64 (xk:Int),.int .i64 xn,.int .u64 (xd:Int),.string ⟨s.toArray⟩,.slice A L q] 202)) _ _).less (by simp)
 have HN1:Hid (Nx w w1):=by unfold Hid;rw [← hw];exact Nx.al (nx0 w _) _
 have HGX:=Lib.hid hgx
 have hne1:gc≠gx:=by omega
 have hne2:gc≠gr:=by omega
 have hne3:gx≠gr:=by omega
 have HGR:Hid (gx<gr):=by unfold Hid;omega
 show Calls _ _ #[.pointer (some ⟨gc,0,none⟩),.agg #[.bool fh,.int .i64 fi,.int .i64 (fr:Int),.string ⟨ft.toArray⟩,.string ⟨fn.toArray⟩,.bool fI,.int .i64 (xk:Int),.int .i64 xn,.int .u64 (xd:Int),.string ⟨s.toArray⟩,.slice A L q]] _ _
 clear hcp h1 h2 h3 hrc hty hnm
 go_enter Tryz.func132,Tryz.ntmps132
 go_upto_region 1 with (fail)
 try rw [hw]
 clear hw hgx hgr
 have x3:w1.cell? ⟨gx,3,none⟩=some (.string ⟨ft.toArray⟩):=HBX.out.cell 3
 go_wp2_with fail
 refine (clone_any w1 _ ft (Tx.of _) HL1.out).mono ?_;rintro e w2 ⟨rfl,hn2⟩
 have hx2:=HBX.out.below hn2
 have HBX3:Hid (Blk (w2.setCell ⟨gx,3,none⟩ (.string ⟨ft.toArray⟩)) gx gx #[.bool fh,.int .i64 fi,.int .i64 (fr:Int),.string ⟨ft.toArray⟩,.string ⟨fn.toArray⟩,.bool fI,.int .i64 (xk:Int),.int .i64 xn,.int .u64 (xd:Int),.string ⟨s.toArray⟩,.slice A L q] 202):=hx2.put 3 _
 have HBR3:Hid (Blk (w2.setCell ⟨gx,3,none⟩ (.string ⟨ft.toArray⟩)) gx gr #[.bool false,.int .i64 0,.int .i64 0,.string ⟨#[]⟩,.string ⟨#[]⟩,.bool false,.int .i64 0,.int .i64 0,.int .u64 0,.string ⟨#[]⟩,.slice none 0 0] 202):=(HBR.out.below hn2).other hne3 3 _
 have HN3:Hid (Nx w (w2.setCell ⟨gx,3,none⟩ (.string ⟨ft.toArray⟩))):=(HN1.out.trans hn2).put' (by rw [HGX.out];exact Nat.le_refl _) 3 _
 clear x3
 have x3:w2.cell? ⟨gx,3,none⟩=some (.string ⟨ft.toArray⟩):=hx2.cell 3
 have x4:w2.cell? ⟨gx,4,none⟩=some (.string ⟨fn.toArray⟩):=hx2.cell 4
 have f3:=hx2.free 3
 clear hn2 hx2
 go_wp2_with fail
 generalize World.setCell w2 _ _=w3 at *
 clear x3 x4 f3
 refine (clone_any w3 _ fn (Tx.of _) HL2.out).mono ?_;rintro e w4 ⟨rfl,hn4⟩
 have hx4:=HBX3.out.below hn4
 have HBX5:Hid (Blk (w4.setCell ⟨gx,4,none⟩ (.string ⟨fn.toArray⟩)) gx gx #[.bool fh,.int .i64 fi,.int .i64 (fr:Int),.string ⟨ft.toArray⟩,.string ⟨fn.toArray⟩,.bool fI,.int .i64 (xk:Int),.int .i64 xn,.int .u64 (xd:Int),.string ⟨s.toArray⟩,.slice A L q] 202):=hx4.put 4 _
 have HBR5:Hid (Blk (w4.setCell ⟨gx,4,none⟩ (.string ⟨fn.toArray⟩)) gx gr #[.bool false,.int .i64 0,.int .i64 0,.string ⟨#[]⟩,.string ⟨#[]⟩,.bool false,.int .i64 0,.int .i64 0,.int .u64 0,.string ⟨#[]⟩,.slice none 0 0] 202):=(HBR3.out.below hn4).other hne3 4 _
 have HN5:Hid (Nx w (w4.setCell ⟨gx,4,none⟩ (.string ⟨fn.toArray⟩))):=(HN3.out.trans hn4).put' (by rw [HGX.out];exact Nat.le_refl _) 4 _
 have HCA:=Lib.hid (constant_any 13 (w4.setCell ⟨gx,4,none⟩ (.string ⟨fn.toArray⟩)) ⟨xk,xn,xd,s,.slice A L q⟩ y.ini (HCP.out.nx HN5.out) (RC.lasts 13 (mvO (Oth.nx HN5.out)) HRC.out) HCB.out)
 have x4:w4.cell? ⟨gx,4,none⟩=some (.string ⟨fn.toArray⟩):=hx4.cell 4
 have x6:w4.cell? ⟨gx,6,none⟩=some (.int .i64 (xk:Int)):=hx4.cell 6
 have x7:w4.cell? ⟨gx,7,none⟩=some (.int .i64 xn):=hx4.cell 7
 have x8:w4.cell? ⟨gx,8,none⟩=some (.int .u64 (xd:Int)):=hx4.cell 8
 have x9:w4.cell? ⟨gx,9,none⟩=some (.string ⟨s.toArray⟩):=hx4.cell 9
 have x10:w4.cell? ⟨gx,10,none⟩=some (.slice A L q):=hx4.cell 10
 have f4:=hx4.free 4
 clear hn4 hx4
 go_wp2_with fail
 generalize World.setCell w4 _ _=w5 at *
 clear x4 f4 x6 x7 x8 x9 x10
 refine HCA.out.mono ?_;rintro e w6 ⟨s8,_,rfl,⟨A8,n8,c8,rfl⟩,ho6,hcp6⟩
 rw [show conA ⟨xk,xn,xd,s8,.slice A8 n8 c8⟩=#[.int .i64 (xk:Int),.int .i64 xn,.int .u64 (xd:Int),.string ⟨s8.toArray⟩,.slice A8 n8 c8] from rfl]
 have hx6:=ho6.blk HBX5.out (Ne.symm hne1)
 have hr6:=ho6.blk HBR5.out (Ne.symm hne2)
 have HO6:=Lib.hid ((Oth.nx HN5.out).trans ho6)
 have HCP6:=Lib.hid hcp6
 have HX6:=Lib.hid hx6
 have HR6:=Lib.hid hr6
 have x0:w6.cell? ⟨gx,0,none⟩=some (.bool fh):=hx6.cell 0
 have x1:w6.cell? ⟨gx,1,none⟩=some (.int .i64 fi):=hx6.cell 1
 have x2:w6.cell? ⟨gx,2,none⟩=some (.int .i64 (fr:Int)):=hx6.cell 2
 have x3:w6.cell? ⟨gx,3,none⟩=some (.string ⟨ft.toArray⟩):=hx6.cell 3
 have x4:w6.cell? ⟨gx,4,none⟩=some (.string ⟨fn.toArray⟩):=hx6.cell 4
 have x5:w6.cell? ⟨gx,5,none⟩=some (.bool fI):=hx6.cell 5
 have x6:w6.cell? ⟨gx,6,none⟩=some (.int .i64 (xk:Int)):=hx6.cell 6
 have x7:w6.cell? ⟨gx,7,none⟩=some (.int .i64 xn):=hx6.cell 7
 have x8:w6.cell? ⟨gx,8,none⟩=some (.int .u64 (xd:Int)):=hx6.cell 8
 have x9:w6.cell? ⟨gx,9,none⟩=some (.string ⟨s.toArray⟩):=hx6.cell 9
 have x10:w6.cell? ⟨gx,10,none⟩=some (.slice A L q):=hx6.cell 10
 have y0:w6.cell? ⟨gr,0,none⟩=some (.bool false):=hr6.cell 0
 have y1:w6.cell? ⟨gr,1,none⟩=some (.int .i64 0):=hr6.cell 1
 have y2:w6.cell? ⟨gr,2,none⟩=some (.int .i64 0):=hr6.cell 2
 have y3:w6.cell? ⟨gr,3,none⟩=some (.string ⟨#[]⟩):=hr6.cell 3
 have y4:w6.cell? ⟨gr,4,none⟩=some (.string ⟨#[]⟩):=hr6.cell 4
 have y5:w6.cell? ⟨gr,5,none⟩=some (.bool false):=hr6.cell 5
 have y6:w6.cell? ⟨gr,6,none⟩=some (.int .i64 0):=hr6.cell 6
 have y7:w6.cell? ⟨gr,7,none⟩=some (.int .i64 0):=hr6.cell 7
 have y8:w6.cell? ⟨gr,8,none⟩=some (.int .u64 0):=hr6.cell 8
 have y9:w6.cell? ⟨gr,9,none⟩=some (.string ⟨#[]⟩):=hr6.cell 9
 have y10:w6.cell? ⟨gr,10,none⟩=some (.slice none 0 0):=hr6.cell 10
 have f6:=hx6.free 6
 have f7:=hx6.free 7
 have f8:=hx6.free 8
 have f9:=hx6.free 9
 have f10:=hx6.free 10
 have r0:=hr6.free 0
 have r1:=hr6.free 1
 have r2:=hr6.free 2
 have r3:=hr6.free 3
 have r4:=hr6.free 4
 have r5:=hr6.free 5
 have r6:=hr6.free 6
 have r7:=hr6.free 7
 have r8:=hr6.free 8
 have r9:=hr6.free 9
 have r10:=hr6.free 10
 clear hx6 hr6 ho6 hcp6 HCA
 go_wp2_with fail
 have hb2:=(HR6.out.apart hne3 [.int .i64 (xk:Int),.int .i64 xn,.int .u64 (xd:Int),.string ⟨s8.toArray⟩,.slice A8 n8 c8] 6).putAll [.bool fh,.int .i64 fi,.int .i64 (fr:Int),.string ⟨ft.toArray⟩,.string ⟨fn.toArray⟩,.bool fI,.int .i64 (xk:Int),.int .i64 xn,.int .u64 (xd:Int),.string ⟨s8.toArray⟩,.slice A8 n8 c8] rfl
 refine bodyPost_ret (results_cell_row rfl _ _ gr _ _ _ _ rfl hb2.2 Tryz.underlying202 rfl (by kernel_rfl)) rfl ?_
 have hxw:w.heap.size≤gx:=by rw [HGX.out];exact Nat.le_refl _
 have hrw:w.heap.size≤gr:=by have:=HGR.out;omega
 obtain ⟨N5,hN5,hbc5⟩:=HCP6.out
 refine ⟨s8,.slice A8 n8 c8,rfl,⟨_,_,_,rfl⟩,?_,N5,hN5,?_⟩
 ·exact (HO6.out.puts hxw [.int .i64 (xk:Int),.int .i64 xn,.int .u64 (xd:Int),.string ⟨s8.toArray⟩,.slice A8 n8 c8] 6).puts hrw [.bool fh,.int .i64 fi,.int .i64 (fr:Int),.string ⟨ft.toArray⟩,.string ⟨fn.toArray⟩,.bool fI,.int .i64 (xk:Int),.int .i64 xn,.int .u64 (xd:Int),.string ⟨s8.toArray⟩,.slice A8 n8 c8] 0
 ·exact (hbc5.apart (Ne.symm hne1) [.int .i64 (xk:Int),.int .i64 xn,.int .u64 (xd:Int),.string ⟨s8.toArray⟩,.slice A8 n8 c8] 6).apart (Ne.symm hne2) [.bool fh,.int .i64 fi,.int .i64 (fr:Int),.string ⟨ft.toArray⟩,.string ⟨fn.toArray⟩,.bool fI,.int .i64 (xk:Int),.int .i64 xn,.int .u64 (xd:Int),.string ⟨s8.toArray⟩,.slice A8 n8 c8] 0
set_option maxRecDepth 100000 in
set_option maxHeartbeats 3200000 in
theorem eachF_of {gc:Nat} (hC:FdC gc):EfC gc:=by
 intro w v l hcp hrep hok hlen
 obtain ⟨A,cp,xs,rfl,hxl,hlc,hcm,hrd,hall⟩:=hrep.sl fldA_size
 have HREP:=Lib.hid hrep
 have HRD:=Lib.hid hrd
 have HALL:=Lib.hid hall
 have HOK:=Lib.hid hok
 have HCP:=Lib.hid hcp
 have HC:=Lib.hid hC
 have HXL:=Lib.hid hxl
 obtain ⟨N,hN⟩:∃ N,l.length=N:=⟨_,rfl⟩
 have HN:=Lib.hid hN
 rw [hN] at hlen ⊢
 have hN9:(N:Int)≤1000:=by omega
 obtain ⟨B,hB⟩:∃ B,w.heap.size=B:=⟨_,rfl⟩
 have HB:=Lib.hid hB
 have HGB:Hid (gc<B):=by unfold Hid;rw [← hB];exact hcp.lt
 obtain ⟨i0,hi,hz0,hz1,hz2⟩:=info_parts infoF
 obtain ⟨M,hM⟩:∃ M,M=madeCells (Value.cells (.agg #[.bool false,.int .i64 0,.int .i64 0,.string ⟨#[]⟩,.string ⟨#[]⟩,.bool false,.int .i64 0,.int .i64 0,.int .u64 0,.string ⟨#[]⟩,.slice none 0 0])) (((N:Nat):Int).toNat * i0.size):=⟨_,rfl⟩
 have hMs:M.size=N * 11:=by rw [hM,size_madeCells,hz1];simp
 have hmk:∀ W:World,(Instr.makeSlice 52 (.int .i64 0) (.int .i64 (N:Int))).run Tryz.prog W = .ok (.slice (some ⟨W.heap.size,0,none⟩) 0 N) (W.alloc (.cells M 202)):=fun W=>by
  have h:=run_make (P:=Tryz.prog) W 52 202 i0 _ Tryz.underlying52 hi hz0 .i64 .i64 0 (N:Int) (by omega) (by omega) (by rw [hz2];omega) (by omega)
  rw [← hM] at h
  simpa using h
 have HRM:Hid (RepL fldA 11 202 (RTr (α:=FldS) (β:=Fld)) (w.alloc (.cells M 202)) (Fm w.heap.size) (.slice (some ⟨B,0,none⟩) 0 N) (l.take 0)):=by
  unfold Hid;rw [List.take_zero,← hB];exact made_nil (z:=0) hMs (Nat.le_refl _) (by simp [maxLen];omega)
 have HN1:Hid (Nx w (w.alloc (.cells M 202))):=nx0 _ _
 clear hM hi hz0 hz1 hz2 hMs hrep hrd hall hok hcp hC hxl hN hlc hcm hlen
 go_enter Tryz.func131,Tryz.ntmps131
 go_wp2_with fail
 generalize World.alloc w _=w1 at *
 clear hB
 go_loopw [5,13] (fun u v wr=>∃ i:Nat,v = .int .i64 (i:Int)∧i≤N∧RepL fldA 11 202 (RTr (α:=FldS) (β:=Fld)) wr (Fm w.heap.size) u (l.take i)∧Oth gc w wr∧Cp gc wr) (fun _ v _=>(N - intOf v).toNat)
 case atStart=>exact ⟨0,rfl,Nat.zero_le _,HRM.out,Oth.nx HN1.out,HCP.out.nx HN1.out⟩
 case round =>
  obtain ⟨i,rfl,hi,hrep,ho,hcp⟩:=hrel
  obtain ⟨uA,un,uc,rfl⟩:∃ A n c,u5 = .slice A n c:=by
   obtain ⟨A,c,_,h,-⟩:=hrep.sl fldA_size
   exact ⟨_,_,_,h⟩
  have HREP2:=Lib.hid hrep
  have HO:=Lib.hid ho
  have HCP2:=Lib.hid hcp
  clear hrep ho hcp
  by_cases hlt:i<N
  ·have q1:decide ((i:Int)<(N:Int))=true:=decide_eq_true (by omega)
   have q2:(i:Int)<(N:Int):=by omega
   have hix:i<xs.length:=by rw [HXL.out,HN.out];exact hlt
   have hil:i<l.length:=by rw [HN.out];exact hlt
   obtain ⟨g,rfl,hg,hc⟩:=HRD.out (by omega)
   have hgg:g<gc:=(RepL.own_lt HREP.out g rfl).1
   have hrel:=HALL.out.at_ i hix hil
   have hcx:=HOK.out _ (List.getElem_mem hil)
   obtain ⟨⟨fh,fi,fr,ft,fn,fI,⟨xk,xn,xd,xs',xl⟩⟩,hx⟩:∃ x,xs[i]=x:=⟨_,rfl⟩
   obtain ⟨y,hy⟩:∃ y,l[i]=y:=⟨_,rfl⟩
   have htk:l.take (i+1)=l.take i++[y]:=by rw [List.take_succ_eq_append_getElem hil,hy]
   have hcell:∀ j,j<11→wr.cell? ⟨g,i * 11+j,none⟩=(fldA ⟨fh,fi,fr,ft,fn,fI,⟨xk,xn,xd,xs',xl⟩⟩)[j]?:=fun j hj=>by
    rw [← hx,← hc i hix j hj]
    exact World.cell?_of_block (HO.out.block g hg (by omega))
   rw [hx,hy] at hrel
   rw [hy] at hcx
   have hrc:=RF.lasts (mvO HO.out) (RF.lasts ⟨fun _ _ _=>rfl,fun _ h _=>h.1⟩ hrel)
   obtain ⟨zA,zu,zc,rfl⟩:∃ A k c,xl = .slice A k c:=rc_sl hrc.2.2.2.2.2.2
   have e0:wr.cell? ⟨g,i * 11,none⟩=some (.bool fh):=hcell 0 (by decide)
   have e1:wr.cell? ⟨g,i * 11+1,none⟩=some (.int .i64 fi):=hcell 1 (by decide)
   have e2:wr.cell? ⟨g,i * 11+2,none⟩=some (.int .i64 (fr:Int)):=hcell 2 (by decide)
   have e3:wr.cell? ⟨g,i * 11+3,none⟩=some (.string ⟨ft.toArray⟩):=hcell 3 (by decide)
   have e4:wr.cell? ⟨g,i * 11+4,none⟩=some (.string ⟨fn.toArray⟩):=hcell 4 (by decide)
   have e5:wr.cell? ⟨g,i * 11+5,none⟩=some (.bool fI):=hcell 5 (by decide)
   have e6:wr.cell? ⟨g,i * 11+6,none⟩=some (.int .i64 (xk:Int)):=hcell 6 (by decide)
   have e7:wr.cell? ⟨g,i * 11+7,none⟩=some (.int .i64 xn):=hcell 7 (by decide)
   have e8:wr.cell? ⟨g,i * 11+8,none⟩=some (.int .u64 (xd:Int)):=hcell 8 (by decide)
   have e9:wr.cell? ⟨g,i * 11+9,none⟩=some (.string ⟨xs'.toArray⟩):=hcell 9 (by decide)
   have e10:wr.cell? ⟨g,i * 11+10,none⟩=some (.slice zA zu zc):=hcell 10 (by decide)
   have HTK:=Lib.hid htk
   have HLT:=Lib.hid hlt
   have HIL:Hid ((l.take i).length=i):=by unfold Hid;rw [List.length_take];omega
   have HRC:=Lib.hid hrc
   have HCX:=Lib.hid hcx
   clear hcell hx hy hrel hc htk hcx hrc hix hil
   go_upto_region 5 with (fail)
   obtain ⟨g7,hg7⟩:∃ g7,wr.heap.size=g7:=⟨_,rfl⟩
   have hB7:=Blk.new wr #[.bool fh,.int .i64 fi,.int .i64 (fr:Int),.string ⟨ft.toArray⟩,.string ⟨fn.toArray⟩,.bool fI,.int .i64 (xk:Int),.int .i64 xn,.int .u64 (xd:Int),.string ⟨xs'.toArray⟩,.slice zA zu zc] 202
   have hn7:=nx0 wr (.cells #[.bool fh,.int .i64 fi,.int .i64 (fr:Int),.string ⟨ft.toArray⟩,.string ⟨fn.toArray⟩,.bool fI,.int .i64 (xk:Int),.int .i64 xn,.int .u64 (xd:Int),.string ⟨xs'.toArray⟩,.slice zA zu zc] 202)
   rw [hg7] at hB7
   rw [hg7]
   generalize World.alloc wr _=w7 at *
   have HB7:=Lib.hid hB7
   have HN7:=Lib.hid hn7
   have HC7:=Lib.hid (HC.out w7 ⟨fh,fi,fr,ft,fn,fI,⟨xk,xn,xd,xs',.slice zA zu zc⟩⟩ y (HCP2.out.nx hn7) (RF.lasts (mvO (Oth.nx hn7)) HRC.out) HCX.out)
   clear hg7 hB7 hn7 e0 e1 e2 e3 e4 e5 e6 e7 e8 e9 e10
   have t0:w7.cell? ⟨g7,0,none⟩=some (.bool fh):=HB7.out.cell 0
   have t1:w7.cell? ⟨g7,1,none⟩=some (.int .i64 fi):=HB7.out.cell 1
   have t2:w7.cell? ⟨g7,2,none⟩=some (.int .i64 (fr:Int)):=HB7.out.cell 2
   have t3:w7.cell? ⟨g7,3,none⟩=some (.string ⟨ft.toArray⟩):=HB7.out.cell 3
   have t4:w7.cell? ⟨g7,4,none⟩=some (.string ⟨fn.toArray⟩):=HB7.out.cell 4
   have t5:w7.cell? ⟨g7,5,none⟩=some (.bool fI):=HB7.out.cell 5
   have t6:w7.cell? ⟨g7,6,none⟩=some (.int .i64 (xk:Int)):=HB7.out.cell 6
   have t7:w7.cell? ⟨g7,7,none⟩=some (.int .i64 xn):=HB7.out.cell 7
   have t8:w7.cell? ⟨g7,8,none⟩=some (.int .u64 (xd:Int)):=HB7.out.cell 8
   have t9:w7.cell? ⟨g7,9,none⟩=some (.string ⟨xs'.toArray⟩):=HB7.out.cell 9
   have t10:w7.cell? ⟨g7,10,none⟩=some (.slice zA zu zc):=HB7.out.cell 10
   go_wp2_with fail
   refine HC7.out.mono ?_;rintro e w8 ⟨s8,v8,rfl,⟨A8,n8,c8,rfl⟩,ho8,hcp8⟩
   rw [show fldA ⟨fh,fi,fr,ft,fn,fI,⟨xk,xn,xd,s8,.slice A8 n8 c8⟩⟩=#[.bool fh,.int .i64 fi,.int .i64 (fr:Int),.string ⟨ft.toArray⟩,.string ⟨fn.toArray⟩,.bool fI,.int .i64 (xk:Int),.int .i64 xn,.int .u64 (xd:Int),.string ⟨s8.toArray⟩,.slice A8 n8 c8] from rfl]
   have HO8:=Lib.hid (HO.out.trans ((Oth.nx HN7.out).trans ho8))
   have HCP8:=Lib.hid hcp8
   have HR8:Hid (RepL fldA 11 202 (RTr (α:=FldS) (β:=Fld)) w8 (Fm w.heap.size) (.slice uA un uc) (l.take i)):=RepL.oth (RTr.lasts (α:=FldS) (β:=Fld)) HREP2.out ((Oth.nx HN7.out).trans ho8) (by rw [HB.out];exact HGB.out)
   have h63:((l.take i).length:Int)≤100000:=by rw [HIL.out];omega
   have hwB:w.heap.size≤w8.heap.size:=HO8.out.size
   have hgB:gc<w.heap.size:=by rw [HB.out];exact HGB.out
   have HONE:Hid (∀ u ∈ (fldA ⟨fh,fi,fr,ft,fn,fI,⟨xk,xn,xd,s8,.slice A8 n8 c8⟩⟩).toList,u.oneCell'=true):=fun u hu=>by
    simp [fldA,bt] at hu
    rcases hu with rfl | rfl | rfl | rfl | rfl | rfl | rfl | rfl | rfl | rfl | rfl <;> rfl
   have H63:=Lib.hid h63
   have HWB:=Lib.hid hwB
   have HGB2:=Lib.hid hgB
   clear ho8 hcp8 HC7 t0 t1 t2 t3 t4 t5 t6 t7 t8 t9 t10 HB7 HN7 h63 hwB hgB
   go_wp2_with (at_builtin;go_must (refine wpList_appL _ (RTr.lasts (α:=FldS) (β:=Fld)) infoF Tryz.underlying52 rfl (by decide) (by decide) fldA_size rfl _ _ rfl w.heap.size gc (.slice uA un uc) (l.take i) ⟨fh,fi,fr,ft,fn,fI,⟨xk,xn,xd,s8,.slice A8 n8 c8⟩⟩ y rfl (RepL.nx (RTr.lasts (α:=FldS) (β:=Fld)) HR8.out (nx0 _ _)) HONE.out _ rfl (fun j hj=>cell_newP (by simp)) trivial H63.out (Nat.le_trans HWB.out (nx0 _ _).size) HGB2.out ?_;intro v9 w9 hl9 hf9 hk9;have HL9:=Lib.hid hl9;have HX9:=Lib.hid (cp_app (RepL.nx (RTr.lasts (α:=FldS) (β:=Fld)) HR8.out (nx0 _ _)) (HO8.out.trans (Oth.nx (nx0 _ _))) (HCP8.out.nx (nx0 _ _)) HGB2.out hf9 hk9);clear hl9 hf9 hk9))
   go_roundw
   case rel=>exact ⟨i+1,by go_num,HLT.out,by rw [HTK.out];exact HL9.out,HX9.out.1,HX9.out.2⟩
   case measure=>have:=HLT.out;simp [intOf];omega
  ·have q1:decide ((i:Int)<(N:Int))=false:=decide_eq_false (by omega)
   have q2:¬ (i:Int)<(N:Int):=by omega
   have hiN:i=N:=by omega
   have HTE:Hid (l.take i=l):=by unfold Hid;rw [hiN,← HN.out];exact List.take_length
   clear hlt hiN
   go_wp2_with fail
   go_ret
   exact ⟨_,rfl,⟨_,_,_,rfl⟩,HO.out,HCP2.out⟩
theorem eachF_any (gc:Nat):EfC gc:=eachF_of (field_any gc)
end Go.Proofs.YtpfecpcgdfbekaaGreatDoor
