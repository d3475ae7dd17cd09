/- The contract of bundle.Get at a file without anything; what the laws of bundle begin with. The contract of bundle.Get at a file without anything; what the laws of bundle begin with. What the laws of bundle begin with. The contract of assayerlaw9.sources. -/
import Derived.Test.YtpbjkgpdkopgmaaGreatDoorG31
import Derived.Laws.MakeOwn
set_option linter.unusedVariables false
set_option linter.unusedSimpArgs false
set_option linter.unnecessarySimpa false
namespace Go.Proofs.YtpbjkgpdkopgmaaGreatDoor
open Go.RowKit
theorem makeFunc_runB (fn:Fn) (first cap:Array Value) (w:World):(Instr.makeFunc fn first cap).run Tryz.prog w = .ok (.func fn first cap) w:=rfl
def NewS (v:Value):Prop:=∃ g,v = .slice (some ⟨g,0,none⟩) 0 0
set_option maxRecDepth 100000 in
set_option maxHeartbeats 1600000 in
theorem each0_nil (w:World) (A:Option Addr) (c:Nat) (fv:Value) :
  Calls Tryz.prog 72 #[.slice A 0 c,fv] w fun e w'=>∃ v,e = .returned v∧NewS v∧Nx w w':=by
 obtain ⟨i0,hi,hz0,hz1,hz2⟩:=info_parts infoI
 obtain ⟨M,hM⟩:∃ M,M=madeCells (Value.cells (Value.string ⟨#[]⟩)) ((((0:Nat):Int)).toNat * i0.size):=⟨_,rfl⟩
 have hmk:∀ W:World,(Instr.makeSlice 29 (.int .i64 0) (.int .i64 0)).run Tryz.prog W = .ok (.slice (some ⟨W.heap.size,0,none⟩) 0 0) (W.alloc (.cells M 9)):=fun W=>by
  have h:=run_make (P:=Tryz.prog) W 29 9 i0 _ Tryz.underlying29 hi hz0 .i64 .i64 0 0 (by omega) (by omega) (by rw [hz2];omega) (by omega)
  rw [show (((0:Nat):Int))=0 from rfl] at hM
  rw [← hM] at h
  simpa using h
 clear hM
 go_enter Tryz.func72,Tryz.ntmps72
 go_wp2_with fail
 go_loopw [5,13] (fun u v wr=>NewS u∧v = .int .i64 0∧Nx w wr) (fun _ _ _=>0)
 case atStart=>exact ⟨⟨_,rfl⟩,rfl,nx0 _ _⟩
 case round =>
  obtain ⟨⟨g5,rfl⟩,rfl,hn⟩:=hrel
  have HN:=Lib.hid hn
  clear hn
  go_wp2_with fail
  go_ret
  exact ⟨_,rfl,⟨_,rfl⟩,HN.out⟩
set_option maxRecDepth 100000 in
set_option maxHeartbeats 1600000 in
theorem each1_nil (w:World) (A:Option Addr) (c:Nat) (fv:Value) :
  Calls Tryz.prog 73 #[.slice A 0 c,fv] w fun e w'=>∃ v,e = .returned v∧NewS v∧Nx w w':=by
 obtain ⟨i0,hi,hz0,hz1,hz2⟩:=info_parts infoS
 obtain ⟨M,hM⟩:∃ M,M=madeCells (Value.cells (Value.agg #[.string ⟨#[]⟩,.string ⟨#[]⟩])) ((((0:Nat):Int)).toNat * i0.size):=⟨_,rfl⟩
 have hmk:∀ W:World,(Instr.makeSlice 30 (.int .i64 0) (.int .i64 0)).run Tryz.prog W = .ok (.slice (some ⟨W.heap.size,0,none⟩) 0 0) (W.alloc (.cells M 81)):=fun W=>by
  have h:=run_make (P:=Tryz.prog) W 30 81 i0 _ Tryz.underlying30 hi hz0 .i64 .i64 0 0 (by omega) (by omega) (by rw [hz2];omega) (by omega)
  rw [show (((0:Nat):Int))=0 from rfl] at hM
  rw [← hM] at h
  simpa using h
 clear hM
 go_enter Tryz.func73,Tryz.ntmps73
 go_wp2_with fail
 go_loopw [5,13] (fun u v wr=>NewS u∧v = .int .i64 0∧Nx w wr) (fun _ _ _=>0)
 case atStart=>exact ⟨⟨_,rfl⟩,rfl,nx0 _ _⟩
 case round =>
  obtain ⟨⟨g5,rfl⟩,rfl,hn⟩:=hrel
  have HN:=Lib.hid hn
  clear hn
  go_wp2_with fail
  go_ret
  exact ⟨_,rfl,⟨_,rfl⟩,HN.out⟩
set_option maxRecDepth 100000 in
set_option maxHeartbeats 1600000 in
theorem each2_nil (w:World) (A:Option Addr) (c:Nat) (fv:Value) :
  Calls Tryz.prog 75 #[.slice A 0 c,fv] w fun e w'=>∃ v,e = .returned v∧NewS v∧Nx w w':=by
 obtain ⟨i0,hi,hz0,hz1,hz2⟩:=info_parts infoD
 obtain ⟨M,hM⟩:∃ M,M=madeCells (Value.cells (Value.agg #[.int .i64 0,.string ⟨#[]⟩,.string ⟨#[]⟩,.int .i64 0,.int .i64 0,.int .u64 0,.string ⟨#[]⟩,.slice none 0 0,.slice none 0 0,.slice none 0 0,.string ⟨#[]⟩,.slice none 0 0])) ((((0:Nat):Int)).toNat * i0.size):=⟨_,rfl⟩
 have hmk:∀ W:World,(Instr.makeSlice 31 (.int .i64 0) (.int .i64 0)).run Tryz.prog W = .ok (.slice (some ⟨W.heap.size,0,none⟩) 0 0) (W.alloc (.cells M 73)):=fun W=>by
  have h:=run_make (P:=Tryz.prog) W 31 73 i0 _ Tryz.underlying31 hi hz0 .i64 .i64 0 0 (by omega) (by omega) (by rw [hz2];omega) (by omega)
  rw [show (((0:Nat):Int))=0 from rfl] at hM
  rw [← hM] at h
  simpa using h
 clear hM
 go_enter Tryz.func75,Tryz.ntmps75
 go_wp2_with fail
 go_loopw [5,13] (fun u v wr=>NewS u∧v = .int .i64 0∧Nx w wr) (fun _ _ _=>0)
 case atStart=>exact ⟨⟨_,rfl⟩,rfl,nx0 _ _⟩
 case round =>
  obtain ⟨⟨g5,rfl⟩,rfl,hn⟩:=hrel
  have HN:=Lib.hid hn
  clear hn
  go_wp2_with fail
  go_ret
  exact ⟨_,rfl,⟨_,rfl⟩,HN.out⟩
set_option maxRecDepth 100000 in
set_option maxHeartbeats 3200000 in
theorem copyFile_nil (w:World) (A1 A2 A3:Option Addr) (c1 c2 c3:Nat) :
  Calls Tryz.prog 39 #[.agg #[.slice A1 0 c1,.slice A2 0 c2,.slice A3 0 c3]] w fun e w'=>∃ v1 v2 v3,e = .returned (.agg #[v1,v2,v3])∧NewS v1∧NewS v2∧NewS v3∧Nx w w':=by
 have hmf:=makeFunc_runB
 go_enter Tryz.func39,Tryz.ntmps39
 obtain ⟨gb,hgb⟩:∃ g,w.heap.size=g:=⟨_,rfl⟩
 obtain ⟨gr,hgr⟩:∃ g,gb+1=g:=⟨_,rfl⟩
 obtain ⟨gc,hgc⟩:∃ g,gr+1=g:=⟨_,rfl⟩
 go_upto_region 2 with (fail)
 obtain ⟨w1,hw1⟩:∃ w1,((w.alloc (.cells #[.slice A1 0 c1,.slice A2 0 c2,.slice A3 0 c3] 33)).alloc (.cells #[.slice none 0 0,.slice none 0 0,.slice none 0 0] 33)).alloc (.cells #[.int .i64 64000] 147)=w1:=⟨_,rfl⟩
 have HB:Hid (Blk w1 gb gb #[.slice A1 0 c1,.slice A2 0 c2,.slice A3 0 c3] 33):=by
  unfold Hid;rw [← hw1,← hgb];exact ((Blk.new w _ _).alloc _).alloc _
 have HR:Hid (Blk w1 gb gr #[.slice none 0 0,.slice none 0 0,.slice none 0 0] 33):=by
  unfold Hid;rw [← hw1,← hgr,← hgb,show w.heap.size+1=(w.alloc (.cells #[.slice A1 0 c1,.slice A2 0 c2,.slice A3 0 c3] 33)).heap.size from by simp]
  exact ((Blk.new (w.alloc (.cells #[.slice A1 0 c1,.slice A2 0 c2,.slice A3 0 c3] 33)) _ _).alloc _).less (by simp)
 have HN:Hid (Nx w w1):=by unfold Hid;rw [← hw1];exact Nx.al (Nx.al (nx0 w _) _) _
 rw [hw1]
 have HGB:=Lib.hid hgb
 clear hw1 hgb hgr hgc
 have L0:∀ x:Gr w1,x.1.cell? ⟨gb,0,none⟩=some (.slice A1 0 c1):=fun x=>(HB.out.below x.2).cell 0
 have L1:∀ x:Gr w1,x.1.cell? ⟨gb,1,none⟩=some (.slice A2 0 c2):=fun x=>(HB.out.below x.2).cell 1
 have L2:∀ x:Gr w1,x.1.cell? ⟨gb,2,none⟩=some (.slice A3 0 c3):=fun x=>(HB.out.below x.2).cell 2
 refine EH.wp_region_hyb [11] [(0,1),(1,1),(3,1),(4,1),(6,1),(7,1),(8,2),(2,0),(5,0),(9,0),(10,2),(11,0)] rfl (by kernel_rfl) ?_
 iterate 6 (refine EH.hyb_calm rfl (fun K hK=>?_);go_simp;refine hK _ ?_;clear hK K)
 refine EH.hyb_pure rfl (fun K hK=>?_);go_simp;refine hK _ ?_;clear hK K
 clear L0 L1 L2
 refine EH.hyb_alone rfl (fun w2 hn2 K hK=>?_)
 go_simp
 refine (each0_nil w2 _ _ _).mono ?_;rintro e w3 ⟨v1,rfl,⟨g1,rfl⟩,hn3⟩
 refine hK _ _ (.inr hn3) ?_
 clear hK K
 refine EH.hyb_alone rfl (fun w4 hn4 K hK=>?_)
 go_simp
 refine (each1_nil w4 _ _ _).mono ?_;rintro e w5 ⟨v2,rfl,⟨g2,rfl⟩,hn5⟩
 refine hK _ _ (.inr hn5) ?_
 clear hK K
 refine EH.hyb_alone rfl (fun w6 hn6 K hK=>?_)
 go_simp
 refine (each2_nil w6 _ _ _).mono ?_;rintro e w7 ⟨v3,rfl,⟨g3,rfl⟩,hn7⟩
 refine hK _ _ (.inr hn7) ?_
 clear hK K
 refine EH.hyb_pure rfl (fun K hK=>?_);go_simp;refine hK _ ?_;clear hK K
 refine EH.hyb_alone rfl (fun w8 hn8 K hK=>?_)
 have HN8:Hid (Nx w1 w8):=(((((hn2.trans hn3).trans hn4).trans hn5).trans hn6).trans hn7).trans hn8
 have hb8:=HR.out.below HN8.out
 have r0:w8.cell? ⟨gr,0,none⟩=some (.slice none 0 0):=hb8.cell 0
 have r1:w8.cell? ⟨gr,1,none⟩=some (.slice none 0 0):=hb8.cell 1
 have r2:w8.cell? ⟨gr,2,none⟩=some (.slice none 0 0):=hb8.cell 2
 have f0:=hb8.free 0
 have f1:=hb8.free 1
 have f2:=hb8.free 2
 go_simp
 refine hK _ _ (.inl (by simp)) ?_
 have hb9:=((hb8.put 0 (.slice (some ⟨g1,0,none⟩) 0 0)).put 1 (.slice (some ⟨g2,0,none⟩) 0 0)).put 2 (.slice (some ⟨g3,0,none⟩) 0 0)
 have hn9:Nx w _:=Nx.put' (Nx.put' (Nx.put' (HN.out.trans HN8.out) (by rw [HGB.out];exact HR.out.1) 0 (.slice (some ⟨g1,0,none⟩) 0 0)) (by rw [HGB.out];exact HR.out.1) 1 (.slice (some ⟨g2,0,none⟩) 0 0)) (by rw [HGB.out];exact HR.out.1) 2 (.slice (some ⟨g3,0,none⟩) 0 0)
 have HB9:=Lib.hid hb9
 have HN9:=Lib.hid hn9
 clear hK K r0 r1 r2 f0 f1 f2 hb9 hn9
 generalize World.setCell _ _ _=w9 at *
 refine EH.hyb_nil (fun w10 hn10=>?_)
 have HB10:=Lib.hid (HB9.out.below hn10)
 have HN10:=Lib.hid (HN9.out.trans hn10)
 go_wp2_with fail
 refine bodyPost_ret (results_cell_row rfl _ _ gr _ _ _ _ rfl HB10.out.2 Tryz.underlying33 rfl (by kernel_rfl)) rfl ?_
 exact ⟨_,_,_,rfl,⟨_,rfl⟩,⟨_,rfl⟩,⟨_,rfl⟩,HN10.out⟩
end Go.Proofs.YtpbjkgpdkopgmaaGreatDoor
namespace Go.Proofs.YtpbjkgpdkopgmaaGreatDoor
open Go.RowKit
set_option maxRecDepth 100000 in
set_option maxHeartbeats 1600000 in
theorem sindex_any (w:World) (A:Option Addr) (n c:Nat) (xs:List (List UInt8)) (hn:xs.length=n) (hrd:RdS strA 1 w A xs) (hn9:n≤100000) (s:ByteArray) (l:List UInt8) (hl:Tx s l) (i:Nat) (hi:i<xs.length) (hat:xs[i]=l) (hne:∀ j (h:j<i),xs[j]≠l) :
  Calls Tryz.prog 38 #[.slice A n c,.string s] w fun e w'=>e = .returned (.int .i64 (i:Int))∧Nx w w':=by
 obtain rfl:=hl.eq
 obtain ⟨g,rfl,hg,hc⟩:=hrd (by omega)
 have HC:=Lib.hid hc
 have HAT:=Lib.hid hat
 have HNE:=Lib.hid hne
 have hin:i<n:=by omega
 have hi9:(i:Int)≤100000:=by omega
 clear hc hat hne hl hrd
 go_enter Tryz.func38,Tryz.ntmps38
 go_wp2_with fail
 go_loopw [8] (fun v wr=>∃ j:Nat,v = .int .i64 j∧j≤i∧wr=w) (fun v _=>(i - intOf v).toNat)
 case atStart=>exact ⟨0,rfl,Nat.zero_le _,rfl⟩
 case round =>
  obtain ⟨j,rfl,hj,rfl⟩:=hrel
  have hjn:j<n:=by omega
  have hjx:j<xs.length:=by omega
  obtain ⟨y,hy⟩:∃ y,xs[j]=y:=⟨_,rfl⟩
  have e0:wr.cell? ⟨g,j,none⟩=some (.string ⟨y.toArray⟩):=by
   have:=HC.out j hjx 0 (by decide)
   rw [hy,show j * 1+0=j by omega] at this
   exact this
  have hj9:(j:Int)≤100000:=by omega
  by_cases hji:j=i
  ·subst hji
   have hyl:l=y:=by rw [← hy];exact HAT.out.symm
   have heq:(l == y)=true:=by rw [hyl];simp
   clear hy
   go_wp2_with fail
   go_ret
   exact ⟨rfl,Nx.refl _⟩
  ·have hyl:¬ l=y:=fun e=>HNE.out j (by omega) (by rw [hy,e])
   have heq:(l == y)=false:=by rw [beq_eq_false_iff_ne];exact hyl
   have hlt:j<i:=by omega
   clear hy
   go_wp2_with fail
   go_roundw
   case rel=>exact ⟨j+1,by go_num,hlt,trivial⟩
   case measure=>simp [intOf];omega
theorem results_cell_tmp_rowB {P:Program} {fn:Func} {p u1:Tmp} {ty:TypeId} (h:fn.results=#[.cell p ty,.tmp u1]) (tmps:Array Value) (w:World) (g:Nat) (t:TypeId) (cs:Array Value) (fr:Nat×Nat) (d:TypeDesc)
  (hp:tmps.getD p undef = .pointer (some ⟨g,0,none⟩)) (hg:w.heap[g]? = some (.cells cs t fr))
  (hu:P.underlying ty=some d) (hd:(match d with | .struct _ | .array _ _=>true | _=>false)=true) (hi:(P.info? ty).map (·.size)=some cs.size) :
  (results fn tmps).run P w = .ok (.tuple #[.agg cs,tmps.getD u1 undef]) w:=by
 have hp':tmps[p]?.getD undef = .pointer (some ⟨g,0,none⟩):=by simpa using hp
 simp [results,h,hp',asAddr,run_loadVar_row w g t ty cs fr d hg hu hd hi]
set_option maxRecDepth 100000 in
set_option maxHeartbeats 3200000 in
theorem get_nil (w:World) (nA fA:Option Addr) (nc fc:Nat) (names:List (List UInt8)) (files:List Fil) (hnm:RepL strA 1 9 (REq (α:=List UInt8)) w (Fm 0) (.slice nA names.length nc) names)
  (hfl:RepL filA 3 33 RFile w (Fm 0) (.slice fA files.length fc) files) (hn9:names.length≤100000) (s:ByteArray) (l:List UInt8) (hl:Tx s l) (i:Nat) (hi:i<names.length) (hat:names[i]=l) (hne:∀ j (h:j<i),names[j]≠l)
  (hif:i<files.length) (hfi:files[i]=⟨[],[],[]⟩) :
  Calls Tryz.prog 18 #[.agg #[.slice nA names.length nc,.slice fA files.length fc],.string s] w fun e w'=>∃ v1 v2 v3,e = .returned (.tuple #[.agg #[v1,v2,v3],.bool true])∧NewS v1∧NewS v2∧NewS v3∧Nx w w':=by
 obtain ⟨A',c',xs,hA,hxl,-,-,hrd,hall⟩:=hnm.sl strA_size
 simp only [Value.slice.injEq] at hA
 obtain ⟨rfl,-,rfl⟩:=hA
 obtain rfl:xs=names:=List.ext_getElem hall.len (fun i h1 h2=>hall.at_ i h1 h2)
 obtain ⟨A',c',ys,hA,hyl,-,-,hrf,hallf⟩:=hfl.sl (show ∀ x,(filA x).size=3 from fun _=>rfl)
 simp only [Value.slice.injEq] at hA
 obtain ⟨rfl,-,rfl⟩:=hA
 have hiy:i<ys.length:=by omega
 have hfile:=hallf.at_ i hiy hif
 rw [hfi] at hfile
 obtain ⟨⟨x1,x2,x3⟩,hx⟩:∃ x,ys[i]=x:=⟨_,rfl⟩
 rw [hx] at hfile
 obtain ⟨B1,d1,-,h1,-,-,-,-,-⟩:=hfile.1.sl strA_size
 obtain ⟨B2,d2,-,h2,-,-,-,-,-⟩:=hfile.2.1.sl spcA_size
 obtain ⟨B3,d3,-,h3,-,-,-,-,-⟩:=hfile.2.2.sl dfnA_size
 have h1':x1 = .slice B1 0 d1:=h1
 have h2':x2 = .slice B2 0 d2:=h2
 have h3':x3 = .slice B3 0 d3:=h3
 subst h1' h2' h3'
 obtain ⟨gf,rfl,hgf,hcf⟩:=hrf (by omega)
 have hcell:∀ j,j<3→w.cell? ⟨gf,i * 3+j,none⟩=(filA ⟨.slice B1 0 d1,.slice B2 0 d2,.slice B3 0 d3⟩)[j]?:=fun j hj=>by rw [hcf i hiy j hj,hx]
 have HCE:=Lib.hid hcell
 have HGF:=Lib.hid hgf
 have HIX:=Lib.hid (fun w' (hn:Nx w w')=>sindex_any w' nA xs.length nc xs rfl (hrd.nx hn) hn9 s l hl i hi hat hne)
 have hi9:(i:Int)≤100000:=by omega
 have tneg:decide ((i:Int)<0)=false:=by rw [decide_eq_false_iff_not];omega
 have tge:decide ((files.length:Int)≤(i:Int))=false:=by rw [decide_eq_false_iff_not];omega
 have tlt:(i:Int)<(files.length:Int):=by omega
 have hifn:i<files.length:=hif
 clear hnm hfl hrd hall hrf hallf hfile hx hcf hcell hl hat hne hi hiy hxl hyl hfi h1 h2 h3 hgf hn9
 obtain ⟨gb,hgb⟩:∃ g,w.heap.size=g:=⟨_,rfl⟩
 obtain ⟨gr,hgr⟩:∃ g,gb+1=g:=⟨_,rfl⟩
 go_enter Tryz.func18,Tryz.ntmps18
 go_upto_region 1 with (fail)
 obtain ⟨w1,hw1⟩:∃ w1,(w.alloc (.cells #[.slice nA xs.length nc,.slice (some ⟨gf,0,none⟩) files.length fc] 45)).alloc (.cells #[.slice none 0 0,.slice none 0 0,.slice none 0 0] 33)=w1:=⟨_,rfl⟩
 have HB:Hid (Blk w1 gb gb #[.slice nA xs.length nc,.slice (some ⟨gf,0,none⟩) files.length fc] 45):=by
  unfold Hid;rw [← hw1,← hgb];exact (Blk.new w _ _).alloc _
 have HR:Hid (Blk w1 gb gr #[.slice none 0 0,.slice none 0 0,.slice none 0 0] 33):=by
  unfold Hid;rw [← hw1,← hgr,← hgb,show w.heap.size+1=(w.alloc (.cells #[.slice nA xs.length nc,.slice (some ⟨gf,0,none⟩) files.length fc] 45)).heap.size from by simp]
  exact (Blk.new (w.alloc (.cells #[.slice nA xs.length nc,.slice (some ⟨gf,0,none⟩) files.length fc] 45)) _ _).less (by simp)
 have HN:Hid (Nx w w1):=by unfold Hid;rw [← hw1];exact Nx.al (nx0 w _) _
 rw [hw1]
 have HGB:=Lib.hid hgb
 clear hw1 hgb hgr
 have b0:w1.cell? ⟨gb,0,none⟩=some (.slice nA xs.length nc):=HB.out.cell 0
 go_wp2_with fail
 refine (HIX.out w1 HN.out).mono ?_;rintro e w2 ⟨rfl,hn2⟩
 have HN2:=Lib.hid hn2
 have HB2:=Lib.hid (HB.out.below hn2)
 have HR2:=Lib.hid (HR.out.below hn2)
 clear hn2 b0
 have b1:w2.cell? ⟨gb,1,none⟩=some (.slice (some ⟨gf,0,none⟩) files.length fc):=HB2.out.cell 1
 have hcc:∀ j,j<3→w2.cell? ⟨gf,i * 3+j,none⟩=(filA ⟨.slice B1 0 d1,.slice B2 0 d2,.slice B3 0 d3⟩)[j]?:=fun j hj=>by
  rw [← HCE.out j hj]
  exact (HN.out.trans HN2.out).cell (p:=⟨gf,i * 3+j,none⟩) HGF.out
 have e0:w2.cell? ⟨gf,i * 3,none⟩=some (.slice B1 0 d1):=hcc 0 (by decide)
 have e1:w2.cell? ⟨gf,i * 3+1,none⟩=some (.slice B2 0 d2):=hcc 1 (by decide)
 have e2:w2.cell? ⟨gf,i * 3+2,none⟩=some (.slice B3 0 d3):=hcc 2 (by decide)
 clear hcc
 go_wp2_with fail
 refine (copyFile_nil w2 _ _ _ _ _ _).mono ?_;rintro e w3 ⟨v1,v2,v3,rfl,⟨g1,rfl⟩,⟨g2,rfl⟩,⟨g3,rfl⟩,hn3⟩
 have HN3:=Lib.hid (HN2.out.trans hn3)
 have HR3:=Lib.hid (HR2.out.below hn3)
 clear b1 e0 e1 e2 hn3
 have r0:w3.cell? ⟨gr,0,none⟩=some (.slice none 0 0):=HR3.out.cell 0
 have r1:w3.cell? ⟨gr,1,none⟩=some (.slice none 0 0):=HR3.out.cell 1
 have r2:w3.cell? ⟨gr,2,none⟩=some (.slice none 0 0):=HR3.out.cell 2
 have f0:=HR3.out.free 0
 have f1:=HR3.out.free 1
 have f2:=HR3.out.free 2
 go_wp2_with fail
 refine bodyPost_ret (results_cell_tmp_rowB rfl _ _ gr _ _ _ _ rfl (((HR3.out.put 0 (.slice (some ⟨g1,0,none⟩) 0 0)).put 1 (.slice (some ⟨g2,0,none⟩) 0 0)).put 2 (.slice (some ⟨g3,0,none⟩) 0 0)).2 Tryz.underlying33 rfl (by kernel_rfl)) rfl ?_
 have hgg:w.heap.size≤gr:=by rw [HGB.out];exact HR.out.1
 exact ⟨_,_,_,rfl,⟨_,rfl⟩,⟨_,rfl⟩,⟨_,rfl⟩,Nx.put' (Nx.put' (Nx.put' (HN.out.trans HN3.out) hgg 0 _) hgg 1 _) hgg 2 _⟩
end Go.Proofs.YtpbjkgpdkopgmaaGreatDoor
namespace Go.Proofs.YtpbjkgpdkopgmaaGreatDoor
open Go.RowKit
theorem outV_ok {root:List UInt8} {l:List (List UInt8×List UInt8)} {names:List (List UInt8)} {files:List Fil} (h:resV root l=(0,[],0)) (k:(endV root l).names=names∧(endV root l).files=files):outV root l=⟨names,files,0,[],0⟩:=by
 unfold resV at h
 simp only [Prod.mk.injEq] at h
 unfold outV
 rw [if_pos h.1,k.1,k.2]
theorem outV_err {root:List UInt8} {l:List (List UInt8×List UInt8)} {e:Nat} {f:List UInt8} {a:Nat} (h:resV root l=(e,f,a)) (he:e≠0):outV root l=⟨[],[],e,f,a⟩:=by
 unfold resV at h
 simp only [Prod.mk.injEq] at h
 obtain ⟨h1,h2,h3⟩:=h
 unfold outV
 rw [if_neg (by rw [h1];exact he),h1,h2,h3]
theorem lgen (w:World) (sr:ByteArray) (root:List UInt8) (hr:Tx sr root) (hrl:root.length≤8000) (A:Option Addr) (n c:Nat) (xs:List (List UInt8×List UInt8)) (hn:xs.length=n) (hrd:RdQ w A xs) (hok:SrcOk xs) (hn6:n≤6)
  (ht:TabK w) (hm:MaxC w) (o:OutV) (ho:outV root xs=o) :
  Calls Tryz.prog 15 #[.agg #[.string sr,.slice A n c]] w fun e w'=>∃ nA nc fA fc,e = .returned (.tuple #[.agg #[.slice nA o.names.length nc,.slice fA o.files.length fc],.int .i64 (o.e:Int),.string ⟨o.file.toArray⟩,.int .i64 (o.at_:Int)]) ∧
   RepL strA 1 9 (REq (α:=List UInt8)) w' (Fm w.heap.size) (.slice nA o.names.length nc) o.names∧RepL filA 3 33 RFile w' (Fm w.heap.size) (.slice fA o.files.length fc) o.files∧Nx w w':=by
 have hk:1 < w.heap.size:=by
  obtain ⟨t,fr,h⟩:=ht
  exact (Array.getElem?_eq_some_iff.1 h).1
 refine (lload_any w sr root hr hrl A n c xs hn hrd hok hn6 ht hm hk).mono ?_
 rintro e w' ⟨vn,vf,rfl,h1,h2,h3⟩
 rw [ho] at h1 h2 ⊢
 obtain ⟨nA,nc,-,rfl,-,-,-,-,-⟩:=h1.sl strA_size
 obtain ⟨fA,fc,-,rfl,-,-,-,-,-⟩:=h2.sl (show ∀ x,(filA x).size=3 from fun _=>rfl)
 exact ⟨nA,nc,fA,fc,rfl,h1,h2,h3⟩
set_option maxRecDepth 100000 in
set_option maxHeartbeats 3200000 in
theorem bubegun_any (w:World) (ht:TabK w) (hm:MaxC w) :
  Calls Tryz.prog 14 #[] w fun e w'=>e = .returned (.bool true)∧Nx w w':=by
 have HT:=Lib.hid ht
 have HM:=Lib.hid hm
 obtain ⟨gA,hgA⟩:∃ g,w.heap.size=g:=⟨_,rfl⟩
 clear ht hm
 go_enter Tryz.func14,Tryz.ntmps14
 go_wp2_with fail
 have HN1:Hid (Nx w (w.alloc (.cells #[.string ⟨#[97]⟩,.string ⟨#[105,110,99,108,117,100,101,32,39,98,39]⟩,.string ⟨#[98]⟩,.string ⟨#[]⟩] 43))):=nx0 _ _
 have hB1:=Blk.new w #[.string ⟨#[97]⟩,.string ⟨#[105,110,99,108,117,100,101,32,39,98,39]⟩,.string ⟨#[98]⟩,.string ⟨#[]⟩] 43
 rw [hgA] at hB1
 have HB1:=Lib.hid hB1
 generalize World.alloc w _=w1 at *
 clear hB1
 have hrd:RdQ w1 (some ⟨gA,0,none⟩) [([97],[105,110,99,108,117,100,101,32,39,98,39]),([98],[])]:=fun _=>⟨gA,0,rfl,HB1.out.lt,fun i hi=>by
  simp at hi
  rcases (show i=0∨i=1 by omega) with rfl | rfl
  ·exact ⟨HB1.out.cell 0,HB1.out.cell 1⟩
  ·exact ⟨HB1.out.cell 2,HB1.out.cell 3⟩⟩
 have hok:SrcOk [([97],[105,110,99,108,117,100,101,32,39,98,39]),([98],[])]:=by
  intro x hx
  simp only [List.mem_cons,List.not_mem_nil,or_false] at hx
  rcases hx with rfl | rfl <;> exact ⟨by decide,by decide⟩
 refine (lgen w1 _ [97] (Tx.of _) (by decide) _ 2 2 _ rfl hrd hok (by decide) (HT.out.nx HN1.out) (HM.out.nx HN1.out) _ (outV_ok bf_a bf_n)).mono ?_
 rintro e w2 ⟨nA,nc,fA,fc,rfl,hnm,hfl,hn2⟩
 clear hrd hok hgA
 obtain ⟨g1,hg1⟩:∃ g,w2.heap.size=g:=⟨_,rfl⟩
 have hB2:=Blk.new w2 #[.slice nA 2 nc,.slice fA 2 fc] 45
 rw [hg1] at hB2
 have hn3:Nx w2 (w2.alloc (.cells #[.slice nA 2 nc,.slice fA 2 fc] 45)):=nx0 _ _
 have HNM:=Lib.hid (hnm.mv REq.lasts (Mv.nx hn3 (Nat.zero_le _)))
 have HFL:=Lib.hid (hfl.mv RFile.lasts (Mv.nx hn3 (Nat.zero_le _)))
 have HB2:=Lib.hid hB2
 have HN3:=Lib.hid (HN1.out.trans (hn2.trans hn3))
 clear hB2 hn3 hnm hfl hn2
 go_upto_region 2 with (fail)
 generalize World.alloc w2 _=w3 at *
 clear hg1
 go_wp2_with fail
 refine (lgen w3 _ [120] (Tx.of _) (by decide) none 0 0 [] rfl (fun h=>by simp at h) (fun x hx=>by cases hx) (by decide) (HT.out.nx HN3.out) (HM.out.nx HN3.out) _ (outV_err bf_x (by decide))).mono ?_
 rintro e w4 ⟨nA',nc',fA',fc',rfl,-,-,hn4⟩
 have hn5:Nx w3 (w4.alloc (.cells #[.slice nA' 0 nc',.slice fA' 0 fc'] 45)):=hn4.trans (nx0 _ _)
 have HN5:=Lib.hid hn5
 clear hn4 hn5
 go_upto_region 3 with (fail)
 generalize World.alloc w4 _=w5 at *
 have HB5:=Lib.hid (HB2.out.below HN5.out)
 have HNM5:=Lib.hid (HNM.out.mv REq.lasts (Mv.nx HN5.out (Nat.le_refl _)))
 have HFL5:=Lib.hid (HFL.out.mv RFile.lasts (Mv.nx HN5.out (Nat.le_refl _)))
 have b0:w5.cell? ⟨g1,0,none⟩=some (.slice nA 2 nc):=HB5.out.cell 0
 have b1:w5.cell? ⟨g1,1,none⟩=some (.slice fA 2 fc):=HB5.out.cell 1
 go_wp2_with fail
 refine (get_nil w5 nA fA nc fc [[98],[97]] [⟨[],[],[]⟩,⟨[[98]],[],[]⟩] HNM5.out HFL5.out (by decide) _ [98] (Tx.of _) 0 (by decide) rfl (fun j h=>by omega) (by decide) rfl).mono ?_
 rintro e w6 ⟨v1,v2,v3,rfl,⟨h1,rfl⟩,⟨h2,rfl⟩,⟨h3,rfl⟩,hn6⟩
 have hn7:Nx w5 (w6.alloc (.cells #[.slice (some ⟨h1,0,none⟩) 0 0,.slice (some ⟨h2,0,none⟩) 0 0,.slice (some ⟨h3,0,none⟩) 0 0] 33)):=hn6.trans (nx0 _ _)
 have HN7:=Lib.hid hn7
 clear hn6 hn7 b0 b1
 go_upto_region 4 with (fail)
 generalize World.alloc w6 _=w7 at *
 have HB7:=Lib.hid (HB5.out.below HN7.out)
 have b0:w7.cell? ⟨g1,0,none⟩=some (.slice nA 2 nc):=HB7.out.cell 0
 have b1:w7.cell? ⟨g1,1,none⟩=some (.slice fA 2 fc):=HB7.out.cell 1
 obtain ⟨A',c',xs,hA,hxl,-,-,hrd,hall⟩:=(HNM5.out.mv REq.lasts (Mv.nx HN7.out (Nat.le_refl _))).sl strA_size
 simp only [Value.slice.injEq] at hA
 obtain ⟨rfl,-,rfl⟩:=hA
 obtain ⟨gn,rfl,-,hcn⟩:=hrd (by rw [hxl];decide)
 have hx0:xs[0]'(by rw [hxl];decide)=[98]:=hall.at_ 0 (by rw [hxl];decide) (by decide)
 have n0:w7.cell? ⟨gn,0,none⟩=some (.string ⟨#[98]⟩):=by
  have:=hcn 0 (by rw [hxl];decide) 0 (by decide)
  rw [hx0] at this
  exact this
 clear hrd hall hcn hx0 hxl
 go_wp2_with fail
 go_ret
 exact ⟨rfl,HN3.out.trans (HN5.out.trans HN7.out)⟩
end Go.Proofs.YtpbjkgpdkopgmaaGreatDoor
namespace Go.Proofs.YtpbjkgpdkopgmaaGreatDoor
open Go.RowKit
def srcC (x:List UInt8×List UInt8):Array Value:=#[bt x.1,bt x.2]
theorem srcC_size (x:List UInt8×List UInt8):(srcC x).size=2:=rfl
theorem infoQ:(Tryz.prog.info? 43).map (fun i=>(i.zero,i.size,i.bytes))=some (some (.agg #[.string ⟨#[]⟩,.string ⟨#[]⟩]),2,32):=by kernel_rfl
def LQ:=RepL srcC 2 43 (REq (α:=List UInt8×List UInt8))
theorem LQ.rdq {w:World} {P:Nat→Prop} {v:Value} {xs:List (List UInt8×List UInt8)} (h:LQ w P v xs):∃ A c,v = .slice A xs.length c∧RdQ w A xs:=by
 obtain ⟨A,c,ys,rfl,hyl,-,-,hrd,hall⟩:=RepL.sl srcC_size h
 obtain rfl:ys=xs:=List.ext_getElem hall.len (fun i h1 h2=>hall.at_ i h1 h2)
 refine ⟨A,c,rfl,fun h0=>?_⟩
 obtain ⟨g,rfl,hg,hc⟩:=hrd h0
 refine ⟨g,0,rfl,hg,fun i hi=>⟨?_,?_⟩⟩
 ·have:=hc i hi 0 (by decide)
  rw [show i * 2+0=0+i * 2 by omega] at this
  exact this
 ·have:=hc i hi 1 (by decide)
  rw [show i * 2+1=0+i * 2+1 by omega] at this
  exact this
set_option maxRecDepth 100000 in
set_option maxHeartbeats 3200000 in
theorem sources_any (w:World) (A:Option Addr) (N c k:Nat) (xs:List (List UInt8×List UInt8)) (hk:xs.length=k) (hN:N=2 * k) (hrd:RdQ w A xs) (hk9:(N:Int)≤1000) :
  Calls Tryz.prog 21 #[.slice A N c] w fun e w'=>∃ v,e = .returned v∧LQ w' (Fm w.heap.size) v xs∧Nx w w':=by
 have HRD:=Lib.hid hrd
 have HK:=Lib.hid hk
 have HNN:=Lib.hid hN
 clear hrd hk hN
 go_enter Tryz.func21,Tryz.ntmps21
 go_wp2_with fail
 go_loopw [3,4] (fun v u wr=>∃ (j m:Nat),u = .int .i64 m∧Hid (m=2 * j)∧j≤k∧LQ wr (Fm w.heap.size) v (xs.take j)∧Nx w wr) (fun _ u _=>(N - intOf u).toNat)
 case atStart=>exact ⟨0,0,rfl,rfl,Nat.zero_le _,RepL.nil_,Nx.refl _⟩
 case round =>
  obtain ⟨j,m,rfl,hm,hj,hl,hn⟩:=hrel
  have HL:=Lib.hid hl
  have HN:=Lib.hid hn
  clear hl hn
  by_cases hlt:j<k
  ·have hxj:j<xs.length:=by rw [HK.out];exact hlt
   obtain ⟨g,o,rfl,hg,hc⟩:=HRD.out (by omega)
   obtain ⟨⟨sn,st⟩,hz⟩:∃ z,xs[j]=z:=⟨_,rfl⟩
   have hcj:=hc j hxj
   rw [hz,show j * 2=m from by rw [hm.out];omega] at hcj
   have t0:decide ((m:Int)+1<(N:Int))=true:=by rw [decide_eq_true_eq];have:=hm.out;have:=HNN.out;omega
   have t1:(m:Int)<(N:Int):=by have:=hm.out;have:=HNN.out;omega
   have t2:(m:Int)+1<(N:Int):=by have:=hm.out;have:=HNN.out;omega
   have t3:m+1<N:=by omega
   have t4:m<N:=by omega
   obtain ⟨ys,hys⟩:∃ ys,Hid (xs.take j=ys):=⟨_,rfl⟩
   have HYL:Hid (ys.length=j):=by unfold Hid;rw [← hys.out,List.length_take];omega
   rw [hys.out] at HL
   obtain ⟨vA,vc,-,rfl,-,-,-,-,-⟩:=RepL.sl srcC_size HL.out
   have hw1:IntKind.i64.wrap ((m:Int)+1)=(m:Int)+1:=by have:=wrapNat (m+1) (by omega);simpa using this
   have hw2:((m:Int)+1).toNat=m+1:=by omega
   have hw3:(0:Int)≤(m:Int)+1:=by omega
   have L1:∀ x:Gr wr,x.1.cell? ⟨g,o+m,none⟩=some (.string ⟨sn.toArray⟩):=fun x=>((HN.out.trans x.2).cell (p:=⟨g,o+m,none⟩) hg).trans hcj.1
   have L2:∀ x:Gr wr,x.1.cell? ⟨g,o+(m+1),none⟩=some (.string ⟨st.toArray⟩):=fun x=>((HN.out.trans x.2).cell (p:=⟨g,o+m+1,none⟩) hg).trans hcj.2
   have HFO:Hid (xs.take (j+1)=ys++[(sn,st)]):=by unfold Hid;rw [List.take_succ_eq_append_getElem hxj,hz,hys.out]
   have HJ9:Hid ((ys.length:Int)≤100000):=by unfold Hid;rw [HYL.out];have:=HNN.out;omega
   clear hcj hc hz hg hxj
   go_upto_region 5 with (fail)
   refine EH.wp_region_hyb [12] [(0,1),(1,1),(2,1),(3,1),(4,1),(5,1),(6,1),(7,1),(8,1),(9,1),(10,1),(11,0),(12,0),(13,2)] rfl (by kernel_rfl) ?_
   iterate 11 (refine EH.hyb_calm rfl (fun K hK=>?_);go_simp;refine hK _ ?_;clear hK K)
   clear L1 L2
   refine EH.hyb_alone rfl (fun w2 hn2 K hK=>?_)
   go_simp
   refine hK _ _ (.inr (nx0 _ _)) ?_
   clear hK K
   obtain ⟨g9,hg9⟩:∃ g,w2.heap.size=g:=⟨_,rfl⟩
   have hb9:=Blk.new w2 #[.string ⟨sn.toArray⟩,.string ⟨st.toArray⟩] 43
   rw [hg9] at hb9 ⊢
   have hn3:Nx wr (w2.alloc (.cells #[.string ⟨sn.toArray⟩,.string ⟨st.toArray⟩] 43)):=hn2.trans (nx0 _ _)
   generalize World.alloc w2 _=w3 at *
   refine EH.hyb_alone rfl (fun w4 hn4 K hK=>?_)
   refine EH.ite_intro rfl ?_
   have hn34:=hn3.trans hn4
   have HN34:=Lib.hid (HN.out.trans hn34)
   refine op_appP w4 REq.lasts infoQ Tryz.underlying39 rfl (by decide) (by decide) srcC_size _ _ rfl (Fm w.heap.size) _ _ (sn,st) (sn,st) rfl (HL.out.mv REq.lasts (Mv.nx hn34 (Nat.le_refl _))) (fun u hu=>by simp [srcC] at hu;rcases hu with rfl | rfl <;> rfl) g9 rfl (fun j hj=>(hb9.below hn4).cell j) rfl HJ9.out (fun j hj=>Nat.le_trans HN34.out.size hj) ?_
   intro v5 w5 hr5 hg5
   refine hK _ _ (.inl (by simp)) ?_
   clear hK K
   refine EH.hyb_pure rfl (fun K hK=>?_);go_simp;refine hK _ ?_;clear hK K
   refine EH.hyb_nil (fun w6 hn6=>?_)
   have HL6:Hid (LQ w6 (Fm w.heap.size) v5 (xs.take (j+1))):=by
    unfold Hid;rw [HFO.out];exact hr5.mv REq.lasts (Mv.nx hn6 (Nat.le_refl _))
   have HN6:Hid (Nx w w6):=by
    refine Nx.trans ⟨hg5.os.trans HN34.out.os,hg5.tape.trans HN34.out.tape,hg5.output.trans HN34.out.output,Nat.le_trans HN34.out.size hg5.size,fun k hk=>?_⟩ hn6
    refine (hg5.block k (Nat.lt_of_lt_of_le hk HN34.out.size) (fun e=>?_)).trans (HN34.out.block k hk)
    have h1:=(RepL.own_lt HL.out k e).1
    have h2:w.heap.size≤k:=h1
    omega
   clear hr5 hg5 hb9 hn3 hn4 hn34 hn2 hg9 hn6
   go_wp2_with fail
   go_roundw
   case rel=>exact ⟨j+1,m+2,by go_num,by have:=hm.out;unfold Hid;omega,hlt,HL6.out,HN6.out⟩
   case measure=>simp [intOf];omega
  ·obtain rfl:j=k:=by omega
   rw [List.take_of_length_le (by rw [HK.out];exact Nat.le_refl _)] at HL
   have t0:decide ((m:Int)+1<(N:Int))=false:=by rw [decide_eq_false_iff_not];have:=hm.out;have:=HNN.out;omega
   have t5:(m:Int)≤1000:=by have:=hm.out;have:=HNN.out;omega
   go_wp2_with fail
   go_ret
   exact ⟨_,rfl,HL.out,HN.out⟩
end Go.Proofs.YtpbjkgpdkopgmaaGreatDoor
