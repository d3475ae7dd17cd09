/- The contracts of scope's scopeOf, answer. The contract of scope.Find. -/
import Derived.Test.YtpfecpcgdfbekaaGreatDoorG32
import Derived.Test.YtpfecpcgdfbekaaGreatDoorG27
set_option linter.unusedVariables false
set_option linter.unusedSimpArgs false
set_option linter.unnecessarySimpa false
namespace Go.Proofs.YtpfecpcgdfbekaaGreatDoor
open Go.RowKit
theorem results_t_c_t {P:Program} {fn:Func} {p a b:Tmp} {ty:TypeId} (h:fn.results=#[.tmp a,.cell p ty,.tmp b]) (tmps:Array Value) (w:World) (g:Nat) (t:TypeId) (cs:Array Value) (fr:Nat×Nat) (d:TypeDesc)
  (hp:tmps.getD p undef = .pointer (some ⟨g,0,none⟩)) (hg:w.heap[g]? = some (.cells cs t fr))
  (hu:P.underlying ty=some d) (hd:(match d with | .struct _ | .array _ _=>true | _=>false)=true) (hi:(P.info? ty).map (·.size)=some cs.size) :
  (results fn tmps).run P w = .ok (.tuple #[tmps.getD a undef,.agg cs,tmps.getD b undef]) w:=by
 have hp':tmps[p]?.getD undef = .pointer (some ⟨g,0,none⟩):=by simpa using hp
 simp [results,h,hp',asAddr,run_loadVar_row w g t ty cs fr d hg hu hd hi]
section
variable {w:World} {nA fA:Option Addr} {n nc fc gm:Nat} {names:List (List UInt8)} {files:List Fil}
set_option maxRecDepth 100000 in
set_option maxHeartbeats 3200000 in
theorem scopeOf_any (h:Ldn w nA fA n nc fc names files) (own:List UInt8) :
  Calls Tryz.prog 25 #[.agg #[.slice nA n nc,.slice fA n fc],.string ⟨own.toArray⟩] w fun e w'=>∃ gm,e = .returned (.agg #[.slice nA n nc,.slice fA n fc,.string ⟨own.toArray⟩,.map (some gm)])∧Scp w' nA fA n nc fc gm names files∧Nx w w':=by
 obtain ⟨h1,h2,h3,h4⟩:=h.caps
 have HL:=Lib.hid h
 have HC:Hid (n≤nc∧n≤fc∧nc≤maxLen∧fc≤maxLen):=⟨h1,h2,h3,h4⟩
 obtain ⟨gx,hgx⟩:∃ g,w.heap.size=g:=⟨_,rfl⟩
 obtain ⟨gr,hgr⟩:∃ g,gx+1=g:=⟨_,rfl⟩
 obtain ⟨w1,hw⟩:∃ w1,(w.alloc (.cells #[.slice nA n nc,.slice fA n fc] 39)).alloc (.cells #[.slice none 0 0,.slice none 0 0,.string ⟨#[]⟩,.map none] 88)=w1:=⟨_,rfl⟩
 have HBX:Hid (Blk w1 gx gx #[.slice nA n nc,.slice fA n fc] 39):=by
  unfold Hid;rw [← hw,← hgx];exact (Blk.new w _ _).alloc _
 have HBR:Hid (Blk w1 gx gr #[.slice none 0 0,.slice none 0 0,.string ⟨#[]⟩,.map none] 88):=by
  unfold Hid;rw [← hw,← hgr,← hgx,show w.heap.size+1=(w.alloc (.cells #[.slice nA n nc,.slice fA n fc] 39)).heap.size from by simp]
  exact (Blk.new (w.alloc (.cells #[.slice nA n nc,.slice fA n fc] 39)) _ _).less (by simp)
 have HN1:Hid (Nx w w1):=by unfold Hid;rw [← hw];exact Nx.al (nx0 w _) _
 have hgw:Hid (w.heap.size≤gr∧w.heap.size≤gx):=by unfold Hid;omega
 have hne:gx≠gr:=by omega
 clear h h1 h2 h3 h4
 go_enter Tryz.func25,Tryz.ntmps25
 go_upto_region 1 with (fail)
 try rw [hw]
 clear hw hgx hgr
 have x0:w1.cell? ⟨gx,0,none⟩=some (.slice nA n nc):=HBX.out.cell 0
 have x1:w1.cell? ⟨gx,1,none⟩=some (.slice fA n fc):=HBX.out.cell 1
 go_wp2_with fail
 refine (even_any w1 nA fA n nc fc HC.out.1 HC.out.2.1 HC.out.2.2.1 HC.out.2.2.2).mono ?_;rintro e w2 ⟨rfl,hn2⟩
 have hb2:=HBX.out.below hn2
 clear x0 x1
 have x0:w2.cell? ⟨gx,0,none⟩=some (.slice nA n nc):=hb2.cell 0
 have x1:w2.cell? ⟨gx,1,none⟩=some (.slice fA n fc):=hb2.cell 1
 have f0:=hb2.free 0
 have f1:=hb2.free 1
 have HB3:Hid (Blk ((w2.setCell ⟨gx,0,none⟩ (.slice nA n nc)).setCell ⟨gx,1,none⟩ (.slice fA n fc)) gx gx #[.slice nA n nc,.slice fA n fc] 39):=(hb2.put 0 _).put 1 _
 have HR3:Hid (Blk ((w2.setCell ⟨gx,0,none⟩ (.slice nA n nc)).setCell ⟨gx,1,none⟩ (.slice fA n fc)) gx gr #[.slice none 0 0,.slice none 0 0,.string ⟨#[]⟩,.map none] 88):=((HBR.out.below hn2).other hne 0 _).other hne 1 _
 have HN3:Hid (Nx w ((w2.setCell ⟨gx,0,none⟩ (.slice nA n nc)).setCell ⟨gx,1,none⟩ (.slice fA n fc))):=((HN1.out.trans hn2).put' hgw.out.2 0 _).put' hgw.out.2 1 _
 clear hn2 hb2
 go_upto_region 2 with (fail)
 generalize World.setCell (World.setCell _ _ _) _ _=w3 at *
 clear x0 x1 f0 f1
 have L0:∀ x:Gr w3,x.1.cell? ⟨gx,0,none⟩=some (.slice nA n nc):=fun x=>(HB3.out.below x.2).cell 0
 have L1:∀ x:Gr w3,x.1.cell? ⟨gx,1,none⟩=some (.slice fA n fc):=fun x=>(HB3.out.below x.2).cell 1
 refine EH.wp_region_hyb [5] [(0,1),(1,1),(2,1),(3,0),(4,2),(5,0)] rfl (by kernel_rfl) ?_
 iterate 3 (refine EH.hyb_calm rfl (fun K hK=>?_);go_simp;refine hK _ ?_;clear hK K)
 clear L0 L1
 refine EH.hyb_alone rfl (fun w4 hn4 K hK=>?_)
 go_simp
 refine (first_any w4 nA fA n nc fc names files (HL.out.nx (HN3.out.trans hn4))).mono ?_;rintro e w5 ⟨gm,rfl,hgm,hmp,hn5⟩
 refine hK _ _ (.inr hn5) ?_
 clear hK K
 refine EH.hyb_pure rfl (fun K hK=>?_);go_simp;refine hK _ ?_;clear hK K
 refine EH.hyb_alone rfl (fun w6 hn6 K hK=>?_)
 have HN6:=Lib.hid (hn4.trans (hn5.trans hn6))
 have hb6:=HR3.out.below HN6.out
 have HGM:Hid (gr<gm):=by unfold Hid;have:=(HR3.out.below hn4).lt;omega
 have HMP:=Lib.hid (hmp.nx hn6)
 have y0:w6.cell? ⟨gr,0,none⟩=some (.slice none 0 0):=hb6.cell 0
 have y1:w6.cell? ⟨gr,1,none⟩=some (.slice none 0 0):=hb6.cell 1
 have y2:w6.cell? ⟨gr,2,none⟩=some (.string ⟨#[]⟩):=hb6.cell 2
 have y3:w6.cell? ⟨gr,3,none⟩=some (.map none):=hb6.cell 3
 have r0:=hb6.free 0
 have r1:=hb6.free 1
 have r2:=hb6.free 2
 have r3:=hb6.free 3
 have HB6:=Lib.hid hb6
 clear hb6 hmp hn4 hn5 hn6 hgm
 go_simp
 refine hK _ _ (.inl (by simp)) ?_
 clear hK K y0 y1 y2 y3 r0 r1 r2 r3
 obtain ⟨w7,hw7⟩:∃ w7,w7=wputs w6 gr 0 [.slice nA n nc,.slice fA n fc,.string ⟨own.toArray⟩,.map (some gm)]:=⟨_,rfl⟩
 show EH.Hyb _ _ _ _ _ _ (wputs w6 gr 0 [.slice nA n nc,.slice fA n fc,.string ⟨own.toArray⟩,.map (some gm)])
 rw [← hw7]
 have HB7:Hid (Blk w7 gx gr #[.slice nA n nc,.slice fA n fc,.string ⟨own.toArray⟩,.map (some gm)] 88):=by unfold Hid;rw [hw7];exact HB6.out.putAll [.slice nA n nc,.slice fA n fc,.string ⟨own.toArray⟩,.map (some gm)] rfl
 have HN7:Hid (Nx w w7):=by unfold Hid;rw [hw7];exact (HN3.out.trans HN6.out).puts hgw.out.1 _ 0
 have HM7:Hid (MpG kvS vvS okS w7 gm (fstM files)):=by
  refine HMP.out.keep ?_
  have:=HGM.out
  rw [hw7]
  simp only [wputs,World.setCell]
  rw [Array.getElem?_modify,if_neg (by show ¬ gr=gm;omega),Array.getElem?_modify,if_neg (by show ¬ gr=gm;omega),Array.getElem?_modify,if_neg (by show ¬ gr=gm;omega),Array.getElem?_modify,if_neg (by show ¬ gr=gm;omega)]
 clear hw7
 refine EH.hyb_nil (fun w8 hn8=>?_)
 have HN8:=Lib.hid hn8
 clear hn8
 go_wp2_with fail
 refine bodyPost_ret (results_cell_row rfl _ _ gr _ _ _ _ rfl (HB7.out.below HN8.out).2 Tryz.underlying88 rfl (by kernel_rfl)) rfl ?_
 exact ⟨gm,rfl,⟨HL.out.nx (HN7.out.trans HN8.out),HM7.out.nx HN8.out⟩,HN7.out.trans HN8.out⟩
theorem cat_tx (a b:List UInt8):(ByteArray.mk a.toArray)++(ByteArray.mk b.toArray)=⟨(a++b).toArray⟩:=(Tx.app (Tx.of a) (Tx.of b)).eq
set_option maxRecDepth 100000 in
set_option maxHeartbeats 3200000 in
theorem answer_any (h:Scp w nA fA n nc fc gm names files) (own:List UInt8) (k j:Nat) (d:Dfn) (hp:PlOk files (k:Int) j d) (nm:List UInt8) (hk:k<names.length) (hnm:names[k]=nm) (hd:dfnB d=true) :
  Calls Tryz.prog 27 #[.agg #[.slice nA n nc,.slice fA n fc,.string ⟨own.toArray⟩,.map (some gm)],.agg #[.int .i64 (k:Int),.int .i64 (j:Int)]] w fun e w'=>∃ z,e = .returned (.tuple #[bt (nm++[46]++d.nm),.agg (dfnA z),bt nm])∧z.k=d.k∧z.nm=d.nm∧z.ty=d.ty∧IsSl z.ini.l∧IsSl z.fields∧IsSl z.mems∧IsSl z.mets∧Nx w w':=by
 have HS:=Lib.hid h
 have HP:=Lib.hid hp
 have HD:=Lib.hid hd
 obtain ⟨hn100,hnl,-⟩:=h.ld.parts
 have hnm8:nm.length≤8000:=hnm ▸ hnl _ (List.getElem_mem hk)
 have hdn8:d.nm.length≤8000:=by
  unfold dfnB at hd
  simp only [Bool.and_eq_true,decide_eq_true_eq] at hd
  exact hd.1.1.1.1.1.1.1.1
 have HL1:Hid (nm.length≤140737488355328):=by unfold Hid;omega
 obtain ⟨gn,hgA,hgn,hcn⟩:=h.ld.name k hk
 subst hgA
 rw [hnm] at hcn
 have hkn:k<n:=by rw [← h.ld.ln];exact hk
 obtain ⟨gx,hgx⟩:∃ g,w.heap.size=g:=⟨_,rfl⟩
 obtain ⟨gp,hgp⟩:∃ g,gx+1=g:=⟨_,rfl⟩
 obtain ⟨gr,hgr⟩:∃ g,gp+1=g:=⟨_,rfl⟩
 obtain ⟨w1,hw⟩:∃ w1,((w.alloc (.cells #[.slice (some ⟨gn,0,none⟩) n nc,.slice fA n fc,.string ⟨own.toArray⟩,.map (some gm)] 88)).alloc (.cells #[.int .i64 (k:Int),.int .i64 (j:Int)] 91)).alloc (.cells #[.int .i64 0,.string ⟨#[]⟩,.string ⟨#[]⟩,.int .i64 0,.int .i64 0,.int .u64 0,.string ⟨#[]⟩,.slice none 0 0,.slice none 0 0,.slice none 0 0,.string ⟨#[]⟩,.slice none 0 0] 56)=w1:=⟨_,rfl⟩
 have HBX:Hid (Blk w1 gx gx #[.slice (some ⟨gn,0,none⟩) n nc,.slice fA n fc,.string ⟨own.toArray⟩,.map (some gm)] 88):=by
  unfold Hid;rw [← hw,← hgx];exact ((Blk.new w _ _).alloc _).alloc _
 have HBP:Hid (Blk w1 gx gp #[.int .i64 (k:Int),.int .i64 (j:Int)] 91):=by
  unfold Hid;rw [← hw,← hgp,← hgx,show w.heap.size+1=(w.alloc (.cells #[.slice (some ⟨gn,0,none⟩) n nc,.slice fA n fc,.string ⟨own.toArray⟩,.map (some gm)] 88)).heap.size from by simp]
  exact ((Blk.new (w.alloc (.cells #[.slice (some ⟨gn,0,none⟩) n nc,.slice fA n fc,.string ⟨own.toArray⟩,.map (some gm)] 88)) _ _).alloc _).less (by simp)
 have HBR:Hid (Blk w1 gx gr #[.int .i64 0,.string ⟨#[]⟩,.string ⟨#[]⟩,.int .i64 0,.int .i64 0,.int .u64 0,.string ⟨#[]⟩,.slice none 0 0,.slice none 0 0,.slice none 0 0,.string ⟨#[]⟩,.slice none 0 0] 56):=by
  have e:gr=((w.alloc (.cells #[.slice (some ⟨gn,0,none⟩) n nc,.slice fA n fc,.string ⟨own.toArray⟩,.map (some gm)] 88)).alloc (.cells #[.int .i64 (k:Int),.int .i64 (j:Int)] 91)).heap.size:=by simp;omega
  unfold Hid;rw [← hw,e]
  exact (Blk.new _ _ _).less (by simp;omega)
 have HN1:Hid (Nx w w1):=by unfold Hid;rw [← hw];exact Nx.al (Nx.al (nx0 w _) _) _
 have hgw:Hid (w.heap.size≤gr):=by unfold Hid;omega
 have q1:(k:Int)<(n:Int):=by omega
 have q2:(0:Int)≤(k:Int):=by omega
 have q4:(k:Int)≤100:=by omega
 have c0:w1.cell? ⟨gn,k,none⟩=some (.string ⟨nm.toArray⟩):=(HN1.out.cell (p:=⟨gn,k,none⟩) hgn).trans hcn
 have HLN:Hid (nm.length≤8000∧d.nm.length≤8000):=⟨hnm8,hdn8⟩
 show Calls _ _ #[.agg #[.slice (some ⟨gn,0,none⟩) n nc,.slice fA n fc,.string ⟨own.toArray⟩,.map (some gm)],.agg #[.int .i64 (k:Int),.int .i64 (j:Int)]] _ _
 clear h hp hd hn100 hnl hnm hk hgn hcn hnm8 hdn8
 go_enter Tryz.func27,Tryz.ntmps27
 go_upto_region 1 with (fail)
 try rw [hw]
 clear hw hgx hgp hgr
 have x0:w1.cell? ⟨gx,0,none⟩=some (.slice (some ⟨gn,0,none⟩) n nc):=HBX.out.cell 0
 have p0:w1.cell? ⟨gp,0,none⟩=some (.int .i64 (k:Int)):=HBP.out.cell 0
 go_wp2_with fail
 refine (clone_any w1 _ nm (Tx.of _) HL1.out).mono ?_;rintro e w2 ⟨rfl,hn2⟩
 have hbx:=HBX.out.below hn2
 have hbp:=HBP.out.below hn2
 have HBR2:=Lib.hid (HBR.out.below hn2)
 have HN2:=Lib.hid (HN1.out.trans hn2)
 have HSD:=Lib.hid (sdef_any (HS.out.nx HN2.out) own (k:Int) j d HP.out)
 clear x0 p0 c0 hn2
 have x0:w2.cell? ⟨gx,0,none⟩=some (.slice (some ⟨gn,0,none⟩) n nc):=hbx.cell 0
 have x1:w2.cell? ⟨gx,1,none⟩=some (.slice fA n fc):=hbx.cell 1
 have x2:w2.cell? ⟨gx,2,none⟩=some (.string ⟨own.toArray⟩):=hbx.cell 2
 have x3:w2.cell? ⟨gx,3,none⟩=some (.map (some gm)):=hbx.cell 3
 have p0:w2.cell? ⟨gp,0,none⟩=some (.int .i64 (k:Int)):=hbp.cell 0
 have p1:w2.cell? ⟨gp,1,none⟩=some (.int .i64 (j:Int)):=hbp.cell 1
 clear hbx hbp
 go_wp2_with fail
 refine HSD.out.mono ?_;rintro e w3 ⟨x,rfl,hx,hn3⟩
 have HCO:=Lib.hid (copyOf_any w3 x d (RD.lasts (Mv.nx hn3 (Nat.le_refl _)) hx) HD.out)
 obtain ⟨X,hX⟩:∃ X,dfnA x=X:=⟨_,rfl⟩
 rw [hX] at HCO ⊢
 have HN3:=Lib.hid (HN2.out.trans hn3)
 have HBR3:=Lib.hid (HBR2.out.below hn3)
 clear x0 x1 x2 x3 p0 p1 hx hn3 hX HSD
 go_wp2_with fail
 refine HCO.out.mono ?_;rintro e w4 ⟨⟨dk,dn,dt,⟨xk,xn,xd,s,xl⟩,xf,xm,de,xt⟩,rfl,hz1,hz2,hz3,⟨zA,zu,zc,hxl⟩,⟨fA2,fu,fc2,hxf⟩,⟨mA,mu,mc,hxm⟩,⟨tA,tu,tc,hxt⟩,hn4⟩
 dsimp only at hz1 hz2 hz3 hxl hxf hxm hxt
 subst hxl hxf hxm hxt
 rw [show dfnA ⟨dk,dn,dt,⟨xk,xn,xd,s,.slice zA zu zc⟩,.slice fA2 fu fc2,.slice mA mu mc,de,.slice tA tu tc⟩=#[.int .i64 (dk:Int),.string ⟨dn.toArray⟩,.string ⟨dt.toArray⟩,.int .i64 (xk:Int),.int .i64 xn,.int .u64 (xd:Int),.string ⟨s.toArray⟩,.slice zA zu zc,.slice fA2 fu fc2,.slice mA mu mc,.string ⟨de.toArray⟩,.slice tA tu tc] from rfl]
 have HZ:Hid (dk=d.k∧dn=d.nm∧dt=d.ty):=⟨hz1,hz2,hz3⟩
 have hb4:=HBR3.out.below hn4
 have HB4:=Lib.hid hb4
 have HN4:=Lib.hid (HN3.out.trans hn4)
 have y0:w4.cell? ⟨gr,0,none⟩=some (.int .i64 0):=hb4.cell 0
 have y1:w4.cell? ⟨gr,1,none⟩=some (.string ⟨#[]⟩):=hb4.cell 1
 have y2:w4.cell? ⟨gr,2,none⟩=some (.string ⟨#[]⟩):=hb4.cell 2
 have y3:w4.cell? ⟨gr,3,none⟩=some (.int .i64 0):=hb4.cell 3
 have y4:w4.cell? ⟨gr,4,none⟩=some (.int .i64 0):=hb4.cell 4
 have y5:w4.cell? ⟨gr,5,none⟩=some (.int .u64 0):=hb4.cell 5
 have y6:w4.cell? ⟨gr,6,none⟩=some (.string ⟨#[]⟩):=hb4.cell 6
 have y7:w4.cell? ⟨gr,7,none⟩=some (.slice none 0 0):=hb4.cell 7
 have y8:w4.cell? ⟨gr,8,none⟩=some (.slice none 0 0):=hb4.cell 8
 have y9:w4.cell? ⟨gr,9,none⟩=some (.slice none 0 0):=hb4.cell 9
 have y10:w4.cell? ⟨gr,10,none⟩=some (.string ⟨#[]⟩):=hb4.cell 10
 have y11:w4.cell? ⟨gr,11,none⟩=some (.slice none 0 0):=hb4.cell 11
 have r0:=hb4.free 0
 have r1:=hb4.free 1
 have r2:=hb4.free 2
 have r3:=hb4.free 3
 have r4:=hb4.free 4
 have r5:=hb4.free 5
 have r6:=hb4.free 6
 have r7:=hb4.free 7
 have r8:=hb4.free 8
 have r9:=hb4.free 9
 have r10:=hb4.free 10
 have r11:=hb4.free 11
 clear hb4 hn4 HCO hz1 hz2 hz3
 go_upto_region 3 with (fail)
 have HB5:=Lib.hid (HB4.out.putAll [.int .i64 (dk:Int),.string ⟨dn.toArray⟩,.string ⟨dt.toArray⟩,.int .i64 (xk:Int),.int .i64 xn,.int .u64 (xd:Int),.string ⟨s.toArray⟩,.slice zA zu zc,.slice fA2 fu fc2,.slice mA mu mc,.string ⟨de.toArray⟩,.slice tA tu tc] rfl)
 have HN5:=Lib.hid (HN4.out.puts hgw.out [.int .i64 (dk:Int),.string ⟨dn.toArray⟩,.string ⟨dt.toArray⟩,.int .i64 (xk:Int),.int .i64 xn,.int .u64 (xd:Int),.string ⟨s.toArray⟩,.slice zA zu zc,.slice fA2 fu fc2,.slice mA mu mc,.string ⟨de.toArray⟩,.slice tA tu tc] 0)
 obtain ⟨w5,hw5⟩:∃ w5,w5=wputs w4 gr 0 [.int .i64 (dk:Int),.string ⟨dn.toArray⟩,.string ⟨dt.toArray⟩,.int .i64 (xk:Int),.int .i64 xn,.int .u64 (xd:Int),.string ⟨s.toArray⟩,.slice zA zu zc,.slice fA2 fu fc2,.slice mA mu mc,.string ⟨de.toArray⟩,.slice tA tu tc]:=⟨_,rfl⟩
 rw [← hw5] at HB5 HN5
 show Code.wp _ _ _ _ (wputs w4 gr 0 [.int .i64 (dk:Int),.string ⟨dn.toArray⟩,.string ⟨dt.toArray⟩,.int .i64 (xk:Int),.int .i64 xn,.int .u64 (xd:Int),.string ⟨s.toArray⟩,.slice zA zu zc,.slice fA2 fu fc2,.slice mA mu mc,.string ⟨de.toArray⟩,.slice tA tu tc])
 rw [← hw5]
 clear hw5 y0 r0 y1 r1 y2 r2 y3 r3 y4 r4 y5 r5 y6 r6 y7 r7 y8 r8 y9 r9 y10 r10 y11 r11
 have z0:w5.cell? ⟨gr,0,none⟩=some (.int .i64 (dk:Int)):=HB5.out.cell 0
 have z1:w5.cell? ⟨gr,1,none⟩=some (.string ⟨dn.toArray⟩):=HB5.out.cell 1
 have z2:w5.cell? ⟨gr,2,none⟩=some (.string ⟨dt.toArray⟩):=HB5.out.cell 2
 have z3:w5.cell? ⟨gr,3,none⟩=some (.int .i64 (xk:Int)):=HB5.out.cell 3
 have z4:w5.cell? ⟨gr,4,none⟩=some (.int .i64 xn):=HB5.out.cell 4
 have z5:w5.cell? ⟨gr,5,none⟩=some (.int .u64 (xd:Int)):=HB5.out.cell 5
 have z6:w5.cell? ⟨gr,6,none⟩=some (.string ⟨s.toArray⟩):=HB5.out.cell 6
 have z7:w5.cell? ⟨gr,7,none⟩=some (.slice zA zu zc):=HB5.out.cell 7
 have z8:w5.cell? ⟨gr,8,none⟩=some (.slice fA2 fu fc2):=HB5.out.cell 8
 have z9:w5.cell? ⟨gr,9,none⟩=some (.slice mA mu mc):=HB5.out.cell 9
 have z10:w5.cell? ⟨gr,10,none⟩=some (.string ⟨de.toArray⟩):=HB5.out.cell 10
 have z11:w5.cell? ⟨gr,11,none⟩=some (.slice tA tu tc):=HB5.out.cell 11
 have f0:=HB5.out.free 0
 have f1:=HB5.out.free 1
 have f2:=HB5.out.free 2
 have f3:=HB5.out.free 3
 have f4:=HB5.out.free 4
 have f5:=HB5.out.free 5
 have f6:=HB5.out.free 6
 have f7:=HB5.out.free 7
 have f8:=HB5.out.free 8
 have f9:=HB5.out.free 9
 have f10:=HB5.out.free 10
 have f11:=HB5.out.free 11
 have e1:=cat_tx nm [46]
 have e2:=cat_tx (nm++[46]) dn
 rw [show ([46]:List UInt8).toArray=#[46] from rfl] at e1
 have e3:¬ 9223372036854775807<(ByteArray.mk nm.toArray).size+(ByteArray.mk #[46]).size:=by show ¬ _<nm.toArray.size+1;have:=HLN.out.1;simp;omega
 have e4:¬ 9223372036854775807<(ByteArray.mk (nm++[46]).toArray).size+(ByteArray.mk dn.toArray).size:=by show ¬ _<(nm++[46]).toArray.size+dn.toArray.size;have:=HLN.out.1;have:=HLN.out.2;rw [HZ.out.2.1];simp;omega
 go_region
 all_goals
  go_wp2_with fail
  refine bodyPost_ret (results_t_c_t rfl _ _ gr _ _ _ _ rfl ((HB5.out.putAll [.int .i64 (dk:Int),.string ⟨dn.toArray⟩,.string ⟨dt.toArray⟩,.int .i64 (xk:Int),.int .i64 xn,.int .u64 (xd:Int),.string ⟨s.toArray⟩,.slice zA zu zc,.slice fA2 fu fc2,.slice mA mu mc,.string ⟨de.toArray⟩,.slice tA tu tc] rfl).below (Nx.drawn _)).2 Tryz.underlying56 rfl (by kernel_rfl)) rfl ?_
  have he:nm++[46]++d.nm=nm++46 :: dn:=by rw [HZ.out.2.1];simp
  rw [he]
  exact ⟨⟨dk,dn,dt,⟨xk,xn,xd,s,.slice zA zu zc⟩,.slice fA2 fu fc2,.slice mA mu mc,de,.slice tA tu tc⟩,rfl,HZ.out.1,HZ.out.2.1,HZ.out.2.2,⟨_,_,_,rfl⟩,⟨_,_,_,rfl⟩,⟨_,_,_,rfl⟩,⟨_,_,_,rfl⟩,(HN5.out.puts hgw.out [.int .i64 (dk:Int),.string ⟨dn.toArray⟩,.string ⟨dt.toArray⟩,.int .i64 (xk:Int),.int .i64 xn,.int .u64 (xd:Int),.string ⟨s.toArray⟩,.slice zA zu zc,.slice fA2 fu fc2,.slice mA mu mc,.string ⟨de.toArray⟩,.slice tA tu tc] 0).trans (Nx.drawn _)⟩
end
end Go.Proofs.YtpfecpcgdfbekaaGreatDoor
namespace Go.Proofs.YtpfecpcgdfbekaaGreatDoor
open Go.RowKit
theorem results_t_c_t_t {P:Program} {fn:Func} {p a b c:Tmp} {ty:TypeId} (h:fn.results=#[.tmp a,.cell p ty,.tmp b,.tmp c]) (tmps:Array Value) (w:World) (g:Nat) (t:TypeId) (cs:Array Value) (fr:Nat×Nat) (d:TypeDesc)
  (hp:tmps.getD p undef = .pointer (some ⟨g,0,none⟩)) (hg:w.heap[g]? = some (.cells cs t fr))
  (hu:P.underlying ty=some d) (hd:(match d with | .struct _ | .array _ _=>true | _=>false)=true) (hi:(P.info? ty).map (·.size)=some cs.size) :
  (results fn tmps).run P w = .ok (.tuple #[tmps.getD a undef,.agg cs,tmps.getD b undef,tmps.getD c undef]) w:=by
 have hp':tmps[p]?.getD undef = .pointer (some ⟨g,0,none⟩):=by simpa using hp
 simp [results,h,hp',asAddr,run_loadVar_row w g t ty cs fr d hg hu hd hi]
theorem lookP_ok {names:List (List UInt8)} {files:List Fil} {file nm:List UInt8} {i:Int} {j:Nat} (h:lookP names (fstM files) file nm=some (i,j)):∃ (k:Nat) (hk:k<files.length),i=(k:Int)∧j<files[k].defs.length:=by
 unfold lookP at h
 obtain ⟨j',h1,h2⟩:=Option.map_eq_some_iff.1 h
 obtain ⟨rfl,rfl⟩:=Prod.mk.inj h2
 obtain ⟨k,e,hk,hj⟩:=fstM_ok files _ (getG_mem h1)
 exact ⟨k,hk,e,hj⟩
theorem findP_ok {names:List (List UInt8)} {files:List Fil} {own ref:List UInt8} {i:Int} {j:Nat} (h:findP names files own ref=some (i,j)):∃ (k:Nat) (hk:k<files.length),i=(k:Int)∧j<files[k].defs.length:=by
 unfold findP at h
 split at h
 ·cases h
 ·split at h
  ·exact lookP_ok h
  ·split at h
   ·exact lookP_ok h
   ·cases h
  ·cases h
def FindR (names:List (List UInt8)) (files:List Fil) (P:Pl) (e:Ending):Prop:=match P with
 | none=>e = .returned (.tuple #[.string ⟨#[]⟩,.agg #[.int .i64 0,.string ⟨#[]⟩,.string ⟨#[]⟩,.int .i64 0,.int .i64 0,.int .u64 0,.string ⟨#[]⟩,.slice none 0 0,.slice none 0 0,.slice none 0 0,.string ⟨#[]⟩,.slice none 0 0],.string ⟨#[]⟩,.int .i64 7])
 | some (i,j)=>∃ z nm d,e = .returned (.tuple #[bt (nm++[46]++d.nm),.agg (dfnA z),bt nm,.int .i64 0])∧PlOk files i j d∧names[i.toNat]? = some nm∧z.k=d.k∧z.nm=d.nm∧z.ty=d.ty∧IsSl z.ini.l∧IsSl z.fields∧IsSl z.mems∧IsSl z.mets
section
variable {w:World} {nA fA:Option Addr} {n nc fc:Nat} {names:List (List UInt8)} {files:List Fil}
set_option maxRecDepth 100000 in
set_option maxHeartbeats 3200000 in
theorem Find_any (h:Ldn w nA fA n nc fc names files) (own ref:List UInt8) (hr:ref.length≤8000) (hm:MaxC w) :
  Calls Tryz.prog 14 #[.agg #[.slice nA n nc,.slice fA n fc],.string ⟨own.toArray⟩,.string ⟨ref.toArray⟩] w fun e w'=>FindR names files (findP names files own ref) e∧Nx w w':=by
 have HL:=Lib.hid h
 have HRL:=Lib.hid hr
 have HMX:=Lib.hid hm
 obtain ⟨R,hR⟩:∃ R,findP names files own ref=R:=⟨_,rfl⟩
 have HR:=Lib.hid hR
 rw [hR]
 obtain ⟨gx,hgx⟩:∃ g,w.heap.size=g:=⟨_,rfl⟩
 obtain ⟨gr,hgr⟩:∃ g,gx+1=g:=⟨_,rfl⟩
 obtain ⟨w1,hw⟩:∃ w1,(w.alloc (.cells #[.slice nA n nc,.slice fA n fc] 39)).alloc (.cells #[.int .i64 0,.string ⟨#[]⟩,.string ⟨#[]⟩,.int .i64 0,.int .i64 0,.int .u64 0,.string ⟨#[]⟩,.slice none 0 0,.slice none 0 0,.slice none 0 0,.string ⟨#[]⟩,.slice none 0 0] 56)=w1:=⟨_,rfl⟩
 have HBX:Hid (Blk w1 gx gx #[.slice nA n nc,.slice fA n fc] 39):=by
  unfold Hid;rw [← hw,← hgx];exact (Blk.new w _ _).alloc _
 have HBR:Hid (Blk w1 gx gr #[.int .i64 0,.string ⟨#[]⟩,.string ⟨#[]⟩,.int .i64 0,.int .i64 0,.int .u64 0,.string ⟨#[]⟩,.slice none 0 0,.slice none 0 0,.slice none 0 0,.string ⟨#[]⟩,.slice none 0 0] 56):=by
  unfold Hid;rw [← hw,← hgr,← hgx,show w.heap.size+1=(w.alloc (.cells #[.slice nA n nc,.slice fA n fc] 39)).heap.size from by simp]
  exact (Blk.new (w.alloc (.cells #[.slice nA n nc,.slice fA n fc] 39)) _ _).less (by simp)
 have HN1:Hid (Nx w w1):=by unfold Hid;rw [← hw];exact Nx.al (nx0 w _) _
 have hgw:Hid (w.heap.size≤gr):=by unfold Hid;omega
 have HSO:=Lib.hid (scopeOf_any (h.nx HN1.out) own)
 clear h hr hm hR
 go_enter Tryz.func14,Tryz.ntmps14
 go_upto_region 1 with (fail)
 try rw [hw]
 clear hw hgx hgr
 have x0:w1.cell? ⟨gx,0,none⟩=some (.slice nA n nc):=HBX.out.cell 0
 have x1:w1.cell? ⟨gx,1,none⟩=some (.slice fA n fc):=HBX.out.cell 1
 go_wp2_with fail
 refine HSO.out.mono ?_;rintro e w2 ⟨gm,rfl,hs2,hn2⟩
 obtain ⟨g3,hg3⟩:∃ g,w2.heap.size=g:=⟨_,rfl⟩
 obtain ⟨w3,hw3⟩:∃ w3,w2.alloc (.cells #[.slice nA n nc,.slice fA n fc,.string ⟨own.toArray⟩,.map (some gm)] 88)=w3:=⟨_,rfl⟩
 have HB3:Hid (Blk w3 g3 g3 #[.slice nA n nc,.slice fA n fc,.string ⟨own.toArray⟩,.map (some gm)] 88):=by unfold Hid;rw [← hw3,← hg3];exact Blk.new w2 _ _
 have hn3:Nx w2 w3:=by rw [← hw3];exact nx0 _ _
 have HS3:=Lib.hid (hs2.nx hn3)
 have HN3:=Lib.hid (HN1.out.trans (hn2.trans hn3))
 have HBR3:=Lib.hid (HBR.out.below (hn2.trans hn3))
 have HFI:=Lib.hid (find_any HS3.out own ref HRL.out (HMX.out.nx HN3.out))
 have k0:w3.cell? ⟨g3,0,none⟩=some (.slice nA n nc):=HB3.out.cell 0
 have k1:w3.cell? ⟨g3,1,none⟩=some (.slice fA n fc):=HB3.out.cell 1
 have k2:w3.cell? ⟨g3,2,none⟩=some (.string ⟨own.toArray⟩):=HB3.out.cell 2
 have k3:w3.cell? ⟨g3,3,none⟩=some (.map (some gm)):=HB3.out.cell 3
 clear hs2 hn2 hn3 x0 x1
 go_wp2_with fail
 clear hw3 hg3
 refine HFI.out.mono ?_;rw [HR.out];rintro e w4 ⟨rfl,hn4⟩
 have HN4:=Lib.hid (HN3.out.trans hn4)
 have HB4:=Lib.hid (HB3.out.below hn4)
 have HS4:=Lib.hid (HS3.out.nx hn4)
 have HBR4:=Lib.hid (HBR3.out.below hn4)
 clear k0 k1 k2 k3 hn4 HFI
 obtain ⟨⟨gi,gj⟩,hgv⟩:∃ p,R.getD (0,0)=p:=⟨_,rfl⟩
 have HGV:Hid (plV R = .agg #[.int .i64 gi,.int .i64 (gj:Int)]):=by unfold Hid plV;rw [hgv]
 rw [HGV.out]
 obtain ⟨g5,hg5⟩:∃ g,w4.heap.size=g:=⟨_,rfl⟩
 obtain ⟨w5,hw5⟩:∃ w5,w4.alloc (.cells #[.int .i64 gi,.int .i64 (gj:Int)] 91)=w5:=⟨_,rfl⟩
 have HB5:Hid (Blk w5 g5 g5 #[.int .i64 gi,.int .i64 (gj:Int)] 91):=by unfold Hid;rw [← hw5,← hg5];exact Blk.new w4 _ _
 have hn5:Nx w4 w5:=by rw [← hw5];exact nx0 _ _
 have HN5:=Lib.hid (HN4.out.trans hn5)
 have HS5:=Lib.hid (HS4.out.nx hn5)
 have hbr5:=HBR4.out.below hn5
 have HBR5:=Lib.hid hbr5
 have hb5:=HB4.out.below hn5
 have y0:w5.cell? ⟨gr,0,none⟩=some (.int .i64 0):=hbr5.cell 0
 have y1:w5.cell? ⟨gr,1,none⟩=some (.string ⟨#[]⟩):=hbr5.cell 1
 have y2:w5.cell? ⟨gr,2,none⟩=some (.string ⟨#[]⟩):=hbr5.cell 2
 have y3:w5.cell? ⟨gr,3,none⟩=some (.int .i64 0):=hbr5.cell 3
 have y4:w5.cell? ⟨gr,4,none⟩=some (.int .i64 0):=hbr5.cell 4
 have y5:w5.cell? ⟨gr,5,none⟩=some (.int .u64 0):=hbr5.cell 5
 have y6:w5.cell? ⟨gr,6,none⟩=some (.string ⟨#[]⟩):=hbr5.cell 6
 have y7:w5.cell? ⟨gr,7,none⟩=some (.slice none 0 0):=hbr5.cell 7
 have y8:w5.cell? ⟨gr,8,none⟩=some (.slice none 0 0):=hbr5.cell 8
 have y9:w5.cell? ⟨gr,9,none⟩=some (.slice none 0 0):=hbr5.cell 9
 have y10:w5.cell? ⟨gr,10,none⟩=some (.string ⟨#[]⟩):=hbr5.cell 10
 have y11:w5.cell? ⟨gr,11,none⟩=some (.slice none 0 0):=hbr5.cell 11
 have r0:=hbr5.free 0
 have r1:=hbr5.free 1
 have r2:=hbr5.free 2
 have r3:=hbr5.free 3
 have r4:=hbr5.free 4
 have r5:=hbr5.free 5
 have r6:=hbr5.free 6
 have r7:=hbr5.free 7
 have r8:=hbr5.free 8
 have r9:=hbr5.free 9
 have r10:=hbr5.free 10
 have r11:=hbr5.free 11
 cases R with
 | none =>
  clear hbr5 hb5 hn5
  go_wp2_with fail
  refine bodyPost_ret (results_t_c_t_t rfl _ _ gr _ _ _ _ rfl (HBR5.out.putAll [.int .i64 0,.string ⟨#[]⟩,.string ⟨#[]⟩,.int .i64 0,.int .i64 0,.int .u64 0,.string ⟨#[]⟩,.slice none 0 0,.slice none 0 0,.slice none 0 0,.string ⟨#[]⟩,.slice none 0 0] rfl).2 Tryz.underlying56 rfl (by kernel_rfl)) rfl ?_
  exact ⟨rfl,HN5.out.puts hgw.out [.int .i64 0,.string ⟨#[]⟩,.string ⟨#[]⟩,.int .i64 0,.int .i64 0,.int .u64 0,.string ⟨#[]⟩,.slice none 0 0,.slice none 0 0,.slice none 0 0,.string ⟨#[]⟩,.slice none 0 0] 0⟩
 | some P =>
  obtain ⟨pi,pj⟩:=P
  obtain ⟨rfl,rfl⟩:pi=gi∧pj=gj:=Prod.mk.inj hgv
  obtain ⟨k,hk,rfl,hj⟩:=findP_ok HR.out
  have HFO:=Lib.hid (findP_ok HR.out)
  have hkn:k<names.length:=by rw [HL.out.ln,← HL.out.lf];exact hk
  obtain ⟨nm,hnm⟩:∃ nm,names[k]=nm:=⟨_,rfl⟩
  obtain ⟨d,hd⟩:∃ d,files[k].defs[pj]=d:=⟨_,rfl⟩
  have hpl:PlOk files (k:Int) pj d:=⟨k,hk,rfl,hj,hd⟩
  have hdb:dfnB d=true:=(HL.out.parts.2.2 _ (List.getElem_mem hk)).2.2 d (hd ▸ List.getElem_mem hj)
  have HAN:=Lib.hid (answer_any HS5.out own k pj d hpl nm hkn hnm hdb)
  have HPL:=Lib.hid hpl
  have HNM:Hid (names[(k:Int).toNat]? = some nm):=by unfold Hid;rw [Int.toNat_natCast,List.getElem?_eq_getElem hkn,hnm]
  have k0:w5.cell? ⟨g3,0,none⟩=some (.slice nA n nc):=hb5.cell 0
  have k1:w5.cell? ⟨g3,1,none⟩=some (.slice fA n fc):=hb5.cell 1
  have k2:w5.cell? ⟨g3,2,none⟩=some (.string ⟨own.toArray⟩):=hb5.cell 2
  have k3:w5.cell? ⟨g3,3,none⟩=some (.map (some gm)):=hb5.cell 3
  have p0:w5.cell? ⟨g5,0,none⟩=some (.int .i64 (k:Int)):=HB5.out.cell 0
  have p1:w5.cell? ⟨g5,1,none⟩=some (.int .i64 (pj:Int)):=HB5.out.cell 1
  clear hbr5 hb5 hn5 hk hj hkn hnm hd hpl hdb hgv y0 r0 y1 r1 y2 r2 y3 r3 y4 r4 y5 r5 y6 r6 y7 r7 y8 r8 y9 r9 y10 r10 y11 r11
  go_wp2_with fail
  refine HAN.out.mono ?_;rintro e w6 ⟨⟨dk,dn,dt,⟨xk,xn,xd,s,xl⟩,xf,xm,de,xt⟩,rfl,hz1,hz2,hz3,⟨zA,zu,zc,hxl⟩,⟨fA2,fu,fc2,hxf⟩,⟨mA,mu,mc,hxm⟩,⟨tA,tu,tc,hxt⟩,hn6⟩
  dsimp only at hz1 hz2 hz3 hxl hxf hxm hxt
  subst hxl hxf hxm hxt
  rw [show dfnA ⟨dk,dn,dt,⟨xk,xn,xd,s,.slice zA zu zc⟩,.slice fA2 fu fc2,.slice mA mu mc,de,.slice tA tu tc⟩=#[.int .i64 (dk:Int),.string ⟨dn.toArray⟩,.string ⟨dt.toArray⟩,.int .i64 (xk:Int),.int .i64 xn,.int .u64 (xd:Int),.string ⟨s.toArray⟩,.slice zA zu zc,.slice fA2 fu fc2,.slice mA mu mc,.string ⟨de.toArray⟩,.slice tA tu tc] from rfl]
  unfold bt
  have HZ:Hid (dk=d.k∧dn=d.nm∧dt=d.ty):=⟨hz1,hz2,hz3⟩
  obtain ⟨WH,hWH⟩:∃ l,nm++[46]++d.nm=l:=⟨_,rfl⟩
  have HWH:=Lib.hid hWH
  rw [hWH]
  have hb6:=HBR5.out.below hn6
  have HB6:=Lib.hid hb6
  have HN6:=Lib.hid (HN5.out.trans hn6)
  have y0:w6.cell? ⟨gr,0,none⟩=some (.int .i64 0):=hb6.cell 0
  have y1:w6.cell? ⟨gr,1,none⟩=some (.string ⟨#[]⟩):=hb6.cell 1
  have y2:w6.cell? ⟨gr,2,none⟩=some (.string ⟨#[]⟩):=hb6.cell 2
  have y3:w6.cell? ⟨gr,3,none⟩=some (.int .i64 0):=hb6.cell 3
  have y4:w6.cell? ⟨gr,4,none⟩=some (.int .i64 0):=hb6.cell 4
  have y5:w6.cell? ⟨gr,5,none⟩=some (.int .u64 0):=hb6.cell 5
  have y6:w6.cell? ⟨gr,6,none⟩=some (.string ⟨#[]⟩):=hb6.cell 6
  have y7:w6.cell? ⟨gr,7,none⟩=some (.slice none 0 0):=hb6.cell 7
  have y8:w6.cell? ⟨gr,8,none⟩=some (.slice none 0 0):=hb6.cell 8
  have y9:w6.cell? ⟨gr,9,none⟩=some (.slice none 0 0):=hb6.cell 9
  have y10:w6.cell? ⟨gr,10,none⟩=some (.string ⟨#[]⟩):=hb6.cell 10
  have y11:w6.cell? ⟨gr,11,none⟩=some (.slice none 0 0):=hb6.cell 11
  have r0:=hb6.free 0
  have r1:=hb6.free 1
  have r2:=hb6.free 2
  have r3:=hb6.free 3
  have r4:=hb6.free 4
  have r5:=hb6.free 5
  have r6:=hb6.free 6
  have r7:=hb6.free 7
  have r8:=hb6.free 8
  have r9:=hb6.free 9
  have r10:=hb6.free 10
  have r11:=hb6.free 11
  clear hb6 hn6 HAN hz1 hz2 hz3 hWH k0 k1 k2 k3 p0 p1 hw5 hg5
  go_upto_region 6 with (fail)
  have HB7:=Lib.hid (HB6.out.putAll [.int .i64 (dk:Int),.string ⟨dn.toArray⟩,.string ⟨dt.toArray⟩,.int .i64 (xk:Int),.int .i64 xn,.int .u64 (xd:Int),.string ⟨s.toArray⟩,.slice zA zu zc,.slice fA2 fu fc2,.slice mA mu mc,.string ⟨de.toArray⟩,.slice tA tu tc] rfl)
  have HN7:=Lib.hid (HN6.out.puts hgw.out [.int .i64 (dk:Int),.string ⟨dn.toArray⟩,.string ⟨dt.toArray⟩,.int .i64 (xk:Int),.int .i64 xn,.int .u64 (xd:Int),.string ⟨s.toArray⟩,.slice zA zu zc,.slice fA2 fu fc2,.slice mA mu mc,.string ⟨de.toArray⟩,.slice tA tu tc] 0)
  obtain ⟨w7,hw7⟩:∃ w7,w7=wputs w6 gr 0 [.int .i64 (dk:Int),.string ⟨dn.toArray⟩,.string ⟨dt.toArray⟩,.int .i64 (xk:Int),.int .i64 xn,.int .u64 (xd:Int),.string ⟨s.toArray⟩,.slice zA zu zc,.slice fA2 fu fc2,.slice mA mu mc,.string ⟨de.toArray⟩,.slice tA tu tc]:=⟨_,rfl⟩
  rw [← hw7] at HB7 HN7
  show Code.wp _ _ _ _ (wputs w6 gr 0 [.int .i64 (dk:Int),.string ⟨dn.toArray⟩,.string ⟨dt.toArray⟩,.int .i64 (xk:Int),.int .i64 xn,.int .u64 (xd:Int),.string ⟨s.toArray⟩,.slice zA zu zc,.slice fA2 fu fc2,.slice mA mu mc,.string ⟨de.toArray⟩,.slice tA tu tc])
  rw [← hw7]
  clear hw7 y0 r0 y1 r1 y2 r2 y3 r3 y4 r4 y5 r5 y6 r6 y7 r7 y8 r8 y9 r9 y10 r10 y11 r11
  have z0:w7.cell? ⟨gr,0,none⟩=some (.int .i64 (dk:Int)):=HB7.out.cell 0
  have z1:w7.cell? ⟨gr,1,none⟩=some (.string ⟨dn.toArray⟩):=HB7.out.cell 1
  have z2:w7.cell? ⟨gr,2,none⟩=some (.string ⟨dt.toArray⟩):=HB7.out.cell 2
  have z3:w7.cell? ⟨gr,3,none⟩=some (.int .i64 (xk:Int)):=HB7.out.cell 3
  have z4:w7.cell? ⟨gr,4,none⟩=some (.int .i64 xn):=HB7.out.cell 4
  have z5:w7.cell? ⟨gr,5,none⟩=some (.int .u64 (xd:Int)):=HB7.out.cell 5
  have z6:w7.cell? ⟨gr,6,none⟩=some (.string ⟨s.toArray⟩):=HB7.out.cell 6
  have z7:w7.cell? ⟨gr,7,none⟩=some (.slice zA zu zc):=HB7.out.cell 7
  have z8:w7.cell? ⟨gr,8,none⟩=some (.slice fA2 fu fc2):=HB7.out.cell 8
  have z9:w7.cell? ⟨gr,9,none⟩=some (.slice mA mu mc):=HB7.out.cell 9
  have z10:w7.cell? ⟨gr,10,none⟩=some (.string ⟨de.toArray⟩):=HB7.out.cell 10
  have z11:w7.cell? ⟨gr,11,none⟩=some (.slice tA tu tc):=HB7.out.cell 11
  have f0:=HB7.out.free 0
  have f1:=HB7.out.free 1
  have f2:=HB7.out.free 2
  have f3:=HB7.out.free 3
  have f4:=HB7.out.free 4
  have f5:=HB7.out.free 5
  have f6:=HB7.out.free 6
  have f7:=HB7.out.free 7
  have f8:=HB7.out.free 8
  have f9:=HB7.out.free 9
  have f10:=HB7.out.free 10
  have f11:=HB7.out.free 11
  go_region
  all_goals
   go_wp2_with fail
   refine bodyPost_ret (results_t_c_t_t rfl _ _ gr _ _ _ _ rfl ((HB7.out.putAll [.int .i64 (dk:Int),.string ⟨dn.toArray⟩,.string ⟨dt.toArray⟩,.int .i64 (xk:Int),.int .i64 xn,.int .u64 (xd:Int),.string ⟨s.toArray⟩,.slice zA zu zc,.slice fA2 fu fc2,.slice mA mu mc,.string ⟨de.toArray⟩,.slice tA tu tc] rfl).below (Nx.drawn _)).2 Tryz.underlying56 rfl (by kernel_rfl)) rfl ?_
   refine ⟨⟨⟨dk,dn,dt,⟨xk,xn,xd,s,.slice zA zu zc⟩,.slice fA2 fu fc2,.slice mA mu mc,de,.slice tA tu tc⟩,nm,d,?_,HPL.out,HNM.out,HZ.out.1,HZ.out.2.1,HZ.out.2.2,⟨_,_,_,rfl⟩,⟨_,_,_,rfl⟩,⟨_,_,_,rfl⟩,⟨_,_,_,rfl⟩⟩,(HN7.out.puts hgw.out [.int .i64 (dk:Int),.string ⟨dn.toArray⟩,.string ⟨dt.toArray⟩,.int .i64 (xk:Int),.int .i64 xn,.int .u64 (xd:Int),.string ⟨s.toArray⟩,.slice zA zu zc,.slice fA2 fu fc2,.slice mA mu mc,.string ⟨de.toArray⟩,.slice tA tu tc] 0).trans (Nx.drawn _)⟩
   unfold bt
   rw [HWH.out]
   rfl
end
end Go.Proofs.YtpfecpcgdfbekaaGreatDoor
