/- The contracts of include and visit: one within the other, so often. The contract of bundle.Load. The bundles of BundleForms, of the beginning: what they are. Plain lemmas. -/
import Derived.Test.YtpbjkgpdkopgmaaGreatDoorG29
import Derived.Test.YtpbjkgpdkopgmaaGreatDoorG30
import Derived.Test.YtpbjkgpdkopgmaaGreatDoorG28
set_option linter.unusedVariables false
set_option linter.unusedSimpArgs false
set_option linter.unnecessarySimpa false
namespace Go.Proofs.YtpbjkgpdkopgmaaGreatDoor
open Go.RowKit
theorem src_field (T:ByteArray) (k:Int) (w:World):(Instr.field 141 (.agg #[.string T,.int .i64 k]) 0).run Tryz.prog w = .ok (.string T) w∧(Instr.field 141 (.agg #[.string T,.int .i64 k]) 1).run Tryz.prog w = .ok (.int .i64 k) w:=by
 have hu:=run_underlying (P:=Tryz.prog) Tryz.underlying141 w
 constructor <;>
  (unfold Instr.field;simp [Sem.run_bind,hu,Result.andThen_ok,asAgg];exact run_part_plain _ (by kernel_rfl) rfl)
theorem results_noneB {P:Program} {fn:Func} (h:fn.results=#[]) (tmps:Array Value) (w:World):(results fn tmps).run P w = .ok (.tuple #[]) w:=by
 simp [results,h]
def VisC (w0:World) (g gm n:Nat):Prop:=∀ (w:World) (s:LdV) (vn vf:Value),LdS w0 g gm s vn vf w→∀ (sn:ByteArray) (nm:List UInt8),Tx sn nm→nm.length≤8000→∀ m,Sz s m→m+6 ^ n≤90000 →
 Calls Tryz.prog 33 #[.pointer (some ⟨g,0,none⟩),.string sn,.int .i64 (n:Int)] w fun e w'=>e = .returned (.tuple #[])∧∃ vn' vf',LdS w0 g gm (visV n nm s) vn' vf' w'∧LdF g gm vn vf w vn' vf' w'
section
variable {w0 w w':World} {g gm:Nat} {s s':LdV} {vn vf vn' vf':Value}
set_option maxRecDepth 100000 in
set_option maxHeartbeats 3200000 in
theorem linc_any {n:Nat} (hV:VisC w0 g gm n) (h0:LdS w0 g gm s vn vf w) (sn:ByteArray) (nm:List UInt8) (hn:Tx sn nm) (hl:nm.length≤8000) (sa:ByteArray) (ak:List UInt8) (ha:Tx sa ak) (m:Nat) (hz:Sz s m) (h6:m+6 ^ n≤90000) :
  Calls Tryz.prog 64 #[.pointer (some ⟨g,0,none⟩),.string sn,.string sa,.int .i64 (n:Int)] w fun e w'=>e = .returned (.tuple #[])∧∃ vn' vf',LdS w0 g gm (incV (visV n) ak s nm) vn' vf' w'∧LdF g gm vn vf w vn' vf' w':=by
 obtain rfl:=hn.eq
 obtain rfl:=ha.eq
 have H:=Lib.hid h0
 have HV:=Lib.hid hV
 have HL:=Lib.hid hl
 obtain ⟨s1,hs1⟩:∃ s1,Hid (needV nm ak s=s1):=⟨_,rfl⟩
 have HZ:Hid (Sz s1 m):=by unfold Hid;rw [← hs1.out];exact hz.need _ _
 have H6:=Lib.hid h6
 obtain ⟨⟨T,k⟩,hT⟩:∃ V,Hid (getV s1 nm=V):=⟨_,rfl⟩
 have HX:Hid (incV (visV n) ak s nm=if k=0 then visV n nm s1 else if k=1 then failV 9 ak 0 s1 else s1):=by
  unfold Hid incV;rw [hs1.out,hT.out]
 clear h0 hV hn ha hz h6 hl
 go_enter Tryz.func64,Tryz.ntmps64
 go_wp2_with fail
 refine (lneed_any H.out _ nm (Tx.of _) HL.out _ ak (Tx.of _)).mono ?_;rintro e w1 ⟨rfl,h1,h2⟩
 have H1:Hid (LdS w0 g gm s1 vn vf w1):=h1.eq hs1.out
 have HF1:=Lib.hid h2
 clear h1 h2
 obtain ⟨c0,-⟩:=H1.out.cs
 have hlook:=(lookM_any H1.out.mp nm HL.out).1
 rw [show (getM s1.m nm).getD ([],0)=(T,k) from hT.out] at hlook
 change (Instr.lookup 94 (.map (some gm)) (.string ⟨nm.toArray⟩) false).run Tryz.prog w1 = .ok (.agg #[.string ⟨T.toArray⟩,.int .i64 (k:Int)]) w1 at hlook
 have hfld:=(src_field ⟨T.toArray⟩ (k:Int) w1).2
 by_cases hk0:k=0
 ·have b0:((k:Int) == 0)=true:=by rw [hk0];rfl
  have HE:Hid (incV (visV n) ak s nm=visV n nm s1):=by unfold Hid;rw [HX.out,if_pos hk0]
  clear hk0 HX
  go_wp2_with fail
  refine (HV.out w1 s1 vn vf H1.out _ nm (Tx.of _) HL.out m HZ.out H6.out).mono ?_;rintro e w2 ⟨rfl,vn2,vf2,h1,h2⟩
  go_wp2_with fail
  go_end0
  exact ⟨rfl,vn2,vf2,h1.eq HE.out.symm,HF1.out.trans h2⟩
 ·have b0:((k:Int) == 0)=false:=by rw [beq_eq_false_iff_ne];omega
  by_cases hk1:k=1
  ·have b1:((k:Int) == 1)=true:=by rw [hk1];rfl
   have HE:Hid (incV (visV n) ak s nm=failV 9 ak 0 s1):=by unfold Hid;rw [HX.out,if_neg hk0,if_pos hk1]
   clear hk0 hk1 HX
   go_wp2_with fail
   refine (lfail_any H1.out 9 _ ak (Tx.of _) 0).mono ?_;rintro e w2 ⟨rfl,h1,h2⟩
   go_wp2_with fail
   go_end0
   exact ⟨rfl,vn,vf,h1.eq HE.out.symm,HF1.out.trans h2⟩
  ·have b1:((k:Int) == 1)=false:=by rw [beq_eq_false_iff_ne];omega
   have HE:Hid (incV (visV n) ak s nm=s1):=by unfold Hid;rw [HX.out,if_neg hk0,if_neg hk1]
   clear hk0 hk1 HX
   go_wp2_with fail
   go_end0
   exact ⟨rfl,vn,vf,H1.out.eq HE.out.symm,HF1.out⟩
set_option maxRecDepth 100000 in
set_option maxHeartbeats 6400000 in
theorem lvis_step {n:Nat} (hn6:n≤5) (hV:VisC w0 g gm n) (ht:TabK w0) (hm:MaxC w0) (hkw:1 < w0.heap.size):VisC w0 g gm (n+1):=by
 intro w s vn vf h0 sn nm hn hl m hz h6
 obtain rfl:=hn.eq
 have H:=Lib.hid h0
 have HV:=Lib.hid hV
 have HT:=Lib.hid ht
 have HM:=Lib.hid hm
 have HKW:=Lib.hid hkw
 have HL:=Lib.hid hl
 have HZ:=Lib.hid hz
 have H6:=Lib.hid h6
 obtain ⟨⟨T,k⟩,hT⟩:∃ V,Hid (getV s nm=V):=⟨_,rfl⟩
 obtain ⟨⟨F,pe,pa⟩,hP⟩:∃ V,Hid (parseF T=V):=⟨_,rfl⟩
 obtain ⟨c0,c1,c2,c3,c4,c5⟩:=h0.cs
 have hnI:((n:Int)+1 == 0)=false:=by rw [beq_eq_false_iff_ne];omega
 have hnN:((n+1:Nat):Int)=(n:Int)+1:=by omega
 rw [hnN]
 by_cases he:s.e=0
 ·have b0:((s.e:Int) != 0)=false:=by rw [he];rfl
  have HX:Hid (visV (n+1) nm s=addV nm F (setV nm (T,2) (F.incs.foldl (incV (visV n) nm) (preV nm s)))):=by
   unfold Hid
   show (if s.e≠0 then s else _)=_
   rw [if_neg (by omega),hT.out]
   dsimp only
   rw [hP.out]
  have hlook:=(lookM_any h0.mp nm hl).1
  rw [show (getM s.m nm).getD ([],0)=(T,k) from hT.out] at hlook
  change (Instr.lookup 94 (.map (some gm)) (.string ⟨nm.toArray⟩) false).run Tryz.prog w = .ok (.agg #[.string ⟨T.toArray⟩,.int .i64 (k:Int)]) w at hlook
  have hfld:=(src_field ⟨T.toArray⟩ (k:Int) w).1
  have hTl:T.length≤140737488355328:=by
   have:getV s nm=(T,k):=hT.out
   unfold getV at this
   obtain ⟨es,c,-,-,ho⟩:=h0.mp
   cases hg:getM s.m nm with
   | none=>rw [hg] at this;cases this;exact Nat.zero_le _
   | some v=>rw [hg] at this;cases this;exact (ho.2 _ (getM_mem hg)).2.1
  have HTL:=Lib.hid hTl
  obtain ⟨w1,hrun,hs1,hf1⟩:=h0.setM nm (T,1) hl hTl (by omega)
  change (Instr.mapUpdate 94 (.map (some gm)) (.string ⟨nm.toArray⟩) (.agg #[.string ⟨T.toArray⟩,.int .i64 1])).run Tryz.prog w = .ok () w1 at hrun
  have HS1:=Lib.hid hs1
  have HF1:=Lib.hid hf1
  clear h0 hV hn hl hz h6 ht hm hkw he hTl hs1 hf1
  go_enter Tryz.func33,Tryz.ntmps33
  have HPC:Hid (Calls Tryz.prog 12 #[.string ⟨T.toArray⟩] w1 fun e w'=>∃ x,e = .returned (.tuple #[.agg (filA x),.int .i64 (pe:Int),.int .i64 (pa:Int)])∧RFile w' (Fm w1.heap.size) x F∧Nx w1 w'):=by
   have:=fparse_any w1 ⟨T.toArray⟩ T (Tx.of _) (by have:=HTL.out;omega) (HT.out.nx HS1.out.nx) (HM.out.nx HS1.out.nx) (Nat.lt_of_lt_of_le HKW.out HS1.out.nx.size)
   rw [hP.out] at this
   exact this
  go_wp2_with fail
  refine HPC.out.mono ?_;rintro e w2 ⟨⟨xi,xs,xd⟩,rfl,hr,hn2⟩
  obtain ⟨iA,ic,xl,rfl,-,-,-,hrd,hall⟩:=hr.1.sl strA_size
  obtain ⟨sA,sc,-,rfl,-,-,-,-,-⟩:=hr.2.1.sl spcA_size
  obtain ⟨dA,dc,-,rfl,-,-,-,-,-⟩:=hr.2.2.sl dfnA_size
  rw [show filA ⟨.slice iA F.incs.length ic,.slice sA F.spaces.length sc,.slice dA F.defs.length dc⟩=#[.slice iA F.incs.length ic,.slice sA F.spaces.length sc,.slice dA F.defs.length dc] from rfl]
  obtain ⟨g7,hg7⟩:∃ g,w2.heap.size=g:=⟨_,rfl⟩
  have HHR:=Lib.hid hr
  have HRD:=Lib.hid hrd
  obtain rfl:xl=F.incs:=List.ext_getElem hall.len (fun i h1 h2=>hall.at_ i h1 h2)
  have HN2:=Lib.hid hn2
  have HS2:=Lib.hid (HS1.out.next hn2)
  have HFR7:=Lib.hid (HS2.out.fresh (k:=g7) (Nat.le_of_eq hg7))
  have hB7:=Blk.new w2 #[.slice iA F.incs.length ic,.slice sA F.spaces.length sc,.slice dA F.defs.length dc] 33
  rw [hg7] at hB7
  have HB7:=Lib.hid hB7
  have HN3:Hid (Nx w2 (w2.alloc (.cells #[.slice iA F.incs.length ic,.slice sA F.spaces.length sc,.slice dA F.defs.length dc] 33))):=nx0 _ _
  clear hr hrd hall hn2 hB7 hrun hlook hfld c0 c1 c2 c3 c4 c5
  go_upto_region 4 with (fail)
  generalize World.alloc w2 _=w3 at *
  clear hg7
  have HS3:=Lib.hid (HS2.out.next HN3.out)
  have HB3:=HB7
  obtain ⟨s2,hs2⟩:∃ s2,Hid ((if pe≠0 then failV pe nm pa (setV nm (T,1) s) else setV nm (T,1) s)=s2):=⟨_,rfl⟩
  have HPRE:Hid (preV nm s=s2):=by
   unfold Hid preV;dsimp only;rw [hT.out];dsimp only;rw [hP.out];exact hs2.out
  rw [HPRE.out] at HX
  have HZ2:Hid (Sz s2 m):=by unfold Hid;rw [← HPRE.out];exact HZ.out.pre nm
  have HI5:Hid (IncOk F.incs):=by have:=parse_inc T;rw [hP.out] at this;exact this
  go_upto_if 42 with (fail)
  go_cut [] (fun wx=>LdS w0 g gm s2 vn vf wx∧LdF g gm vn vf w3 vn vf wx)
  case first =>
   by_cases hpe:pe=0
   ·have b3:((pe:Int) != 0)=false:=by rw [hpe];rfl
    have hx:=hs2.out
    rw [if_neg (by omega)] at hx
    clear hpe
    go_wp2_with fail
    go_meet
    case rel=>exact ⟨HS3.out.eq hx,LdF.refl _ _ _ _ _⟩
   ·have b3:((pe:Int) != 0)=true:=by rw [bne_iff_ne];omega
    have hx:=hs2.out
    rw [if_pos hpe] at hx
    clear hpe
    go_wp2_with fail
    refine (lfail_any HS3.out pe _ nm (Tx.of _) pa).mono ?_;rintro e w4 ⟨rfl,h1,h2⟩
    go_wp2_with fail
    go_meet
    case rel=>exact ⟨h1.eq hx,h2⟩
  case rest =>
  obtain ⟨hsc,hfc⟩:=hcut
  have HBC:=Lib.hid (hfc.blk HB3.out HFR7.out.1 HFR7.out.2.1 HFR7.out.2.2.1 HFR7.out.2.2.2)
  have HSC:=Lib.hid hsc
  have HFC:=Lib.hid hfc
  clear hsc hfc HPC
  have d0:wc.cell? ⟨g7,0,none⟩=some (.slice iA F.incs.length ic):=HBC.out.cell 0
  go_wp2_with fail
  go_loopw [51] (fun v wr=>∃ i:Nat,v = .int .i64 i∧i≤F.incs.length∧∃ vn' vf',LdS w0 g gm ((F.incs.take i).foldl (incV (visV n) nm) s2) vn' vf' wr∧LdF g gm vn vf w3 vn' vf' wr) (fun v _=>(F.incs.length - intOf v).toNat)
  case atStart=>exact ⟨0,rfl,Nat.zero_le _,vn,vf,HSC.out,HFC.out⟩
  case round =>
   obtain ⟨i,rfl,hi,vn1,vf1,hsr,hfr⟩:=hrel
   have HSR:=Lib.hid hsr
   have HFR:=Lib.hid hfr
   clear hsr hfr d0
   by_cases hlt:i<F.incs.length
   ·obtain ⟨g8,rfl,hg8,hc8⟩:=HRD.out (by omega)
    obtain ⟨y,hy⟩:∃ y,F.incs[i]=y:=⟨_,rfl⟩
    have e8:w2.cell? ⟨g8,i,none⟩=some (.string ⟨y.toArray⟩):=by
     have:=hc8 i hlt 0 (by decide)
     rw [hy,show i * 1+0=i by omega] at this
     exact this
    have hp8:=HHR.out.1.own_lt g8 rfl
    have hf8:=HS1.out.fresh (k:=g8) hp8.1
    have e9:wr.cell? ⟨g8,i,none⟩=some (.string ⟨y.toArray⟩):=by
     rw [← e8]
     exact World.cell?_of_block ((HFR.out.block g8 (Nat.lt_of_lt_of_le hp8.2 HN3.out.size) hf8.1 hf8.2.1 hf8.2.2.1 hf8.2.2.2).trans (HN3.out.block g8 hp8.2))
    have hly:y.length≤40:=HI5.out.2 y (by rw [← hy];exact List.getElem_mem hlt)
    have HLY:Hid (y.length≤8000):=Nat.le_trans hly (by decide)
    have HSZ:Hid (Sz ((F.incs.take i).foldl (incV (visV n) nm) s2) (m+i * 6 ^ n)):=by
     have:=Sz.incs (Sz.vis n) nm (F.incs.take i) HZ2.out
     rw [List.length_take_of_le hi] at this
     exact this
    have HSB:Hid (m+i * 6 ^ n+6 ^ n≤90000):=by
     have h1:=H6.out
     have h2:=HI5.out.1
     have h3:(i+1) * 6 ^ n≤6 * 6 ^ n:=Nat.mul_le_mul_right _ (by omega)
     have h4:6 ^ (n+1)=6 * 6 ^ n:=by rw [Nat.pow_succ,Nat.mul_comm]
     have h5:(i+1) * 6 ^ n=i * 6 ^ n+6 ^ n:=Nat.succ_mul _ _
     unfold Hid;omega
    have HFO:Hid ((F.incs.take (i+1)).foldl (incV (visV n) nm) s2=incV (visV n) nm ((F.incs.take i).foldl (incV (visV n) nm) s2) y):=by unfold Hid;rw [foldl_take _ _ _ hlt,hy]
    have hn1:(n:Int)+1 - 1=(n:Int):=by omega
    have hiI:(i:Int)≤5:=by have:=HI5.out.1;omega
    clear hc8 hy e8 hp8 hf8 hly hg8
    go_wp2_with fail
    refine (linc_any HV.out HSR.out _ y (Tx.of _) HLY.out _ nm (Tx.of _) _ HSZ.out HSB.out).mono ?_;rintro e w5 ⟨rfl,vn2,vf2,h1,h2⟩
    have H1:Hid (LdS w0 g gm ((F.incs.take (i+1)).foldl (incV (visV n) nm) s2) vn2 vf2 w5):=h1.eq HFO.out.symm
    have H2:=Lib.hid (HFR.out.trans h2)
    clear h1 h2 e9
    go_wp2_with fail
    go_roundw
    case rel=>exact ⟨i+1,by go_num,hlt,vn2,vf2,H1.out,H2.out⟩
    case measure=>simp [intOf];omega
   ·obtain rfl:i=F.incs.length:=by omega
    rw [List.take_of_length_le (Nat.le_refl _)] at HSR
    obtain ⟨s3,hs3⟩:∃ s3,F.incs.foldl (incV (visV n) nm) s2=s3:=⟨_,rfl⟩
    have HSZ:Hid (Sz s3 89999):=by
     have:=Sz.incs (Sz.vis n) nm F.incs HZ2.out
     rw [hs3] at this
     refine this.mono ?_
     have h1:=H6.out
     have h2:=HI5.out.1
     have h3:F.incs.length * 6 ^ n≤5 * 6 ^ n:=Nat.mul_le_mul_right _ (by omega)
     have h4:6 ^ (n+1)=6 * 6 ^ n:=by rw [Nat.pow_succ,Nat.mul_comm]
     have h5:0<6 ^ n:=Nat.pow_pos (by decide)
     omega
    rw [hs3] at HSR HX
    clear hs3 hlt hi HSC HFC
    obtain ⟨nA,nc,-,rfl,-,-,-,-,-⟩:=HSR.out.nm.sl strA_size
    obtain ⟨fA,fc,-,rfl,-,-,-,-,-⟩:=HSR.out.fl.sl (show ∀ x,(filA x).size=3 from fun _=>rfl)
    obtain ⟨c0,-⟩:=HSR.out.cs
    obtain ⟨w6,hrun,hs6,hf6⟩:=HSR.out.setM nm (T,2) HL.out HTL.out (by omega)
    change (Instr.mapUpdate 94 (.map (some gm)) (.string ⟨nm.toArray⟩) (.agg #[.string ⟨T.toArray⟩,.int .i64 2])).run Tryz.prog wr = .ok () w6 at hrun
    have HS6:=Lib.hid hs6
    have HF6:=Lib.hid (HFR.out.trans hf6)
    clear hs6 hf6
    go_wp2_with fail
    clear hrun c0
    have L1:∀ x:Gr w6,x.1.cell? ⟨g,1,none⟩=some (.slice nA s3.names.length nc):=fun x=>(HS6.out.next x.2).cs.2.1
    refine EH.wp_region_hyb [9,13] [(1,1),(2,1),(3,1),(4,1),(5,1),(6,1),(0,2),(7,0),(8,0),(9,0),(10,2),(11,2),(12,2),(13,0)] rfl (by kernel_rfl) ?_
    iterate 6 (refine EH.hyb_calm rfl (fun K hK=>?_);go_simp;refine hK _ ?_;clear hK K)
    refine EH.hyb_pure rfl (fun K hK=>?_);go_simp;refine hK _ ?_;clear hK K
    clear L1
    refine EH.hyb_alone rfl (fun w7 hn7 K hK=>?_)
    go_simp
    refine (clone_any w7 _ nm (Tx.of _) (by have:=HL.out;omega)).mono ?_;rintro e w8 ⟨rfl,hn8⟩
    refine hK _ _ (.inr hn8) ?_
    clear hK K
    refine EH.hyb_alone rfl (fun w9 hn9 K hK=>?_)
    go_simp
    refine hK _ _ (.inr (nx0 _ _)) ?_
    clear hK K
    obtain ⟨g9,hg9⟩:∃ g,w9.heap.size=g:=⟨_,rfl⟩
    have hb9:=Blk.new w9 #[.string ⟨nm.toArray⟩] 9
    rw [hg9] at hb9 ⊢
    have hn10:Nx w6 (w9.alloc (.cells #[.string ⟨nm.toArray⟩] 9)):=(hn7.trans (hn8.trans hn9)).trans (nx0 _ _)
    generalize World.alloc w9 _=w10 at *
    refine EH.hyb_alone rfl (fun w11 hn11 K hK=>?_)
    refine EH.ite_intro rfl ?_
    have HN11:Hid (Nx w6 w11):=hn10.trans hn11
    have hs11:=HS6.out.next HN11.out
    refine op_appP w11 REq.lasts infoI Tryz.underlying29 rfl (by decide) (by decide) strA_size _ _ rfl (Pl w0.heap.size g gm (.slice fA s3.files.length fc)) _ _ nm nm rfl hs11.nm (fun u hu=>by simp [strA] at hu;subst hu;rfl) g9 rfl (fun j hj=>(hb9.below hn11).cell j) rfl (by have:=HSZ.out.1;show ((s3.names.length:Nat):Int)≤100000;omega) (fun j hj=>⟨Nat.le_trans hs11.nx.size hj,(hs11.fresh hj).1,(hs11.fresh hj).2.1,(hs11.fresh hj).2.2.2⟩) ?_
    intro v12 w12 hr12 hg12
    refine hK _ _ (.inl (by simp)) ?_
    clear hK K
    obtain ⟨nA2,nc2,-,hv12,-,-,-,-,-⟩:=hr12.sl strA_size
    obtain rfl:v12 = .slice nA2 (s3.names.length+1) nc2:=by rw [hv12,List.length_append];rfl
    clear hv12
    iterate 3 (refine EH.hyb_pure rfl (fun K hK=>?_);go_simp;refine hK _ ?_;clear hK K)
    refine EH.hyb_alone rfl (fun w13 hn13 K hK=>?_)
    have hg13:Gx (.slice nA s3.names.length nc) w11 (.slice nA2 (s3.names.length+1) nc2) w13:=hg12.trans (Gx.nx hn13 _)
    have hr13:=hr12.mv REq.lasts (w':=w13) (Q:=Pl w0.heap.size g gm (.slice fA s3.files.length fc)) ⟨fun k _ hl=>hn13.block k hl,fun k hp _=>hp⟩
    obtain ⟨hs14,hf14⟩:=HS6.out.addN HN11.out hr13 hg13
    have hb13:=hg13.blkL hs11
    have c13:w13.cell? ⟨g,1,none⟩=some (.slice nA s3.names.length nc):=hb13.cell 1
    have f13:=hb13.free 1
    go_simp
    refine hK _ _ (.inl (by simp)) ?_
    clear hK K
    refine EH.hyb_nil (fun w15 hn15=>?_)
    have HS15:=Lib.hid (hs14.next hn15)
    have HF15:=Lib.hid ((HF6.out.trans hf14).trans (LdF.nx hn15 _ _))
    have HZ15:Hid ((s3.files.length:Int)≤100000):=by have:=HSZ.out.2;unfold Hid;omega
    clear hb13 c13 f13 hs14 hf14 hr13 hg13 hr12 hg12 hs11 HN11 hn10 hb9 hn15 hn13 hn11 hn9 hn8 hn7 HSR HFR HS6 HF6 hg9
    have HB15:=Lib.hid (HF15.out.blk HB3.out HFR7.out.1 HFR7.out.2.1 HFR7.out.2.2.1 HFR7.out.2.2.2)
    go_upto_region 13 with (fail)
    have L1:∀ x:Gr w15,x.1.cell? ⟨g,2,none⟩=some (.slice fA s3.files.length fc):=fun x=>(HS15.out.next x.2).cs.2.2.1
    have L2:∀ x:Gr w15,x.1.cell? ⟨g7,0,none⟩=some (.slice iA F.incs.length ic):=fun x=>(HB15.out.below x.2).cell 0
    have L3:∀ x:Gr w15,x.1.cell? ⟨g7,1,none⟩=some (.slice sA F.spaces.length sc):=fun x=>(HB15.out.below x.2).cell 1
    have L4:∀ x:Gr w15,x.1.cell? ⟨g7,2,none⟩=some (.slice dA F.defs.length dc):=fun x=>(HB15.out.below x.2).cell 2
    refine EH.wp_region_hyb [8,12] [(1,1),(2,1),(3,1),(4,1),(5,1),(6,1),(0,2),(7,0),(8,0),(9,2),(10,2),(11,2),(12,0)] rfl (by kernel_rfl) ?_
    iterate 6 (refine EH.hyb_calm rfl (fun K hK=>?_);go_simp;refine hK _ ?_;clear hK K)
    refine EH.hyb_pure rfl (fun K hK=>?_);go_simp;refine hK _ ?_;clear hK K
    clear L1 L2 L3 L4
    refine EH.hyb_alone rfl (fun w9 hn9 K hK=>?_)
    go_simp
    refine hK _ _ (.inr (nx0 _ _)) ?_
    clear hK K
    obtain ⟨g9,hg9⟩:∃ g,w9.heap.size=g:=⟨_,rfl⟩
    have hb9:=Blk.new w9 #[.slice iA F.incs.length ic,.slice sA F.spaces.length sc,.slice dA F.defs.length dc] 33
    rw [hg9] at hb9 ⊢
    have hn10:Nx w15 (w9.alloc (.cells #[.slice iA F.incs.length ic,.slice sA F.spaces.length sc,.slice dA F.defs.length dc] 33)):=hn9.trans (nx0 _ _)
    generalize World.alloc w9 _=w10 at *
    refine EH.hyb_alone rfl (fun w11 hn11 K hK=>?_)
    refine EH.ite_intro rfl ?_
    have HN11:Hid (Nx w15 w11):=hn10.trans hn11
    have hs11:=HS15.out.next HN11.out
    have hrf:RFile w11 (But (Pl w0.heap.size g gm (.slice nA2 (s3.names.length+1) nc2)) (.slice fA s3.files.length fc)) ⟨.slice iA F.incs.length ic,.slice sA F.spaces.length sc,.slice dA F.defs.length dc⟩ F:=by
     have hf:=HF15.out.trans (LdF.nx HN11.out (.slice nA2 (s3.names.length+1) nc2) (.slice fA s3.files.length fc))
     refine RFile.lasts ⟨fun k hp hl=>?_,fun k hp hl=>?_⟩ HHR.out
     ·have h8:=HS1.out.fresh (k:=k) hp
      exact (hf.block k (Nat.lt_of_lt_of_le hl HN3.out.size) h8.1 h8.2.1 h8.2.2.1 h8.2.2.2).trans (HN3.out.block k hl)
     ·have h8:=HS1.out.fresh (k:=k) hp
      have h9:k<w3.heap.size:=Nat.lt_of_lt_of_le hl HN3.out.size
      exact ⟨⟨Nat.le_trans HS1.out.nx.size hp,h8.1,h8.2.1,fun e=>(hf.ownn k e).elim h8.2.2.1 (by omega)⟩,fun e=>(hf.ownf k e).elim h8.2.2.2 (by omega)⟩
    refine op_appP w11 RFile.lasts infoU Tryz.underlying24 rfl (by decide) (by decide) (fun _=>rfl) _ _ rfl (Pl w0.heap.size g gm (.slice nA2 (s3.names.length+1) nc2)) _ _ ⟨.slice iA F.incs.length ic,.slice sA F.spaces.length sc,.slice dA F.defs.length dc⟩ F rfl hs11.fl (fun u hu=>by simp [filA] at hu;rcases hu with rfl | rfl | rfl <;> rfl) g9 rfl (fun j hj=>(hb9.below hn11).cell j) hrf HZ15.out (fun j hj=>⟨Nat.le_trans hs11.nx.size hj,(hs11.fresh hj).1,(hs11.fresh hj).2.1,(hs11.fresh hj).2.2.1⟩) ?_
    intro v12 w12 hr12 hg12
    refine hK _ _ (.inl (by simp)) ?_
    clear hK K
    obtain ⟨fA2,fc2,-,hv12,-,-,-,-,-⟩:=hr12.sl (show ∀ x,(filA x).size=3 from fun _=>rfl)
    obtain rfl:v12 = .slice fA2 (s3.files.length+1) fc2:=by rw [hv12,List.length_append];rfl
    clear hv12
    iterate 3 (refine EH.hyb_pure rfl (fun K hK=>?_);go_simp;refine hK _ ?_;clear hK K)
    refine EH.hyb_alone rfl (fun w13 hn13 K hK=>?_)
    have hg13:Gx (.slice fA s3.files.length fc) w11 (.slice fA2 (s3.files.length+1) fc2) w13:=hg12.trans (Gx.nx hn13 _)
    have hr13:=hr12.mv RFile.lasts (w':=w13) (Q:=Pl w0.heap.size g gm (.slice nA2 (s3.names.length+1) nc2)) ⟨fun k _ hl=>hn13.block k hl,fun k hp _=>hp⟩
    obtain ⟨hs14,hf14⟩:=HS15.out.addF HN11.out hr13 hg13
    have hb13:=hg13.blkF hs11
    have c13:w13.cell? ⟨g,2,none⟩=some (.slice fA s3.files.length fc):=hb13.cell 2
    have f13:=hb13.free 2
    go_simp
    refine hK _ _ (.inl (by simp)) ?_
    clear hK K
    refine EH.hyb_nil (fun w16 hn16=>?_)
    have HS16:=Lib.hid (hs14.next hn16)
    have HF16:=Lib.hid ((HF15.out.trans hf14).trans (LdF.nx hn16 _ _))
    go_wp2_with fail
    go_end0
    refine ⟨rfl,_,_,HS16.out.eq ?_,(((HF1.out.trans (LdF.nx HN2.out _ _)).trans (LdF.nx HN3.out _ _)).trans HF16.out)⟩
    rw [HX.out]
    rfl
 ·have b0:((s.e:Int) != 0)=true:=by rw [bne_iff_ne];omega
  have HX:Hid (visV (n+1) nm s=s):=by
   unfold Hid
   show (if s.e≠0 then s else _)=_
   rw [if_pos he]
  clear h0 hV hn hl hz h6 ht hm hkw he
  go_enter Tryz.func33,Tryz.ntmps33
  go_wp2_with fail
  refine bodyPost_ret (results_noneB rfl _ _) rfl ?_
  exact ⟨rfl,vn,vf,H.out.eq HX.out.symm,LdF.refl _ _ _ _ _⟩
end
end Go.Proofs.YtpbjkgpdkopgmaaGreatDoor
namespace Go.Proofs.YtpbjkgpdkopgmaaGreatDoor
open Go.RowKit
structure OutV where
 names:List (List UInt8)
 files:List Fil
 e:Nat
 file:List UInt8
 at_:Nat
def outV (root:List UInt8) (l:List (List UInt8×List UInt8)):OutV :=
 if (endV root l).e=0 then ⟨(endV root l).names,(endV root l).files,0,[],0⟩ else ⟨[],[],(endV root l).e,(endV root l).file,(endV root l).at_⟩
section
variable {w0 w w':World} {g gm:Nat} {s s':LdV} {vn vf vn' vf':Value}
set_option maxRecDepth 100000 in
set_option maxHeartbeats 1600000 in
theorem lvis_zero:VisC w0 g gm 0:=by
 intro w s vn vf h0 sn nm hn hl m hz h6
 have H:=Lib.hid h0
 obtain ⟨c0,c1,c2,c3,c4,c5⟩:=h0.cs
 have hcast:((0:Nat):Int)=0:=rfl
 rw [hcast]
 have HX:Hid (visV 0 nm s=s):=rfl
 obtain ⟨B,hB⟩:∃ B,((s.e:Int) != 0)=B:=⟨_,rfl⟩
 clear h0 hn hl hz h6 hcast
 go_enter Tryz.func33,Tryz.ntmps33
 cases B
 ·go_wp2_with fail
  first | go_end0 | refine bodyPost_ret (results_noneB rfl _ _) rfl ?_
  exact ⟨rfl,vn,vf,H.out.eq HX.out.symm,LdF.refl _ _ _ _ _⟩
 ·go_wp2_with fail
  first | go_end0 | refine bodyPost_ret (results_noneB rfl _ _) rfl ?_
  exact ⟨rfl,vn,vf,H.out.eq HX.out.symm,LdF.refl _ _ _ _ _⟩
theorem lvis_any (ht:TabK w0) (hm:MaxC w0) (hkw:1 < w0.heap.size):∀ n,n≤6→VisC w0 g gm n
 | 0,_=>lvis_zero
 | n+1,h=>lvis_step (by omega) (lvis_any ht hm hkw n (by omega)) ht hm hkw
theorem putM_len:∀ (m:MapV) (k:List UInt8) (v:List UInt8×Nat),(putM m k v).length≤m.length+1
 | [],_,_=>by simp [putM]
 | y :: r,k,v=>by
  unfold putM
  split
  ·simp
  ·simp only [List.length_cons];have:=putM_len r k v;omega
theorem fail_m (e:Nat) (f:List UInt8) (a:Nat) (s:LdV):(failV e f a s).m=s.m:=by unfold failV;split <;> rfl
theorem need_m (n a:List UInt8) (s:LdV):(needV n a s).m=s.m:=by unfold needV;split;rfl;exact fail_m _ _ _ _
theorem take2_m:∀ (l:List (List UInt8×List UInt8)) (s:LdV),(l.foldl take2 s).m=s.m
 | [],_=>rfl
 | x :: r,s=>by rw [List.foldl_cons,take2_m r];unfold take2;split;rfl;exact fail_m _ _ _ _
theorem take1_m:∀ (l:List (List UInt8×List UInt8)) (s:LdV),(l.foldl take1 s).m.length≤s.m.length+l.length
 | [],_=>Nat.le_refl _
 | x :: r,s=>by
  rw [List.foldl_cons]
  have h1:=take1_m r (take1 s x)
  have h2:(take1 s x).m.length≤s.m.length+1:=by
   show (putM _ _ _).length≤_
   refine Nat.le_trans (putM_len _ _ _) ?_
   split
   ·rw [fail_m];exact Nat.le_refl _
   ·exact Nat.le_refl _
  simp only [List.length_cons];omega
theorem beg_m (root:List UInt8) (l:List (List UInt8×List UInt8)):(begV root l).m.length≤l.length:=by
 unfold begV takeV
 rw [need_m,take2_m]
 have:=take1_m l (if 5<l.length then failV 4 [] 0 ld0 else ld0)
 have h0:(if 5<l.length then failV 4 [] 0 ld0 else ld0).m=[]:=by split;rw [fail_m];rfl;rfl
 rw [h0] at this
 simpa using this
theorem fail_nf (e:Nat) (f:List UInt8) (a:Nat) (s:LdV):(failV e f a s).names=s.names∧(failV e f a s).files=s.files:=by unfold failV;split <;> exact ⟨rfl,rfl⟩
theorem beg_nf (root:List UInt8) (l:List (List UInt8×List UInt8)):(begV root l).names=[]∧(begV root l).files=[]:=by
 have h1:∀ n a s,(needV n a s).names=s.names∧(needV n a s).files=s.files:=fun n a s=>by unfold needV;split;exact ⟨rfl,rfl⟩;exact fail_nf _ _ _ _
 have h2:∀ (l:List (List UInt8×List UInt8)) (s:LdV),(l.foldl take2 s).names=s.names∧(l.foldl take2 s).files=s.files:=fun l=>by
  induction l with
  | nil=>exact fun s=>⟨rfl,rfl⟩
  | cons x r ih =>
   intro s
   rw [List.foldl_cons,(ih _).1,(ih _).2]
   unfold take2;split;exact ⟨rfl,rfl⟩;exact fail_nf _ _ _ _
 have h3:∀ (l:List (List UInt8×List UInt8)) (s:LdV),(l.foldl take1 s).names=s.names∧(l.foldl take1 s).files=s.files:=fun l=>by
  induction l with
  | nil=>exact fun s=>⟨rfl,rfl⟩
  | cons x r ih =>
   intro s
   rw [List.foldl_cons,(ih _).1,(ih _).2]
   show (LdV.names (if _ then _ else _))=_∧(LdV.files (if _ then _ else _))=_
   split;exact fail_nf _ _ _ _;exact ⟨rfl,rfl⟩
 unfold begV takeV
 rw [(h1 _ _ _).1,(h1 _ _ _).2,(h2 _ _).1,(h2 _ _).2,(h3 _ _).1,(h3 _ _).2]
 split;exact fail_nf _ _ _ _;exact ⟨rfl,rfl⟩
theorem RdQ.nx {w w':World} {A:Option Addr} {xs:List (List UInt8×List UInt8)} (h:RdQ w A xs) (n:Nx w w'):RdQ w' A xs:=fun h0=>by
 obtain ⟨g,o,e,hg,hc⟩:=h h0
 exact ⟨g,o,e,Nat.lt_of_lt_of_le hg n.size,fun i hi=>⟨(n.cell (p:=⟨g,o+i * 2,none⟩) hg).trans (hc i hi).1,(n.cell (p:=⟨g,o+i * 2+1,none⟩) hg).trans (hc i hi).2⟩⟩
theorem nx_same2 {w:World} {B g:Nat} {v u:Value} {T:TypeId} (h:Blk w B g #[v,u] T):Nx w ((w.setCell ⟨g,0,none⟩ v).setCell ⟨g,1,none⟩ u):=by
 refine ⟨rfl,rfl,rfl,by simp [World.setCell],fun k hk=>?_⟩
 by_cases e:k=g
 ·subst e
  rw [((h.put 0 v).put 1 u).2,h.2]
  rfl
 ·simp only [World.setCell]
  rw [Array.getElem?_modify,if_neg (fun e'=>e e'.symm),Array.getElem?_modify,if_neg (fun e'=>e e'.symm)]
theorem results_cell_tmp3_row {P:Program} {fn:Func} {p u1 u2 u3:Tmp} {ty:TypeId} (h:fn.results=#[.cell p ty,.tmp u1,.tmp u2,.tmp u3]) (tmps:Array Value) (w:World) (g:Nat) (t:TypeId) (cs:Array Value) (fr:Nat×Nat) (d:TypeDesc)
  (hp:tmps.getD p undef = .pointer (some ⟨g,0,none⟩)) (hg:w.heap[g]? = some (.cells cs t fr))
  (hu:P.underlying ty=some d) (hd:(match d with | .struct _ | .array _ _=>true | _=>false)=true) (hi:(P.info? ty).map (·.size)=some cs.size) :
  (results fn tmps).run P w = .ok (.tuple #[.agg cs,tmps.getD u1 undef,tmps.getD u2 undef,tmps.getD u3 undef]) w:=by
 have hp':tmps[p]?.getD undef = .pointer (some ⟨g,0,none⟩):=by simpa using hp
 simp [results,h,hp',asAddr,run_loadVar_row w g t ty cs fr d hg hu hd hi]
theorem wrapNat (n:Nat) (h:n≤1000):IntKind.i64.wrap (n:Int)=(n:Int):=by simp [IntKind.wrap,IntKind.bits,IntKind.signed];omega
set_option maxRecDepth 100000 in
set_option maxHeartbeats 6400000 in
theorem lload_any (w:World) (sr:ByteArray) (root:List UInt8) (hr:Tx sr root) (hrl:root.length≤8000) (A:Option Addr) (n c:Nat) (xs:List (List UInt8×List UInt8)) (hn:xs.length=n) (hrd:RdQ w A xs) (hok:SrcOk xs) (hn6:n≤6)
  (ht:TabK w) (hm:MaxC w) (hkw:1 < w.heap.size) :
  Calls Tryz.prog 15 #[.agg #[.string sr,.slice A n c]] w fun e w'=>∃ vn vf,e = .returned (.tuple #[.agg #[vn,vf],.int .i64 ((outV root xs).e:Int),.string ⟨(outV root xs).file.toArray⟩,.int .i64 ((outV root xs).at_:Int)]) ∧
   RepL strA 1 9 (REq (α:=List UInt8)) w' (Fm w.heap.size) vn (outV root xs).names∧RepL filA 3 33 RFile w' (Fm w.heap.size) vf (outV root xs).files∧Nx w w':=by
 obtain rfl:=hr.eq
 have HRD:=Lib.hid hrd
 have HOK:=Lib.hid hok
 have HN:=Lib.hid hn
 have HT:=Lib.hid ht
 have HM:=Lib.hid hm
 have HKW:=Lib.hid hkw
 have HRL:=Lib.hid hrl
 have HN6:=Lib.hid hn6
 clear hrd hok hn ht hm hkw hr hrl hn6
 go_enter Tryz.func15,Tryz.ntmps15
 go_upto_region 1 with (fail)
 obtain ⟨gb,hgb⟩:∃ g,w.heap.size=g:=⟨_,rfl⟩
 obtain ⟨gr,hgr⟩:∃ g,gb+1=g:=⟨_,rfl⟩
 rw [hgb,hgr]
 obtain ⟨w1,hw1⟩:∃ w1,(w.alloc (.cells #[.string ⟨root.toArray⟩,.slice A n c] 41)).alloc (.cells #[.slice none 0 0,.slice none 0 0] 45)=w1:=⟨_,rfl⟩
 have HB1:Hid (Blk w1 gb gb #[.string ⟨root.toArray⟩,.slice A n c] 41):=by
  unfold Hid;rw [← hw1,← hgb];exact (Blk.new w _ _).alloc _
 have HBR:Hid (Blk w1 gb gr #[.slice none 0 0,.slice none 0 0] 45):=by
  unfold Hid;rw [← hw1,← hgr,← hgb,show w.heap.size+1=(w.alloc (.cells #[.string ⟨root.toArray⟩,.slice A n c] 41)).heap.size from by simp]
  exact (Blk.new (w.alloc (.cells #[.string ⟨root.toArray⟩,.slice A n c] 41)) _ _).less (by simp)
 have HN1:Hid (Nx w w1):=by unfold Hid;rw [← hw1];exact Nx.al (nx0 w _) _
 rw [hw1]
 clear hw1
 obtain ⟨gm,hgm⟩:∃ g,w1.heap.size=g:=⟨_,rfl⟩
 obtain ⟨g,hg⟩:∃ g,gm+1=g:=⟨_,rfl⟩
 have hmm:=@run_makeMap Tryz.prog
 go_upto_region 2 with (fail)
 obtain ⟨w2,hw2⟩:∃ w2,(w1.alloc (.map #[] 0)).alloc (.cells #[.map (some gm),.slice none 0 0,.slice none 0 0,.int .i64 0,.string ⟨#[]⟩,.int .i64 0] 96)=w2:=⟨_,rfl⟩
 have HS2:Hid (LdS w1 g gm ld0 (.slice none 0 0) (.slice none 0 0) w2):=by
  have e1:(w1.alloc (.map #[] 0)).heap.size=g:=by rw [← hg,← hgm];simp
  have hb:=Blk.new (w1.alloc (.map #[] 0)) #[.map (some gm),.slice none 0 0,.slice none 0 0,.int .i64 0,.string ⟨#[]⟩,.int .i64 0] 96
  have hm0:=Mp.nil_ w1
  rw [e1] at hb
  rw [hgm] at hm0
  unfold Hid;rw [← hw2]
  exact ⟨Nx.al (nx0 w1 _) _,hb.less (by omega),hm0.keep ((nx0 _ _:Nx _ _).block _ (by simp;omega)),by omega,by omega,RepL.nil_,RepL.nil_⟩
 rw [hw2]
 clear hw2 hgm hg hmm
 have HNN:=Lib.hid hgb
 clear hgb hgr
 have b1:w2.cell? ⟨gb,1,none⟩=some (.slice A n c):=(HB1.out.below HS2.out.nx).cell 1
 go_wp2_with fail
 refine (ltake_any HS2.out A n c xs HN.out (HRD.out.nx HN1.out) HOK.out (by have:=HN6.out;omega) (HT.out.nx HN1.out) (HM.out.nx HN1.out)).mono ?_;rintro e w3 ⟨rfl,hs3,-⟩
 have HS3:=Lib.hid hs3
 clear hs3 b1
 have b0:w3.cell? ⟨gb,0,none⟩=some (.string ⟨root.toArray⟩):=(HB1.out.below HS3.out.nx).cell 0
 go_wp2_with fail
 refine (lneed_any HS3.out _ root (Tx.of _) HRL.out _ root (Tx.of _)).mono ?_;rintro e w4 ⟨rfl,hs4,-⟩
 obtain ⟨s4,hs4e⟩:∃ s4,Hid (begV root xs=s4):=⟨_,rfl⟩
 have HS4:Hid (LdS w1 g gm s4 (.slice none 0 0) (.slice none 0 0) w4):=hs4.eq hs4e.out
 clear hs4 b0
 have b0:w4.cell? ⟨gb,0,none⟩=some (.string ⟨root.toArray⟩):=(HB1.out.below HS4.out.nx).cell 0
 obtain ⟨c0,-⟩:=HS4.out.cs
 obtain ⟨M,hM⟩:∃ M,s4.m.length=M:=⟨_,rfl⟩
 have HM6:Hid (M≤6):=by
  have:=beg_m root xs
  rw [hs4e.out,hM,HN.out] at this
  exact Nat.le_trans this HN6.out
 have hlen:(Builtin.len_ #[94] 3 #[.map (some gm)]).run Tryz.prog w4 = .ok (.int .i64 (M:Int)) w4:=by
  obtain ⟨es,cc,hes,hsz⟩:=HS4.out.mp.len
  rw [hM] at hsz
  simp [Builtin.len_,run_underlying Tryz.underlying94,MapKept.run_getObj_map hes,hsz,Result.andThen]
  have hw:=wrapNat M (by have:=HM6.out;omega)
  simp [goInt,hw]
 have HMM:=Lib.hid hM
 clear hM
 go_wp2_with fail
 have HSZ:Hid (Sz s4 0):=by
  unfold Hid;rw [← hs4e.out]
  have:=beg_nf root xs
  exact ⟨by rw [this.1];exact Nat.le_refl _,by rw [this.2];exact Nat.le_refl _⟩
 refine (lvis_any (HT.out.nx HN1.out) (HM.out.nx HN1.out) (Nat.lt_of_lt_of_le HKW.out HN1.out.size) M HM6.out w4 s4 _ _ HS4.out _ root (Tx.of _) HRL.out 0 HSZ.out (by
  have:6 ^ M≤6 ^ 6:=Nat.pow_le_pow_right (by decide) HM6.out
  exact Nat.le_trans (by omega:0+6 ^ M≤6 ^ 6) (by decide))).mono ?_
 rintro e w5 ⟨rfl,vn,vf,hs5,hf5⟩
 obtain ⟨s5,hs5e⟩:∃ s5,visV M root s4=s5:=⟨_,rfl⟩
 rw [hs5e] at hs5
 obtain ⟨nA,nc,-,rfl,-,-,-,-,-⟩:=hs5.nm.sl strA_size
 obtain ⟨fA,fc,-,rfl,-,-,-,-,-⟩:=hs5.fl.sl (show ∀ x,(filA x).size=3 from fun _=>rfl)
 have HE5:Hid (endV root xs=s5):=by unfold Hid endV;rw [hs4e.out,HMM.out];exact hs5e
 have HS5:=Lib.hid hs5
 have HR5:=Lib.hid (HBR.out.below hs5.nx)
 have HGR:Hid (gr<w1.heap.size):=HBR.out.lt
 obtain ⟨c0,c1,c2,c3,c4,c5⟩:=hs5.cs
 clear hs5 hf5 hs5e hlen b0
 by_cases he:s5.e=0
 ·have t0:((s5.e:Int) != 0)=false:=by rw [he];rfl
  have HX:Hid (outV root xs=⟨s5.names,s5.files,0,[],0⟩):=by unfold Hid outV;rw [HE5.out,if_pos he]
  clear he c0
  have r0:w5.cell? ⟨gr,0,none⟩=some (.slice none 0 0):=HR5.out.cell 0
  have r1:w5.cell? ⟨gr,1,none⟩=some (.slice none 0 0):=HR5.out.cell 1
  have f0:=HR5.out.free 0
  have f1:=HR5.out.free 1
  go_wp2_with fail
  refine bodyPost_ret (results_cell_tmp3_row rfl _ _ gr _ _ _ _ rfl ((HR5.out.put 0 (.slice nA s5.names.length nc)).put 1 (.slice fA s5.files.length fc)).2 Tryz.underlying45 rfl (by kernel_rfl)) rfl ?_
  rw [HX.out]
  have hm5:∀ v,Mv (Pl w1.heap.size g gm v) (Fm w.heap.size) w5 ((w5.setCell ⟨gr,0,none⟩ (.slice nA s5.names.length nc)).setCell ⟨gr,1,none⟩ (.slice fA s5.files.length fc)):=fun v=>⟨fun k hp hl=>by
   have h1:=hp.1
   have h2:=HGR.out
   simp only [World.setCell]
   rw [Array.getElem?_modify,if_neg (by show ¬ gr=k;omega),Array.getElem?_modify,if_neg (by show ¬ gr=k;omega)],fun k hp hl=>Nat.le_trans HN1.out.size hp.1⟩
  refine ⟨_,_,rfl,HS5.out.nm.mv REq.lasts (hm5 _),HS5.out.fl.mv RFile.lasts (hm5 _),Nx.put' (Nx.put' (HN1.out.trans HS5.out.nx) (by rw [HNN.out];exact HBR.out.1) _ _) (by rw [HNN.out];exact HBR.out.1) _ _⟩
 ·have t0:((s5.e:Int) != 0)=true:=by rw [bne_iff_ne];omega
  have HX:Hid (outV root xs=⟨[],[],s5.e,s5.file,s5.at_⟩):=by unfold Hid outV;rw [HE5.out,if_neg he]
  have HFL:Hid (s5.file.length≤140737488355328):=by
   have:=Fo.end_ root xs HRL.out (fun x hx=>(HOK.out x hx).1)
   rw [HE5.out] at this
   exact Nat.le_trans this (by decide)
  clear he c0 c1 c2 c4 c5
  go_upto_region 6 with (fail)
  have L3:∀ x:Gr w5,x.1.cell? ⟨g,3,none⟩=some (.int .i64 (s5.e:Int)):=fun x=>(HS5.out.next x.2).cs.2.2.2.1
  have L4:∀ x:Gr w5,x.1.cell? ⟨g,4,none⟩=some (.string ⟨s5.file.toArray⟩):=fun x=>(HS5.out.next x.2).cs.2.2.2.2.1
  have L5:∀ x:Gr w5,x.1.cell? ⟨g,5,none⟩=some (.int .i64 (s5.at_:Int)):=fun x=>(HS5.out.next x.2).cs.2.2.2.2.2
  refine EH.wp_region_hyb [] [(0,2),(1,2),(2,1),(3,2),(4,1),(6,2),(7,1),(5,0),(8,0),(9,2),(10,2),(11,2)] rfl (by kernel_rfl) ?_
  iterate 2 (refine EH.hyb_pure rfl (fun K hK=>?_);go_simp;refine hK _ ?_;clear hK K)
  refine EH.hyb_calm rfl (fun K hK=>?_);go_simp;refine hK _ ?_;clear hK K
  refine EH.hyb_pure rfl (fun K hK=>?_);go_simp;refine hK _ ?_;clear hK K
  refine EH.hyb_calm rfl (fun K hK=>?_);go_simp;refine hK _ ?_;clear hK K
  refine EH.hyb_pure rfl (fun K hK=>?_);go_simp;refine hK _ ?_;clear hK K
  refine EH.hyb_calm rfl (fun K hK=>?_);go_simp;refine hK _ ?_;clear hK K
  clear L3 L4 L5
  refine EH.hyb_alone rfl (fun w7 hn7 K hK=>?_)
  go_simp
  refine (clone_any w7 _ s5.file (Tx.of _) HFL.out).mono ?_;rintro e w8 ⟨rfl,hn8⟩
  refine hK _ _ (.inr hn8) ?_
  clear hK K
  refine EH.hyb_alone rfl (fun w9 hn9 K hK=>?_)
  have HN9:Hid (Nx w5 w9):=hn7.trans (hn8.trans hn9)
  have hb9:=HR5.out.below HN9.out
  have r0:w9.cell? ⟨gr,0,none⟩=some (.slice none 0 0):=hb9.cell 0
  have r1:w9.cell? ⟨gr,1,none⟩=some (.slice none 0 0):=hb9.cell 1
  have f0:=hb9.free 0
  have f1:=hb9.free 1
  go_simp
  have HN10:=Lib.hid (HN9.out.trans (nx_same2 hb9))
  refine hK _ _ (.inr (nx_same2 hb9)) ?_
  clear hK K r0 r1 f0 f1
  generalize World.setCell _ _ _=w10 at *
  iterate 3 (refine EH.hyb_pure rfl (fun K hK=>?_);go_simp;refine hK _ ?_;clear hK K)
  refine EH.hyb_nil (fun w11 hn11=>?_)
  have HN11:=Lib.hid (HN10.out.trans hn11)
  go_wp2_with fail
  refine bodyPost_ret (results_cell_tmp3_row rfl _ _ gr _ _ _ _ rfl (HR5.out.below HN11.out).2 Tryz.underlying45 rfl (by kernel_rfl)) rfl ?_
  rw [HX.out]
  exact ⟨_,_,rfl,RepL.nil_,RepL.nil_,HN1.out.trans (HS5.out.nx.trans HN11.out)⟩
end
end Go.Proofs.YtpbjkgpdkopgmaaGreatDoor
namespace Go.Proofs.YtpbjkgpdkopgmaaGreatDoor
def resV (root:List UInt8) (l:List (List UInt8×List UInt8)):Nat×List UInt8×Nat:=((endV root l).e,(endV root l).file,(endV root l).at_)
theorem bf_0:resV [97] []=(15,[97],0):=by decide +kernel
theorem bf_1:resV [97] [([97],[105,110,99,108,117,100,101,32,39,98,39]),([98],[115,116,114,117,99,116,32,65,32,123]),([99],[])]=(2,[98],10):=by decide +kernel
theorem bf_2:resV [99] [([97],[105,110,99,108,117,100,101,32,39,98,39]),([98],[115,116,114,117,99,116,32,65,32,123]),([99],[])]=(0,[],0):=by decide +kernel
theorem bf_3:resV [97] [([97],[]),([97],[])]=(8,[97],0):=by decide +kernel
theorem bf_4:resV [97] [([97],[]),([98,46,99],[])]=(2,[98,46,99],0):=by decide +kernel
theorem bf_5:resV [97] [([97],[105,110,99,108,117,100,101,32,39,97,39])]=(9,[97],0):=by decide +kernel
theorem bf_6:resV [97] [([97],[105,110,99,108,117,100,101,32,39,122,39])]=(15,[97],0):=by decide +kernel
theorem bf_7:resV [97] [([97],[105,110,99,108,117,100,101,32,39,98,39]),([98],[105,110,99,108,117,100,101,32,39,97,39])]=(9,[98],0):=by decide +kernel
theorem bf_8:resV [] [([97],[])]=(15,[],0):=by decide +kernel
theorem bf_9:resV [97] [([97],[]),([98],[]),([99],[]),([100],[]),([101],[]),([102],[])]=(4,[],0):=by decide +kernel
theorem bf_10:resV [97] [([97],[]),([115,116,114,117,99,116],[])]=(2,[115,116,114,117,99,116],0):=by decide +kernel
theorem bf_a:resV [97] [([97],[105,110,99,108,117,100,101,32,39,98,39]),([98],[])]=(0,[],0):=by decide +kernel
theorem bf_n:(endV [97] [([97],[105,110,99,108,117,100,101,32,39,98,39]),([98],[])]).names=[[98],[97]]∧(endV [97] [([97],[105,110,99,108,117,100,101,32,39,98,39]),([98],[])]).files=[⟨[],[],[]⟩,⟨[[98]],[],[]⟩]:=by constructor <;> rfl
theorem bf_x:resV [120] []=(15,[120],0):=by decide +kernel
end Go.Proofs.YtpbjkgpdkopgmaaGreatDoor
