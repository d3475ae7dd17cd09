/- The contract of dec's taking a number's text apart. -/
import Derived.Test.YteclejplbphkpaaGreatG07
import Derived.Test.YteclejplbphkpaaGreatG01
import Derived.Laws.Rows
import Derived.Laws.ResultCell
set_option linter.unusedVariables false
set_option linter.unusedSimpArgs false
set_option linter.unnecessarySimpa false
namespace Go.Proofs.YteclejplbphkpaaGreat
open Go.RowKit
theorem cutStop_any (s:ByteArray) (l:List UInt8) (w:World) (hl:Tx s l) :
  Calls Tryz.prog 71 #[.string s,.string ⟨#[46]⟩] w fun e w'=>∃ t:ByteArray,e = .returned (.tuple #[.string t,.bool (stopS l).1])∧Hid (Tx t (stopS l).2)∧w'=w:=by
 refine (Tryz.strings_CutPrefix s ⟨#[46]⟩ w).mono ?_
 rintro e w' ⟨rfl,rfl⟩
 have h:s.data.toList=l:=hl
 have:=stop_cut l
 rw [h,show (⟨#[46]⟩:ByteArray).data.toList=[46] from rfl,this.1,this.2]
 exact ⟨_,rfl,Tx.of _,rfl⟩
set_option maxRecDepth 100000 in
set_option maxHeartbeats 3200000 in
theorem takeApart_any (s:ByteArray) (l:List UInt8) (w:World) (hl:Tx s l) (hs:(l.length:Int)≤8000) :
  Calls Tryz.prog 77 #[.string s] w fun e w'=>∃ (sg:Int) (wv fv:ByteArray) (ev:Int) (ok:Bool),e = .returned (.tuple #[.agg #[.int .u64 sg,.string wv,.string fv,.int .i64 ev],.bool ok])∧Hid (TakeD l sg wv fv ev ok)∧Nx w w':=by
 have HL:=Lib.hid hl
 obtain ⟨neg,HNEG⟩:∃ b,Hid ((signS l).1=b):=⟨_,rfl⟩
 obtain ⟨r1,HR1⟩:∃ b,Hid ((signS l).2=b):=⟨_,rfl⟩
 obtain ⟨W,HW⟩:∃ b,Hid ((spanD r1).1=b):=⟨_,rfl⟩
 obtain ⟨r2,HR2⟩:∃ b,Hid ((spanD r1).2=b):=⟨_,rfl⟩
 obtain ⟨stop,HST⟩:∃ b,Hid ((stopS r2).1=b):=⟨_,rfl⟩
 obtain ⟨r3,HR3⟩:∃ b,Hid ((stopS r2).2=b):=⟨_,rfl⟩
 obtain ⟨F,HF⟩:∃ b,Hid ((spanD r3).1=b):=⟨_,rfl⟩
 obtain ⟨r4,HR4⟩:∃ b,Hid ((spanD r3).2=b):=⟨_,rfl⟩
 have l1:r1.length≤l.length:=by rw [← HR1.out];exact signS_len l
 have l2:r2.length≤r1.length:=by have:=spanD_len r1;rw [HW.out,HR2.out] at this;omega
 have l3:r3.length≤r2.length:=by rw [← HR3.out];exact stopS_len r2
 have l4:r4.length≤r3.length:=by have:=spanD_len r3;rw [HF.out,HR4.out] at this;omega
 have htd:∀ sg wv fv ev ok,TakeD l sg wv fv ev ok↔(if (if stop then F else [])=[]∧(stop=true∨W=[]) then ok=false
   else sg=(if neg then 9223372036854775808 else 0)∧Tx wv W∧Tx fv (if stop then F else []) ∧
    if (if stop then r4 else r3)=[] then ev=0∧ok=true
    else ev=(expD (if stop then r4 else r3)).1∧ok=(expD (if stop then r4 else r3)).2):=by
  intro sg wv fv ev ok
  unfold TakeD
  rw [HNEG.out,HR1.out,HW.out,HR2.out,HST.out,HR3.out,HF.out,HR4.out]
 have HTD:=Lib.hid htd
 clear hl htd
 obtain ⟨g,hg⟩:∃ g,w.heap.size=g:=⟨_,rfl⟩
 cases neg
 ·cases stop
  ·cases W with
   | nil =>
    go_enter Tryz.func77,Tryz.ntmps77
    go_wp2_with fail
    have hN0:Nx w (w.alloc (Obj.cells #[.int .u64 0,.string ⟨#[]⟩,.string ⟨#[]⟩,.int .i64 0] 120)):=nx0 _ _
    have hB0:Blk (w.alloc (Obj.cells #[.int .u64 0,.string ⟨#[]⟩,.string ⟨#[]⟩,.int .i64 0] 120)) g g #[.int .u64 0,.string ⟨#[]⟩,.string ⟨#[]⟩,.int .i64 0] 120:=by rw [← hg];exact Blk.new w _ _
    refine (cutSign_any s l _ HL.out (by omega)).mono ?_;rintro e w1 ⟨t1,rfl,HT1,hw1⟩
    rw [HNEG.out]
    rw [HR1.out] at HT1
    have hB1:=hB0.below hw1
    have hN1:=Nx.trans hN0 hw1
    go_wp2_with fail
    refine (cutDigits_any t1 r1 _ HT1.out (by omega)).mono ?_;rintro e w2 ⟨t2,t3,rfl,HT2,HT3,hw2⟩
    rw [HW.out] at HT2
    rw [HR2.out] at HT3
    have hB2:=hB1.below hw2
    have hN2:=Nx.trans hN1 hw2
    have d1:w2.cell? ⟨g,1,none⟩=some (.string ⟨#[]⟩):=hB2.cell 1
    have f1:=hB2.free 1
    go_wp2_with fail
    have hB2:=hB2.put 1 (.string t2)
    have hN2:=hN2.put' (g:=g) (by omega) 1 (.string t2)
    generalize hW3:w2.setCell ⟨g,1,none⟩ (.string t2)=w3 at *
    clear d1 f1
    refine (cutStop_any t3 r2 _ HT3.out).mono ?_;rintro e w' ⟨t4,rfl,HT4,hw'⟩
    rw [HST.out,hw']
    rw [HR3.out] at HT4
    have c1:w3.cell? ⟨g,1,none⟩=some (.string t2):=hB2.cell 1
    have c2:w3.cell? ⟨g,2,none⟩=some (.string ⟨#[]⟩):=hB2.cell 2
    have c3:w3.cell? ⟨g,3,none⟩=some (.int .i64 0):=hB2.cell 3
    have f3:=hB2.free 3
    have c0:w3.cell? ⟨g,0,none⟩=some (.int .u64 0):=hB2.cell 0
    have f0:=hB2.free 0
    have f1:=hB2.free 1
    have f2:=hB2.free 2
    have z1:=HT2.out.toL
    have z2:=HT4.out.toL
    go_wp2_with fail
    have hB9:=(((hB2.put 0 (.int .u64 0)).put 1 (.string t2)).put 2 (.string ⟨#[]⟩)).put 3 (.int .i64 0)
    have hN9:=(((hN2.put' (g:=g) (by omega) 0 (.int .u64 0)).put' (g:=g) (by omega) 1 (.string t2)).put' (g:=g) (by omega) 2 (.string ⟨#[]⟩)).put' (g:=g) (by omega) 3 (.int .i64 0)
    try simp only [Exit.inBlock,Exit.then]
    refine bodyPost_ret (results_cell_tmp_row rfl _ _ g _ _ _ _ rfl hB9.2 Tryz.underlying120 rfl (by kernel_rfl)) rfl ?_
    refine ⟨_,_,_,_,_,rfl,?_,hN9⟩
    unfold Hid
    rw [HTD.out]
    simp
   | cons c5 m5 =>
    cases r3 with
    | nil =>
     go_enter Tryz.func77,Tryz.ntmps77
     go_wp2_with fail
     have hN0:Nx w (w.alloc (Obj.cells #[.int .u64 0,.string ⟨#[]⟩,.string ⟨#[]⟩,.int .i64 0] 120)):=nx0 _ _
     have hB0:Blk (w.alloc (Obj.cells #[.int .u64 0,.string ⟨#[]⟩,.string ⟨#[]⟩,.int .i64 0] 120)) g g #[.int .u64 0,.string ⟨#[]⟩,.string ⟨#[]⟩,.int .i64 0] 120:=by rw [← hg];exact Blk.new w _ _
     refine (cutSign_any s l _ HL.out (by omega)).mono ?_;rintro e w1 ⟨t1,rfl,HT1,hw1⟩
     rw [HNEG.out]
     rw [HR1.out] at HT1
     have hB1:=hB0.below hw1
     have hN1:=Nx.trans hN0 hw1
     go_wp2_with fail
     refine (cutDigits_any t1 r1 _ HT1.out (by omega)).mono ?_;rintro e w2 ⟨t2,t3,rfl,HT2,HT3,hw2⟩
     rw [HW.out] at HT2
     rw [HR2.out] at HT3
     have hB2:=hB1.below hw2
     have hN2:=Nx.trans hN1 hw2
     have d1:w2.cell? ⟨g,1,none⟩=some (.string ⟨#[]⟩):=hB2.cell 1
     have f1:=hB2.free 1
     go_wp2_with fail
     have hB2:=hB2.put 1 (.string t2)
     have hN2:=hN2.put' (g:=g) (by omega) 1 (.string t2)
     generalize hW3:w2.setCell ⟨g,1,none⟩ (.string t2)=w3 at *
     clear d1 f1
     refine (cutStop_any t3 r2 _ HT3.out).mono ?_;rintro e w' ⟨t4,rfl,HT4,hw'⟩
     rw [HST.out,hw']
     rw [HR3.out] at HT4
     have c1:w3.cell? ⟨g,1,none⟩=some (.string t2):=hB2.cell 1
     have c2:w3.cell? ⟨g,2,none⟩=some (.string ⟨#[]⟩):=hB2.cell 2
     have c3:w3.cell? ⟨g,3,none⟩=some (.int .i64 0):=hB2.cell 3
     have f3:=hB2.free 3
     have c0:w3.cell? ⟨g,0,none⟩=some (.int .u64 0):=hB2.cell 0
     have f0:=hB2.free 0
     have f1:=hB2.free 1
     have f2:=hB2.free 2
     have z1:=HT2.out.toL
     have z2:=HT4.out.toL
     go_wp2_with fail
     have hB9:=(((hB2.put 0 (.int .u64 0)).put 1 (.string t2)).put 2 (.string ⟨#[]⟩)).put 3 (.int .i64 0)
     have hN9:=(((hN2.put' (g:=g) (by omega) 0 (.int .u64 0)).put' (g:=g) (by omega) 1 (.string t2)).put' (g:=g) (by omega) 2 (.string ⟨#[]⟩)).put' (g:=g) (by omega) 3 (.int .i64 0)
     try simp only [Exit.inBlock,Exit.then]
     refine bodyPost_ret (results_cell_tmp_row rfl _ _ g _ _ _ _ rfl hB9.2 Tryz.underlying120 rfl (by kernel_rfl)) rfl ?_
     refine ⟨_,_,_,_,_,rfl,?_,hN9⟩
     unfold Hid
     rw [HTD.out]
     exact (if_neg (by simp)).mpr ⟨by simp,HT2.out,(show Tx ⟨#[]⟩ [] from rfl),by simp⟩
    | cons c4 m4 =>
     go_enter Tryz.func77,Tryz.ntmps77
     go_wp2_with fail
     have hN0:Nx w (w.alloc (Obj.cells #[.int .u64 0,.string ⟨#[]⟩,.string ⟨#[]⟩,.int .i64 0] 120)):=nx0 _ _
     have hB0:Blk (w.alloc (Obj.cells #[.int .u64 0,.string ⟨#[]⟩,.string ⟨#[]⟩,.int .i64 0] 120)) g g #[.int .u64 0,.string ⟨#[]⟩,.string ⟨#[]⟩,.int .i64 0] 120:=by rw [← hg];exact Blk.new w _ _
     refine (cutSign_any s l _ HL.out (by omega)).mono ?_;rintro e w1 ⟨t1,rfl,HT1,hw1⟩
     rw [HNEG.out]
     rw [HR1.out] at HT1
     have hB1:=hB0.below hw1
     have hN1:=Nx.trans hN0 hw1
     go_wp2_with fail
     refine (cutDigits_any t1 r1 _ HT1.out (by omega)).mono ?_;rintro e w2 ⟨t2,t3,rfl,HT2,HT3,hw2⟩
     rw [HW.out] at HT2
     rw [HR2.out] at HT3
     have hB2:=hB1.below hw2
     have hN2:=Nx.trans hN1 hw2
     have d1:w2.cell? ⟨g,1,none⟩=some (.string ⟨#[]⟩):=hB2.cell 1
     have f1:=hB2.free 1
     go_wp2_with fail
     have hB2:=hB2.put 1 (.string t2)
     have hN2:=hN2.put' (g:=g) (by omega) 1 (.string t2)
     generalize hW3:w2.setCell ⟨g,1,none⟩ (.string t2)=w3 at *
     clear d1 f1
     refine (cutStop_any t3 r2 _ HT3.out).mono ?_;rintro e w' ⟨t4,rfl,HT4,hw'⟩
     rw [HST.out,hw']
     rw [HR3.out] at HT4
     have c1:w3.cell? ⟨g,1,none⟩=some (.string t2):=hB2.cell 1
     have c2:w3.cell? ⟨g,2,none⟩=some (.string ⟨#[]⟩):=hB2.cell 2
     have c3:w3.cell? ⟨g,3,none⟩=some (.int .i64 0):=hB2.cell 3
     have f3:=hB2.free 3
     have c0:w3.cell? ⟨g,0,none⟩=some (.int .u64 0):=hB2.cell 0
     have f0:=hB2.free 0
     have f1:=hB2.free 1
     have f2:=hB2.free 2
     have z1:=HT2.out.toL
     have z2:=HT4.out.toL
     go_wp2_with fail
     refine (exponent_any t4 c4 m4 _ HT4.out (by simp at l1 l2 l3 l4 ⊢;omega)).mono ?_;rintro e w6 ⟨rfl,hw6⟩
     have hB6:=hB2.below hw6
     have hN6:=Nx.trans hN2 hw6
     clear c0 c1 c2 c3 f0 f1 f2 f3
     have c3:w6.cell? ⟨g,3,none⟩=some (.int .i64 0):=hB6.cell 3
     have f3:=hB6.free 3
     obtain ⟨X,HX⟩:∃ X,Hid (expD (c4 :: m4)=X):=⟨_,rfl⟩
     rw [HX.out]
     obtain ⟨X1,X2⟩:=X
     have hB7:=hB6.put 3 (.int .i64 X1)
     have k0:(w6.setCell ⟨g,3,none⟩ (.int .i64 X1)).cell? ⟨g,0,none⟩=some (.int .u64 0):=hB7.cell 0
     have k1:(w6.setCell ⟨g,3,none⟩ (.int .i64 X1)).cell? ⟨g,1,none⟩=some (.string t2):=hB7.cell 1
     have k2:(w6.setCell ⟨g,3,none⟩ (.int .i64 X1)).cell? ⟨g,2,none⟩=some (.string ⟨#[]⟩):=hB7.cell 2
     have k3:(w6.setCell ⟨g,3,none⟩ (.int .i64 X1)).cell? ⟨g,3,none⟩=some (.int .i64 X1):=hB7.cell 3
     have g0:=hB7.free 0
     have g1:=hB7.free 1
     have g2:=hB7.free 2
     have g3:=hB7.free 3
     go_wp2_with fail
     have hN7:=hN6.put' (g:=g) (by omega) 3 (.int .i64 X1)
     have hB9:=(((hB7.put 0 (.int .u64 0)).put 1 (.string t2)).put 2 (.string ⟨#[]⟩)).put 3 (.int .i64 X1)
     have hN9:=(((hN7.put' (g:=g) (by omega) 0 (.int .u64 0)).put' (g:=g) (by omega) 1 (.string t2)).put' (g:=g) (by omega) 2 (.string ⟨#[]⟩)).put' (g:=g) (by omega) 3 (.int .i64 X1)
     try simp only [Exit.inBlock,Exit.then]
     refine bodyPost_ret (results_cell_tmp_row rfl _ _ g _ _ _ _ rfl hB9.2 Tryz.underlying120 rfl (by kernel_rfl)) rfl ?_
     refine ⟨_,_,_,_,_,rfl,?_,hN9⟩
     unfold Hid
     rw [HTD.out]
     refine (if_neg (by simp)).mpr ⟨by simp,HT2.out,(show Tx ⟨#[]⟩ [] from rfl),?_⟩
     simp [HX.out]
  ·cases F with
   | nil =>
    go_enter Tryz.func77,Tryz.ntmps77
    go_wp2_with fail
    have hN0:Nx w (w.alloc (Obj.cells #[.int .u64 0,.string ⟨#[]⟩,.string ⟨#[]⟩,.int .i64 0] 120)):=nx0 _ _
    have hB0:Blk (w.alloc (Obj.cells #[.int .u64 0,.string ⟨#[]⟩,.string ⟨#[]⟩,.int .i64 0] 120)) g g #[.int .u64 0,.string ⟨#[]⟩,.string ⟨#[]⟩,.int .i64 0] 120:=by rw [← hg];exact Blk.new w _ _
    refine (cutSign_any s l _ HL.out (by omega)).mono ?_;rintro e w1 ⟨t1,rfl,HT1,hw1⟩
    rw [HNEG.out]
    rw [HR1.out] at HT1
    have hB1:=hB0.below hw1
    have hN1:=Nx.trans hN0 hw1
    go_wp2_with fail
    refine (cutDigits_any t1 r1 _ HT1.out (by omega)).mono ?_;rintro e w2 ⟨t2,t3,rfl,HT2,HT3,hw2⟩
    rw [HW.out] at HT2
    rw [HR2.out] at HT3
    have hB2:=hB1.below hw2
    have hN2:=Nx.trans hN1 hw2
    have d1:w2.cell? ⟨g,1,none⟩=some (.string ⟨#[]⟩):=hB2.cell 1
    have f1:=hB2.free 1
    go_wp2_with fail
    have hB2:=hB2.put 1 (.string t2)
    have hN2:=hN2.put' (g:=g) (by omega) 1 (.string t2)
    generalize hW3:w2.setCell ⟨g,1,none⟩ (.string t2)=w3 at *
    clear d1 f1
    refine (cutStop_any t3 r2 _ HT3.out).mono ?_;rintro e w' ⟨t4,rfl,HT4,hw'⟩
    rw [HST.out,hw']
    rw [HR3.out] at HT4
    have c2:w3.cell? ⟨g,2,none⟩=some (.string ⟨#[]⟩):=hB2.cell 2
    have f2:=hB2.free 2
    go_wp2_with fail
    refine (cutDigits_any t4 r3 _ HT4.out (by omega)).mono ?_;rintro e w4 ⟨t5,t6,rfl,HT5,HT6,hw4⟩
    rw [HF.out] at HT5
    rw [HR4.out] at HT6
    have hB4:=hB2.below hw4
    have hN4:=Nx.trans hN2 hw4
    clear c2 f2
    have d2:w4.cell? ⟨g,2,none⟩=some (.string ⟨#[]⟩):=hB4.cell 2
    have f2:=hB4.free 2
    have hB5:=hB4.put 2 (.string t5)
    have hN5:=hN4.put' (g:=g) (by omega) 2 (.string t5)
    have c1:(w4.setCell ⟨g,2,none⟩ (.string t5)).cell? ⟨g,1,none⟩=some (.string t2):=hB5.cell 1
    have c2:(w4.setCell ⟨g,2,none⟩ (.string t5)).cell? ⟨g,2,none⟩=some (.string t5):=hB5.cell 2
    have c3:(w4.setCell ⟨g,2,none⟩ (.string t5)).cell? ⟨g,3,none⟩=some (.int .i64 0):=hB5.cell 3
    have f3:=hB5.free 3
    have c0:(w4.setCell ⟨g,2,none⟩ (.string t5)).cell? ⟨g,0,none⟩=some (.int .u64 0):=hB5.cell 0
    have f0:=hB5.free 0
    have f1:=hB5.free 1
    have f2:=hB5.free 2
    have z1:=HT5.out.toL
    have z2:=HT6.out.toL
    go_wp2_with fail
    have hB9:=(((hB5.put 0 (.int .u64 0)).put 1 (.string t2)).put 2 (.string t5)).put 3 (.int .i64 0)
    have hN9:=(((hN5.put' (g:=g) (by omega) 0 (.int .u64 0)).put' (g:=g) (by omega) 1 (.string t2)).put' (g:=g) (by omega) 2 (.string t5)).put' (g:=g) (by omega) 3 (.int .i64 0)
    try simp only [Exit.inBlock,Exit.then]
    refine bodyPost_ret (results_cell_tmp_row rfl _ _ g _ _ _ _ rfl hB9.2 Tryz.underlying120 rfl (by kernel_rfl)) rfl ?_
    refine ⟨_,_,_,_,_,rfl,?_,hN9⟩
    unfold Hid
    rw [HTD.out]
    simp
   | cons c5 m5 =>
    cases r4 with
    | nil =>
     go_enter Tryz.func77,Tryz.ntmps77
     go_wp2_with fail
     have hN0:Nx w (w.alloc (Obj.cells #[.int .u64 0,.string ⟨#[]⟩,.string ⟨#[]⟩,.int .i64 0] 120)):=nx0 _ _
     have hB0:Blk (w.alloc (Obj.cells #[.int .u64 0,.string ⟨#[]⟩,.string ⟨#[]⟩,.int .i64 0] 120)) g g #[.int .u64 0,.string ⟨#[]⟩,.string ⟨#[]⟩,.int .i64 0] 120:=by rw [← hg];exact Blk.new w _ _
     refine (cutSign_any s l _ HL.out (by omega)).mono ?_;rintro e w1 ⟨t1,rfl,HT1,hw1⟩
     rw [HNEG.out]
     rw [HR1.out] at HT1
     have hB1:=hB0.below hw1
     have hN1:=Nx.trans hN0 hw1
     go_wp2_with fail
     refine (cutDigits_any t1 r1 _ HT1.out (by omega)).mono ?_;rintro e w2 ⟨t2,t3,rfl,HT2,HT3,hw2⟩
     rw [HW.out] at HT2
     rw [HR2.out] at HT3
     have hB2:=hB1.below hw2
     have hN2:=Nx.trans hN1 hw2
     have d1:w2.cell? ⟨g,1,none⟩=some (.string ⟨#[]⟩):=hB2.cell 1
     have f1:=hB2.free 1
     go_wp2_with fail
     have hB2:=hB2.put 1 (.string t2)
     have hN2:=hN2.put' (g:=g) (by omega) 1 (.string t2)
     generalize hW3:w2.setCell ⟨g,1,none⟩ (.string t2)=w3 at *
     clear d1 f1
     refine (cutStop_any t3 r2 _ HT3.out).mono ?_;rintro e w' ⟨t4,rfl,HT4,hw'⟩
     rw [HST.out,hw']
     rw [HR3.out] at HT4
     have c2:w3.cell? ⟨g,2,none⟩=some (.string ⟨#[]⟩):=hB2.cell 2
     have f2:=hB2.free 2
     go_wp2_with fail
     refine (cutDigits_any t4 r3 _ HT4.out (by omega)).mono ?_;rintro e w4 ⟨t5,t6,rfl,HT5,HT6,hw4⟩
     rw [HF.out] at HT5
     rw [HR4.out] at HT6
     have hB4:=hB2.below hw4
     have hN4:=Nx.trans hN2 hw4
     clear c2 f2
     have d2:w4.cell? ⟨g,2,none⟩=some (.string ⟨#[]⟩):=hB4.cell 2
     have f2:=hB4.free 2
     have hB5:=hB4.put 2 (.string t5)
     have hN5:=hN4.put' (g:=g) (by omega) 2 (.string t5)
     have c1:(w4.setCell ⟨g,2,none⟩ (.string t5)).cell? ⟨g,1,none⟩=some (.string t2):=hB5.cell 1
     have c2:(w4.setCell ⟨g,2,none⟩ (.string t5)).cell? ⟨g,2,none⟩=some (.string t5):=hB5.cell 2
     have c3:(w4.setCell ⟨g,2,none⟩ (.string t5)).cell? ⟨g,3,none⟩=some (.int .i64 0):=hB5.cell 3
     have f3:=hB5.free 3
     have c0:(w4.setCell ⟨g,2,none⟩ (.string t5)).cell? ⟨g,0,none⟩=some (.int .u64 0):=hB5.cell 0
     have f0:=hB5.free 0
     have f1:=hB5.free 1
     have f2:=hB5.free 2
     have z1:=HT5.out.toL
     have z2:=HT6.out.toL
     go_wp2_with fail
     have hB9:=(((hB5.put 0 (.int .u64 0)).put 1 (.string t2)).put 2 (.string t5)).put 3 (.int .i64 0)
     have hN9:=(((hN5.put' (g:=g) (by omega) 0 (.int .u64 0)).put' (g:=g) (by omega) 1 (.string t2)).put' (g:=g) (by omega) 2 (.string t5)).put' (g:=g) (by omega) 3 (.int .i64 0)
     try simp only [Exit.inBlock,Exit.then]
     refine bodyPost_ret (results_cell_tmp_row rfl _ _ g _ _ _ _ rfl hB9.2 Tryz.underlying120 rfl (by kernel_rfl)) rfl ?_
     refine ⟨_,_,_,_,_,rfl,?_,hN9⟩
     unfold Hid
     rw [HTD.out]
     exact (if_neg (by simp)).mpr ⟨by simp,HT2.out,HT5.out,by simp⟩
    | cons c4 m4 =>
     go_enter Tryz.func77,Tryz.ntmps77
     go_wp2_with fail
     have hN0:Nx w (w.alloc (Obj.cells #[.int .u64 0,.string ⟨#[]⟩,.string ⟨#[]⟩,.int .i64 0] 120)):=nx0 _ _
     have hB0:Blk (w.alloc (Obj.cells #[.int .u64 0,.string ⟨#[]⟩,.string ⟨#[]⟩,.int .i64 0] 120)) g g #[.int .u64 0,.string ⟨#[]⟩,.string ⟨#[]⟩,.int .i64 0] 120:=by rw [← hg];exact Blk.new w _ _
     refine (cutSign_any s l _ HL.out (by omega)).mono ?_;rintro e w1 ⟨t1,rfl,HT1,hw1⟩
     rw [HNEG.out]
     rw [HR1.out] at HT1
     have hB1:=hB0.below hw1
     have hN1:=Nx.trans hN0 hw1
     go_wp2_with fail
     refine (cutDigits_any t1 r1 _ HT1.out (by omega)).mono ?_;rintro e w2 ⟨t2,t3,rfl,HT2,HT3,hw2⟩
     rw [HW.out] at HT2
     rw [HR2.out] at HT3
     have hB2:=hB1.below hw2
     have hN2:=Nx.trans hN1 hw2
     have d1:w2.cell? ⟨g,1,none⟩=some (.string ⟨#[]⟩):=hB2.cell 1
     have f1:=hB2.free 1
     go_wp2_with fail
     have hB2:=hB2.put 1 (.string t2)
     have hN2:=hN2.put' (g:=g) (by omega) 1 (.string t2)
     generalize hW3:w2.setCell ⟨g,1,none⟩ (.string t2)=w3 at *
     clear d1 f1
     refine (cutStop_any t3 r2 _ HT3.out).mono ?_;rintro e w' ⟨t4,rfl,HT4,hw'⟩
     rw [HST.out,hw']
     rw [HR3.out] at HT4
     have c2:w3.cell? ⟨g,2,none⟩=some (.string ⟨#[]⟩):=hB2.cell 2
     have f2:=hB2.free 2
     go_wp2_with fail
     refine (cutDigits_any t4 r3 _ HT4.out (by omega)).mono ?_;rintro e w4 ⟨t5,t6,rfl,HT5,HT6,hw4⟩
     rw [HF.out] at HT5
     rw [HR4.out] at HT6
     have hB4:=hB2.below hw4
     have hN4:=Nx.trans hN2 hw4
     clear c2 f2
     have d2:w4.cell? ⟨g,2,none⟩=some (.string ⟨#[]⟩):=hB4.cell 2
     have f2:=hB4.free 2
     have hB5:=hB4.put 2 (.string t5)
     have hN5:=hN4.put' (g:=g) (by omega) 2 (.string t5)
     have c1:(w4.setCell ⟨g,2,none⟩ (.string t5)).cell? ⟨g,1,none⟩=some (.string t2):=hB5.cell 1
     have c2:(w4.setCell ⟨g,2,none⟩ (.string t5)).cell? ⟨g,2,none⟩=some (.string t5):=hB5.cell 2
     have c3:(w4.setCell ⟨g,2,none⟩ (.string t5)).cell? ⟨g,3,none⟩=some (.int .i64 0):=hB5.cell 3
     have f3:=hB5.free 3
     have c0:(w4.setCell ⟨g,2,none⟩ (.string t5)).cell? ⟨g,0,none⟩=some (.int .u64 0):=hB5.cell 0
     have f0:=hB5.free 0
     have f1:=hB5.free 1
     have f2:=hB5.free 2
     have z1:=HT5.out.toL
     have z2:=HT6.out.toL
     go_wp2_with fail
     refine (exponent_any t6 c4 m4 _ HT6.out (by simp at l1 l2 l3 l4 ⊢;omega)).mono ?_;rintro e w6 ⟨rfl,hw6⟩
     have hB6:=hB5.below hw6
     have hN6:=Nx.trans hN5 hw6
     clear c0 c1 c2 c3 f0 f1 f2 f3
     have c3:w6.cell? ⟨g,3,none⟩=some (.int .i64 0):=hB6.cell 3
     have f3:=hB6.free 3
     obtain ⟨X,HX⟩:∃ X,Hid (expD (c4 :: m4)=X):=⟨_,rfl⟩
     rw [HX.out]
     obtain ⟨X1,X2⟩:=X
     have hB7:=hB6.put 3 (.int .i64 X1)
     have k0:(w6.setCell ⟨g,3,none⟩ (.int .i64 X1)).cell? ⟨g,0,none⟩=some (.int .u64 0):=hB7.cell 0
     have k1:(w6.setCell ⟨g,3,none⟩ (.int .i64 X1)).cell? ⟨g,1,none⟩=some (.string t2):=hB7.cell 1
     have k2:(w6.setCell ⟨g,3,none⟩ (.int .i64 X1)).cell? ⟨g,2,none⟩=some (.string t5):=hB7.cell 2
     have k3:(w6.setCell ⟨g,3,none⟩ (.int .i64 X1)).cell? ⟨g,3,none⟩=some (.int .i64 X1):=hB7.cell 3
     have g0:=hB7.free 0
     have g1:=hB7.free 1
     have g2:=hB7.free 2
     have g3:=hB7.free 3
     go_wp2_with fail
     have hN7:=hN6.put' (g:=g) (by omega) 3 (.int .i64 X1)
     have hB9:=(((hB7.put 0 (.int .u64 0)).put 1 (.string t2)).put 2 (.string t5)).put 3 (.int .i64 X1)
     have hN9:=(((hN7.put' (g:=g) (by omega) 0 (.int .u64 0)).put' (g:=g) (by omega) 1 (.string t2)).put' (g:=g) (by omega) 2 (.string t5)).put' (g:=g) (by omega) 3 (.int .i64 X1)
     try simp only [Exit.inBlock,Exit.then]
     refine bodyPost_ret (results_cell_tmp_row rfl _ _ g _ _ _ _ rfl hB9.2 Tryz.underlying120 rfl (by kernel_rfl)) rfl ?_
     refine ⟨_,_,_,_,_,rfl,?_,hN9⟩
     unfold Hid
     rw [HTD.out]
     refine (if_neg (by simp)).mpr ⟨by simp,HT2.out,HT5.out,?_⟩
     simp [HX.out]
 ·cases stop
  ·cases W with
   | nil =>
    go_enter Tryz.func77,Tryz.ntmps77
    go_wp2_with fail
    have hN0:Nx w (w.alloc (Obj.cells #[.int .u64 0,.string ⟨#[]⟩,.string ⟨#[]⟩,.int .i64 0] 120)):=nx0 _ _
    have hB0:Blk (w.alloc (Obj.cells #[.int .u64 0,.string ⟨#[]⟩,.string ⟨#[]⟩,.int .i64 0] 120)) g g #[.int .u64 0,.string ⟨#[]⟩,.string ⟨#[]⟩,.int .i64 0] 120:=by rw [← hg];exact Blk.new w _ _
    refine (cutSign_any s l _ HL.out (by omega)).mono ?_;rintro e w1 ⟨t1,rfl,HT1,hw1⟩
    rw [HNEG.out]
    rw [HR1.out] at HT1
    have hB1:=hB0.below hw1
    have hN1:=Nx.trans hN0 hw1
    have c0:w1.cell? ⟨g,0,none⟩=some (.int .u64 0):=hB1.cell 0
    have f0:=hB1.free 0
    go_wp2_with fail
    have hB1:=hB1.put 0 (.int .u64 9223372036854775808)
    have hN1:=hN1.put' (g:=g) (by omega) 0 (.int .u64 9223372036854775808)
    refine (cutDigits_any t1 r1 _ HT1.out (by omega)).mono ?_;rintro e w2 ⟨t2,t3,rfl,HT2,HT3,hw2⟩
    rw [HW.out] at HT2
    rw [HR2.out] at HT3
    have hB2:=hB1.below hw2
    have hN2:=Nx.trans hN1 hw2
    have d1:w2.cell? ⟨g,1,none⟩=some (.string ⟨#[]⟩):=hB2.cell 1
    have f1:=hB2.free 1
    go_wp2_with fail
    have hB2:=hB2.put 1 (.string t2)
    have hN2:=hN2.put' (g:=g) (by omega) 1 (.string t2)
    generalize hW3:w2.setCell ⟨g,1,none⟩ (.string t2)=w3 at *
    clear d1 f1
    refine (cutStop_any t3 r2 _ HT3.out).mono ?_;rintro e w' ⟨t4,rfl,HT4,hw'⟩
    rw [HST.out,hw']
    rw [HR3.out] at HT4
    have c1:w3.cell? ⟨g,1,none⟩=some (.string t2):=hB2.cell 1
    have c2:w3.cell? ⟨g,2,none⟩=some (.string ⟨#[]⟩):=hB2.cell 2
    have c3:w3.cell? ⟨g,3,none⟩=some (.int .i64 0):=hB2.cell 3
    have f3:=hB2.free 3
    have c0:w3.cell? ⟨g,0,none⟩=some (.int .u64 9223372036854775808):=hB2.cell 0
    have f0:=hB2.free 0
    have f1:=hB2.free 1
    have f2:=hB2.free 2
    have z1:=HT2.out.toL
    have z2:=HT4.out.toL
    go_wp2_with fail
    have hB9:=(((hB2.put 0 (.int .u64 9223372036854775808)).put 1 (.string t2)).put 2 (.string ⟨#[]⟩)).put 3 (.int .i64 0)
    have hN9:=(((hN2.put' (g:=g) (by omega) 0 (.int .u64 9223372036854775808)).put' (g:=g) (by omega) 1 (.string t2)).put' (g:=g) (by omega) 2 (.string ⟨#[]⟩)).put' (g:=g) (by omega) 3 (.int .i64 0)
    try simp only [Exit.inBlock,Exit.then]
    refine bodyPost_ret (results_cell_tmp_row rfl _ _ g _ _ _ _ rfl hB9.2 Tryz.underlying120 rfl (by kernel_rfl)) rfl ?_
    refine ⟨_,_,_,_,_,rfl,?_,hN9⟩
    unfold Hid
    rw [HTD.out]
    simp
   | cons c5 m5 =>
    cases r3 with
    | nil =>
     go_enter Tryz.func77,Tryz.ntmps77
     go_wp2_with fail
     have hN0:Nx w (w.alloc (Obj.cells #[.int .u64 0,.string ⟨#[]⟩,.string ⟨#[]⟩,.int .i64 0] 120)):=nx0 _ _
     have hB0:Blk (w.alloc (Obj.cells #[.int .u64 0,.string ⟨#[]⟩,.string ⟨#[]⟩,.int .i64 0] 120)) g g #[.int .u64 0,.string ⟨#[]⟩,.string ⟨#[]⟩,.int .i64 0] 120:=by rw [← hg];exact Blk.new w _ _
     refine (cutSign_any s l _ HL.out (by omega)).mono ?_;rintro e w1 ⟨t1,rfl,HT1,hw1⟩
     rw [HNEG.out]
     rw [HR1.out] at HT1
     have hB1:=hB0.below hw1
     have hN1:=Nx.trans hN0 hw1
     have c0:w1.cell? ⟨g,0,none⟩=some (.int .u64 0):=hB1.cell 0
     have f0:=hB1.free 0
     go_wp2_with fail
     have hB1:=hB1.put 0 (.int .u64 9223372036854775808)
     have hN1:=hN1.put' (g:=g) (by omega) 0 (.int .u64 9223372036854775808)
     refine (cutDigits_any t1 r1 _ HT1.out (by omega)).mono ?_;rintro e w2 ⟨t2,t3,rfl,HT2,HT3,hw2⟩
     rw [HW.out] at HT2
     rw [HR2.out] at HT3
     have hB2:=hB1.below hw2
     have hN2:=Nx.trans hN1 hw2
     have d1:w2.cell? ⟨g,1,none⟩=some (.string ⟨#[]⟩):=hB2.cell 1
     have f1:=hB2.free 1
     go_wp2_with fail
     have hB2:=hB2.put 1 (.string t2)
     have hN2:=hN2.put' (g:=g) (by omega) 1 (.string t2)
     generalize hW3:w2.setCell ⟨g,1,none⟩ (.string t2)=w3 at *
     clear d1 f1
     refine (cutStop_any t3 r2 _ HT3.out).mono ?_;rintro e w' ⟨t4,rfl,HT4,hw'⟩
     rw [HST.out,hw']
     rw [HR3.out] at HT4
     have c1:w3.cell? ⟨g,1,none⟩=some (.string t2):=hB2.cell 1
     have c2:w3.cell? ⟨g,2,none⟩=some (.string ⟨#[]⟩):=hB2.cell 2
     have c3:w3.cell? ⟨g,3,none⟩=some (.int .i64 0):=hB2.cell 3
     have f3:=hB2.free 3
     have c0:w3.cell? ⟨g,0,none⟩=some (.int .u64 9223372036854775808):=hB2.cell 0
     have f0:=hB2.free 0
     have f1:=hB2.free 1
     have f2:=hB2.free 2
     have z1:=HT2.out.toL
     have z2:=HT4.out.toL
     go_wp2_with fail
     have hB9:=(((hB2.put 0 (.int .u64 9223372036854775808)).put 1 (.string t2)).put 2 (.string ⟨#[]⟩)).put 3 (.int .i64 0)
     have hN9:=(((hN2.put' (g:=g) (by omega) 0 (.int .u64 9223372036854775808)).put' (g:=g) (by omega) 1 (.string t2)).put' (g:=g) (by omega) 2 (.string ⟨#[]⟩)).put' (g:=g) (by omega) 3 (.int .i64 0)
     try simp only [Exit.inBlock,Exit.then]
     refine bodyPost_ret (results_cell_tmp_row rfl _ _ g _ _ _ _ rfl hB9.2 Tryz.underlying120 rfl (by kernel_rfl)) rfl ?_
     refine ⟨_,_,_,_,_,rfl,?_,hN9⟩
     unfold Hid
     rw [HTD.out]
     exact (if_neg (by simp)).mpr ⟨by simp,HT2.out,(show Tx ⟨#[]⟩ [] from rfl),by simp⟩
    | cons c4 m4 =>
     go_enter Tryz.func77,Tryz.ntmps77
     go_wp2_with fail
     have hN0:Nx w (w.alloc (Obj.cells #[.int .u64 0,.string ⟨#[]⟩,.string ⟨#[]⟩,.int .i64 0] 120)):=nx0 _ _
     have hB0:Blk (w.alloc (Obj.cells #[.int .u64 0,.string ⟨#[]⟩,.string ⟨#[]⟩,.int .i64 0] 120)) g g #[.int .u64 0,.string ⟨#[]⟩,.string ⟨#[]⟩,.int .i64 0] 120:=by rw [← hg];exact Blk.new w _ _
     refine (cutSign_any s l _ HL.out (by omega)).mono ?_;rintro e w1 ⟨t1,rfl,HT1,hw1⟩
     rw [HNEG.out]
     rw [HR1.out] at HT1
     have hB1:=hB0.below hw1
     have hN1:=Nx.trans hN0 hw1
     have c0:w1.cell? ⟨g,0,none⟩=some (.int .u64 0):=hB1.cell 0
     have f0:=hB1.free 0
     go_wp2_with fail
     have hB1:=hB1.put 0 (.int .u64 9223372036854775808)
     have hN1:=hN1.put' (g:=g) (by omega) 0 (.int .u64 9223372036854775808)
     refine (cutDigits_any t1 r1 _ HT1.out (by omega)).mono ?_;rintro e w2 ⟨t2,t3,rfl,HT2,HT3,hw2⟩
     rw [HW.out] at HT2
     rw [HR2.out] at HT3
     have hB2:=hB1.below hw2
     have hN2:=Nx.trans hN1 hw2
     have d1:w2.cell? ⟨g,1,none⟩=some (.string ⟨#[]⟩):=hB2.cell 1
     have f1:=hB2.free 1
     go_wp2_with fail
     have hB2:=hB2.put 1 (.string t2)
     have hN2:=hN2.put' (g:=g) (by omega) 1 (.string t2)
     generalize hW3:w2.setCell ⟨g,1,none⟩ (.string t2)=w3 at *
     clear d1 f1
     refine (cutStop_any t3 r2 _ HT3.out).mono ?_;rintro e w' ⟨t4,rfl,HT4,hw'⟩
     rw [HST.out,hw']
     rw [HR3.out] at HT4
     have c1:w3.cell? ⟨g,1,none⟩=some (.string t2):=hB2.cell 1
     have c2:w3.cell? ⟨g,2,none⟩=some (.string ⟨#[]⟩):=hB2.cell 2
     have c3:w3.cell? ⟨g,3,none⟩=some (.int .i64 0):=hB2.cell 3
     have f3:=hB2.free 3
     have c0:w3.cell? ⟨g,0,none⟩=some (.int .u64 9223372036854775808):=hB2.cell 0
     have f0:=hB2.free 0
     have f1:=hB2.free 1
     have f2:=hB2.free 2
     have z1:=HT2.out.toL
     have z2:=HT4.out.toL
     go_wp2_with fail
     refine (exponent_any t4 c4 m4 _ HT4.out (by simp at l1 l2 l3 l4 ⊢;omega)).mono ?_;rintro e w6 ⟨rfl,hw6⟩
     have hB6:=hB2.below hw6
     have hN6:=Nx.trans hN2 hw6
     clear c0 c1 c2 c3 f0 f1 f2 f3
     have c3:w6.cell? ⟨g,3,none⟩=some (.int .i64 0):=hB6.cell 3
     have f3:=hB6.free 3
     obtain ⟨X,HX⟩:∃ X,Hid (expD (c4 :: m4)=X):=⟨_,rfl⟩
     rw [HX.out]
     obtain ⟨X1,X2⟩:=X
     have hB7:=hB6.put 3 (.int .i64 X1)
     have k0:(w6.setCell ⟨g,3,none⟩ (.int .i64 X1)).cell? ⟨g,0,none⟩=some (.int .u64 9223372036854775808):=hB7.cell 0
     have k1:(w6.setCell ⟨g,3,none⟩ (.int .i64 X1)).cell? ⟨g,1,none⟩=some (.string t2):=hB7.cell 1
     have k2:(w6.setCell ⟨g,3,none⟩ (.int .i64 X1)).cell? ⟨g,2,none⟩=some (.string ⟨#[]⟩):=hB7.cell 2
     have k3:(w6.setCell ⟨g,3,none⟩ (.int .i64 X1)).cell? ⟨g,3,none⟩=some (.int .i64 X1):=hB7.cell 3
     have g0:=hB7.free 0
     have g1:=hB7.free 1
     have g2:=hB7.free 2
     have g3:=hB7.free 3
     go_wp2_with fail
     have hN7:=hN6.put' (g:=g) (by omega) 3 (.int .i64 X1)
     have hB9:=(((hB7.put 0 (.int .u64 9223372036854775808)).put 1 (.string t2)).put 2 (.string ⟨#[]⟩)).put 3 (.int .i64 X1)
     have hN9:=(((hN7.put' (g:=g) (by omega) 0 (.int .u64 9223372036854775808)).put' (g:=g) (by omega) 1 (.string t2)).put' (g:=g) (by omega) 2 (.string ⟨#[]⟩)).put' (g:=g) (by omega) 3 (.int .i64 X1)
     try simp only [Exit.inBlock,Exit.then]
     refine bodyPost_ret (results_cell_tmp_row rfl _ _ g _ _ _ _ rfl hB9.2 Tryz.underlying120 rfl (by kernel_rfl)) rfl ?_
     refine ⟨_,_,_,_,_,rfl,?_,hN9⟩
     unfold Hid
     rw [HTD.out]
     refine (if_neg (by simp)).mpr ⟨by simp,HT2.out,(show Tx ⟨#[]⟩ [] from rfl),?_⟩
     simp [HX.out]
  ·cases F with
   | nil =>
    go_enter Tryz.func77,Tryz.ntmps77
    go_wp2_with fail
    have hN0:Nx w (w.alloc (Obj.cells #[.int .u64 0,.string ⟨#[]⟩,.string ⟨#[]⟩,.int .i64 0] 120)):=nx0 _ _
    have hB0:Blk (w.alloc (Obj.cells #[.int .u64 0,.string ⟨#[]⟩,.string ⟨#[]⟩,.int .i64 0] 120)) g g #[.int .u64 0,.string ⟨#[]⟩,.string ⟨#[]⟩,.int .i64 0] 120:=by rw [← hg];exact Blk.new w _ _
    refine (cutSign_any s l _ HL.out (by omega)).mono ?_;rintro e w1 ⟨t1,rfl,HT1,hw1⟩
    rw [HNEG.out]
    rw [HR1.out] at HT1
    have hB1:=hB0.below hw1
    have hN1:=Nx.trans hN0 hw1
    have c0:w1.cell? ⟨g,0,none⟩=some (.int .u64 0):=hB1.cell 0
    have f0:=hB1.free 0
    go_wp2_with fail
    have hB1:=hB1.put 0 (.int .u64 9223372036854775808)
    have hN1:=hN1.put' (g:=g) (by omega) 0 (.int .u64 9223372036854775808)
    refine (cutDigits_any t1 r1 _ HT1.out (by omega)).mono ?_;rintro e w2 ⟨t2,t3,rfl,HT2,HT3,hw2⟩
    rw [HW.out] at HT2
    rw [HR2.out] at HT3
    have hB2:=hB1.below hw2
    have hN2:=Nx.trans hN1 hw2
    have d1:w2.cell? ⟨g,1,none⟩=some (.string ⟨#[]⟩):=hB2.cell 1
    have f1:=hB2.free 1
    go_wp2_with fail
    have hB2:=hB2.put 1 (.string t2)
    have hN2:=hN2.put' (g:=g) (by omega) 1 (.string t2)
    generalize hW3:w2.setCell ⟨g,1,none⟩ (.string t2)=w3 at *
    clear d1 f1
    refine (cutStop_any t3 r2 _ HT3.out).mono ?_;rintro e w' ⟨t4,rfl,HT4,hw'⟩
    rw [HST.out,hw']
    rw [HR3.out] at HT4
    have c2:w3.cell? ⟨g,2,none⟩=some (.string ⟨#[]⟩):=hB2.cell 2
    have f2:=hB2.free 2
    go_wp2_with fail
    refine (cutDigits_any t4 r3 _ HT4.out (by omega)).mono ?_;rintro e w4 ⟨t5,t6,rfl,HT5,HT6,hw4⟩
    rw [HF.out] at HT5
    rw [HR4.out] at HT6
    have hB4:=hB2.below hw4
    have hN4:=Nx.trans hN2 hw4
    clear c2 f2
    have d2:w4.cell? ⟨g,2,none⟩=some (.string ⟨#[]⟩):=hB4.cell 2
    have f2:=hB4.free 2
    have hB5:=hB4.put 2 (.string t5)
    have hN5:=hN4.put' (g:=g) (by omega) 2 (.string t5)
    have c1:(w4.setCell ⟨g,2,none⟩ (.string t5)).cell? ⟨g,1,none⟩=some (.string t2):=hB5.cell 1
    have c2:(w4.setCell ⟨g,2,none⟩ (.string t5)).cell? ⟨g,2,none⟩=some (.string t5):=hB5.cell 2
    have c3:(w4.setCell ⟨g,2,none⟩ (.string t5)).cell? ⟨g,3,none⟩=some (.int .i64 0):=hB5.cell 3
    have f3:=hB5.free 3
    have c0:(w4.setCell ⟨g,2,none⟩ (.string t5)).cell? ⟨g,0,none⟩=some (.int .u64 9223372036854775808):=hB5.cell 0
    have f0:=hB5.free 0
    have f1:=hB5.free 1
    have f2:=hB5.free 2
    have z1:=HT5.out.toL
    have z2:=HT6.out.toL
    go_wp2_with fail
    have hB9:=(((hB5.put 0 (.int .u64 9223372036854775808)).put 1 (.string t2)).put 2 (.string t5)).put 3 (.int .i64 0)
    have hN9:=(((hN5.put' (g:=g) (by omega) 0 (.int .u64 9223372036854775808)).put' (g:=g) (by omega) 1 (.string t2)).put' (g:=g) (by omega) 2 (.string t5)).put' (g:=g) (by omega) 3 (.int .i64 0)
    try simp only [Exit.inBlock,Exit.then]
    refine bodyPost_ret (results_cell_tmp_row rfl _ _ g _ _ _ _ rfl hB9.2 Tryz.underlying120 rfl (by kernel_rfl)) rfl ?_
    refine ⟨_,_,_,_,_,rfl,?_,hN9⟩
    unfold Hid
    rw [HTD.out]
    simp
   | cons c5 m5 =>
    cases r4 with
    | nil =>
     go_enter Tryz.func77,Tryz.ntmps77
     go_wp2_with fail
     have hN0:Nx w (w.alloc (Obj.cells #[.int .u64 0,.string ⟨#[]⟩,.string ⟨#[]⟩,.int .i64 0] 120)):=nx0 _ _
     have hB0:Blk (w.alloc (Obj.cells #[.int .u64 0,.string ⟨#[]⟩,.string ⟨#[]⟩,.int .i64 0] 120)) g g #[.int .u64 0,.string ⟨#[]⟩,.string ⟨#[]⟩,.int .i64 0] 120:=by rw [← hg];exact Blk.new w _ _
     refine (cutSign_any s l _ HL.out (by omega)).mono ?_;rintro e w1 ⟨t1,rfl,HT1,hw1⟩
     rw [HNEG.out]
     rw [HR1.out] at HT1
     have hB1:=hB0.below hw1
     have hN1:=Nx.trans hN0 hw1
     have c0:w1.cell? ⟨g,0,none⟩=some (.int .u64 0):=hB1.cell 0
     have f0:=hB1.free 0
     go_wp2_with fail
     have hB1:=hB1.put 0 (.int .u64 9223372036854775808)
     have hN1:=hN1.put' (g:=g) (by omega) 0 (.int .u64 9223372036854775808)
     refine (cutDigits_any t1 r1 _ HT1.out (by omega)).mono ?_;rintro e w2 ⟨t2,t3,rfl,HT2,HT3,hw2⟩
     rw [HW.out] at HT2
     rw [HR2.out] at HT3
     have hB2:=hB1.below hw2
     have hN2:=Nx.trans hN1 hw2
     have d1:w2.cell? ⟨g,1,none⟩=some (.string ⟨#[]⟩):=hB2.cell 1
     have f1:=hB2.free 1
     go_wp2_with fail
     have hB2:=hB2.put 1 (.string t2)
     have hN2:=hN2.put' (g:=g) (by omega) 1 (.string t2)
     generalize hW3:w2.setCell ⟨g,1,none⟩ (.string t2)=w3 at *
     clear d1 f1
     refine (cutStop_any t3 r2 _ HT3.out).mono ?_;rintro e w' ⟨t4,rfl,HT4,hw'⟩
     rw [HST.out,hw']
     rw [HR3.out] at HT4
     have c2:w3.cell? ⟨g,2,none⟩=some (.string ⟨#[]⟩):=hB2.cell 2
     have f2:=hB2.free 2
     go_wp2_with fail
     refine (cutDigits_any t4 r3 _ HT4.out (by omega)).mono ?_;rintro e w4 ⟨t5,t6,rfl,HT5,HT6,hw4⟩
     rw [HF.out] at HT5
     rw [HR4.out] at HT6
     have hB4:=hB2.below hw4
     have hN4:=Nx.trans hN2 hw4
     clear c2 f2
     have d2:w4.cell? ⟨g,2,none⟩=some (.string ⟨#[]⟩):=hB4.cell 2
     have f2:=hB4.free 2
     have hB5:=hB4.put 2 (.string t5)
     have hN5:=hN4.put' (g:=g) (by omega) 2 (.string t5)
     have c1:(w4.setCell ⟨g,2,none⟩ (.string t5)).cell? ⟨g,1,none⟩=some (.string t2):=hB5.cell 1
     have c2:(w4.setCell ⟨g,2,none⟩ (.string t5)).cell? ⟨g,2,none⟩=some (.string t5):=hB5.cell 2
     have c3:(w4.setCell ⟨g,2,none⟩ (.string t5)).cell? ⟨g,3,none⟩=some (.int .i64 0):=hB5.cell 3
     have f3:=hB5.free 3
     have c0:(w4.setCell ⟨g,2,none⟩ (.string t5)).cell? ⟨g,0,none⟩=some (.int .u64 9223372036854775808):=hB5.cell 0
     have f0:=hB5.free 0
     have f1:=hB5.free 1
     have f2:=hB5.free 2
     have z1:=HT5.out.toL
     have z2:=HT6.out.toL
     go_wp2_with fail
     have hB9:=(((hB5.put 0 (.int .u64 9223372036854775808)).put 1 (.string t2)).put 2 (.string t5)).put 3 (.int .i64 0)
     have hN9:=(((hN5.put' (g:=g) (by omega) 0 (.int .u64 9223372036854775808)).put' (g:=g) (by omega) 1 (.string t2)).put' (g:=g) (by omega) 2 (.string t5)).put' (g:=g) (by omega) 3 (.int .i64 0)
     try simp only [Exit.inBlock,Exit.then]
     refine bodyPost_ret (results_cell_tmp_row rfl _ _ g _ _ _ _ rfl hB9.2 Tryz.underlying120 rfl (by kernel_rfl)) rfl ?_
     refine ⟨_,_,_,_,_,rfl,?_,hN9⟩
     unfold Hid
     rw [HTD.out]
     exact (if_neg (by simp)).mpr ⟨by simp,HT2.out,HT5.out,by simp⟩
    | cons c4 m4 =>
     go_enter Tryz.func77,Tryz.ntmps77
     go_wp2_with fail
     have hN0:Nx w (w.alloc (Obj.cells #[.int .u64 0,.string ⟨#[]⟩,.string ⟨#[]⟩,.int .i64 0] 120)):=nx0 _ _
     have hB0:Blk (w.alloc (Obj.cells #[.int .u64 0,.string ⟨#[]⟩,.string ⟨#[]⟩,.int .i64 0] 120)) g g #[.int .u64 0,.string ⟨#[]⟩,.string ⟨#[]⟩,.int .i64 0] 120:=by rw [← hg];exact Blk.new w _ _
     refine (cutSign_any s l _ HL.out (by omega)).mono ?_;rintro e w1 ⟨t1,rfl,HT1,hw1⟩
     rw [HNEG.out]
     rw [HR1.out] at HT1
     have hB1:=hB0.below hw1
     have hN1:=Nx.trans hN0 hw1
     have c0:w1.cell? ⟨g,0,none⟩=some (.int .u64 0):=hB1.cell 0
     have f0:=hB1.free 0
     go_wp2_with fail
     have hB1:=hB1.put 0 (.int .u64 9223372036854775808)
     have hN1:=hN1.put' (g:=g) (by omega) 0 (.int .u64 9223372036854775808)
     refine (cutDigits_any t1 r1 _ HT1.out (by omega)).mono ?_;rintro e w2 ⟨t2,t3,rfl,HT2,HT3,hw2⟩
     rw [HW.out] at HT2
     rw [HR2.out] at HT3
     have hB2:=hB1.below hw2
     have hN2:=Nx.trans hN1 hw2
     have d1:w2.cell? ⟨g,1,none⟩=some (.string ⟨#[]⟩):=hB2.cell 1
     have f1:=hB2.free 1
     go_wp2_with fail
     have hB2:=hB2.put 1 (.string t2)
     have hN2:=hN2.put' (g:=g) (by omega) 1 (.string t2)
     generalize hW3:w2.setCell ⟨g,1,none⟩ (.string t2)=w3 at *
     clear d1 f1
     refine (cutStop_any t3 r2 _ HT3.out).mono ?_;rintro e w' ⟨t4,rfl,HT4,hw'⟩
     rw [HST.out,hw']
     rw [HR3.out] at HT4
     have c2:w3.cell? ⟨g,2,none⟩=some (.string ⟨#[]⟩):=hB2.cell 2
     have f2:=hB2.free 2
     go_wp2_with fail
     refine (cutDigits_any t4 r3 _ HT4.out (by omega)).mono ?_;rintro e w4 ⟨t5,t6,rfl,HT5,HT6,hw4⟩
     rw [HF.out] at HT5
     rw [HR4.out] at HT6
     have hB4:=hB2.below hw4
     have hN4:=Nx.trans hN2 hw4
     clear c2 f2
     have d2:w4.cell? ⟨g,2,none⟩=some (.string ⟨#[]⟩):=hB4.cell 2
     have f2:=hB4.free 2
     have hB5:=hB4.put 2 (.string t5)
     have hN5:=hN4.put' (g:=g) (by omega) 2 (.string t5)
     have c1:(w4.setCell ⟨g,2,none⟩ (.string t5)).cell? ⟨g,1,none⟩=some (.string t2):=hB5.cell 1
     have c2:(w4.setCell ⟨g,2,none⟩ (.string t5)).cell? ⟨g,2,none⟩=some (.string t5):=hB5.cell 2
     have c3:(w4.setCell ⟨g,2,none⟩ (.string t5)).cell? ⟨g,3,none⟩=some (.int .i64 0):=hB5.cell 3
     have f3:=hB5.free 3
     have c0:(w4.setCell ⟨g,2,none⟩ (.string t5)).cell? ⟨g,0,none⟩=some (.int .u64 9223372036854775808):=hB5.cell 0
     have f0:=hB5.free 0
     have f1:=hB5.free 1
     have f2:=hB5.free 2
     have z1:=HT5.out.toL
     have z2:=HT6.out.toL
     go_wp2_with fail
     refine (exponent_any t6 c4 m4 _ HT6.out (by simp at l1 l2 l3 l4 ⊢;omega)).mono ?_;rintro e w6 ⟨rfl,hw6⟩
     have hB6:=hB5.below hw6
     have hN6:=Nx.trans hN5 hw6
     clear c0 c1 c2 c3 f0 f1 f2 f3
     have c3:w6.cell? ⟨g,3,none⟩=some (.int .i64 0):=hB6.cell 3
     have f3:=hB6.free 3
     obtain ⟨X,HX⟩:∃ X,Hid (expD (c4 :: m4)=X):=⟨_,rfl⟩
     rw [HX.out]
     obtain ⟨X1,X2⟩:=X
     have hB7:=hB6.put 3 (.int .i64 X1)
     have k0:(w6.setCell ⟨g,3,none⟩ (.int .i64 X1)).cell? ⟨g,0,none⟩=some (.int .u64 9223372036854775808):=hB7.cell 0
     have k1:(w6.setCell ⟨g,3,none⟩ (.int .i64 X1)).cell? ⟨g,1,none⟩=some (.string t2):=hB7.cell 1
     have k2:(w6.setCell ⟨g,3,none⟩ (.int .i64 X1)).cell? ⟨g,2,none⟩=some (.string t5):=hB7.cell 2
     have k3:(w6.setCell ⟨g,3,none⟩ (.int .i64 X1)).cell? ⟨g,3,none⟩=some (.int .i64 X1):=hB7.cell 3
     have g0:=hB7.free 0
     have g1:=hB7.free 1
     have g2:=hB7.free 2
     have g3:=hB7.free 3
     go_wp2_with fail
     have hN7:=hN6.put' (g:=g) (by omega) 3 (.int .i64 X1)
     have hB9:=(((hB7.put 0 (.int .u64 9223372036854775808)).put 1 (.string t2)).put 2 (.string t5)).put 3 (.int .i64 X1)
     have hN9:=(((hN7.put' (g:=g) (by omega) 0 (.int .u64 9223372036854775808)).put' (g:=g) (by omega) 1 (.string t2)).put' (g:=g) (by omega) 2 (.string t5)).put' (g:=g) (by omega) 3 (.int .i64 X1)
     try simp only [Exit.inBlock,Exit.then]
     refine bodyPost_ret (results_cell_tmp_row rfl _ _ g _ _ _ _ rfl hB9.2 Tryz.underlying120 rfl (by kernel_rfl)) rfl ?_
     refine ⟨_,_,_,_,_,rfl,?_,hN9⟩
     unfold Hid
     rw [HTD.out]
     refine (if_neg (by simp)).mpr ⟨by simp,HT2.out,HT5.out,?_⟩
     simp [HX.out]
end Go.Proofs.YteclejplbphkpaaGreat
