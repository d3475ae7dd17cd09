/- The code's printer: files. Does print do anything yet? It does. What play makes lies within the printer's bounds. Plain. -/
import Derived.Test.YtjggghfekakogaaGreatDoorH28
import Derived.Test.YtjggghfekakogaaGreatDoorH22
import Derived.Test.YtjggghfekakogaaGreatDoorH14
import Derived.Test.YtjggghfekakogaaGreatDoorH17
import Derived.Test.YtjggghfekakogaaGreatDoorH24
set_option linter.unusedVariables false
set_option linter.unusedSimpArgs false
set_option linter.unnecessarySimpa false
namespace Go.Proofs.YtjggghfekakogaaGreatDoor
open Go.RowKit
theorem Gw.mvN {P:Nat→Prop} {v':Value} {w w':World} (h:Gw (.slice none 0 0) w v' w'):Mv P (No v') w w' :=
 ⟨fun g _ hl=>h.block g hl (fun e=>by cases e),fun g _ hl e=>by
  rcases h.own g e with h' | h'
  ·cases h'
  ·omega⟩
set_option maxRecDepth 100000 in
set_option maxHeartbeats 12800000 in
theorem print_any {sh:Nat→List UInt8} (hsh:∀ B l,ShowR B l→l=sh B) (w:World) (P:Nat→Prop) (x:FilS) (f:Fil) (ht:Tab w) (hr:RFile w P x f) (hok:prFil f)
  (hlen:((printF tenS sh f).length:Int)≤64000) :
  Calls Tryz.prog 23 #[.agg (filA x)] w fun e w'=>e = .returned (.string ⟨(printF tenS sh f).toArray⟩)∧Nx w w':=by
 obtain ⟨xi,xs,xd⟩:=x
 obtain ⟨fi,fs,fd⟩:=f
 obtain ⟨hri,hrs,hrd⟩:=hr
 obtain ⟨hil,hsl,hdl,hokd⟩:=hok
 dsimp only at hri hrs hrd hil hsl hdl hokd
 obtain ⟨F,hF⟩:∃ F,Hid (printF tenS sh ⟨fi,fs,fd⟩=F):=⟨_,Lib.hid rfl⟩
 rw [hF.out] at hlen ⊢
 have hF1:F=(([]++fi.flatMap incF)++fs.flatMap spcF)++fd.flatMap (defF tenS sh):=by rw [← hF.out,List.nil_append];rfl
 have HF1:=Lib.hid hF1
 have hsum:(((fi.flatMap incF).length:Int)+(fs.flatMap spcF).length+(fd.flatMap (defF tenS sh)).length)≤64000:=by
  rw [hF1] at hlen;simp only [List.length_append,List.length_nil] at hlen;omega
 have HSUM:=Lib.hid hsum
 obtain ⟨iA,icp,-,hx1,-⟩:=hri.sl strA_size
 obtain ⟨sA,scp,-,hx2,-⟩:=hrs.sl spcA_size
 obtain ⟨dA,dcp,-,hx3,-⟩:=hrd.sl dfnA_size
 subst hx1 hx2 hx3
 obtain ⟨g,hg⟩:∃ g,w.heap.size=g:=⟨_,rfl⟩
 have hB:=Blk.new w #[.slice iA fi.length icp,.slice sA fs.length scp,.slice dA fd.length dcp] 27
 rw [hg] at hB
 have hn0:Nx w (w.alloc (.cells #[.slice iA fi.length icp,.slice sA fs.length scp,.slice dA fd.length dcp] 27)):=nx0 _ _
 have HB:=Lib.hid hB
 have HN0:=Lib.hid hn0
 have HT:Hid (TabB w.heap.size w):=TabB.of ht
 have HRI:=Lib.hid hri
 have HRS:=Lib.hid hrs
 have HRD:=Lib.hid hrd
 have HOD:=Lib.hid hokd
 have HSH:=Lib.hid hsh
 have HG:=Lib.hid hg
 have hiI:(fi.length:Int)≤100000:=by omega
 have hsI:(fs.length:Int)≤100000:=by omega
 have hdI:(fd.length:Int)≤100000:=by omega
 clear hB hn0 ht hri hrs hrd hokd hsh hlen hsum hF1 hF hil hsl hdl
 show Calls _ _ #[.agg #[.slice iA fi.length icp,.slice sA fs.length scp,.slice dA fd.length dcp]] _ _
 go_enter Tryz.func23,Tryz.ntmps23
 go_upto_region 1 with fail
 generalize World.alloc w _=W0 at *
 clear hg
 obtain ⟨B,hB0⟩:∃ B,Hid (w.heap.size=B):=⟨_,Lib.hid rfl⟩
 rw [hB0.out] at HT
 have HO0:Hid (Ob B W0 (.slice none 0 0) []):=Ob.nil_ (by rw [← hB0.out];exact HN0.out.size)
 have HG0:Hid (Gw (.slice none 0 0) w (.slice none 0 0) W0):=Gw.nx HN0.out _
 have HBW:Hid (∀ v' w',Gw (.slice none 0 0) w v' w'→Blk w' g g #[.slice iA fi.length icp,.slice sA fs.length scp,.slice dA fd.length dcp] 27→Below B w w'):=fun v' w' h _=>h.below (Ob.nil_ (by rw [← hB0.out];exact Nat.le_refl _))
 clear HN0
 have k0:W0.cell? ⟨g,0,none⟩=some (.slice iA fi.length icp):=HB.out.cell 0
 go_wp2_with fail
 go_loopw [3,13] (fun bv' iv wr=>∃ i:Nat,iv = .int .i64 (i:Int)∧i≤fi.length∧Hid (Ob B wr bv' ([]++(fi.take i).flatMap incF))∧Hid (Gw (.slice none 0 0) w bv' wr)∧Hid (Blk wr g g #[.slice iA fi.length icp,.slice sA fs.length scp,.slice dA fd.length dcp] 27∧bv'.ownBlock≠some g)) (fun _ iv _=>(200000 - intOf iv).toNat)
 case atStart=>exact ⟨0,rfl,Nat.zero_le _,Lib.hid (HO0.out.cast (by simp)),HG0,Lib.hid ⟨HB.out,fun e=>by cases e⟩⟩
 case round =>
  obtain ⟨i,rfl,hi,HO,HGw,HBk⟩:=hrel
  have hiI2:(i:Int)≤100000:=by omega
  by_cases hlt:i<fi.length
  ·have q1:decide ((i:Int)<(fi.length:Int))=true:=decide_eq_true (by omega)
   have q2:(i:Int)<(fi.length:Int):=by omega
   have hr2:LT wr (No u3) (.slice iA fi.length icp) fi:=LT.lasts HGw.out.mvN HRI.out
   obtain ⟨A',ac',zs,hlv,hzl,hzc,hzm,hrd,hall⟩:=hr2.sl strA_size
   injection hlv with h1 h2 h3
   subst h1 h3
   clear h2
   obtain ⟨g2,rfl,hg2,hcs⟩:=hrd (by omega)
   have hz:zs[i]'(by omega)=fi[i]:=hall.at_ i (by omega) hlt
   obtain ⟨M,hM⟩:∃ M,fi[i]=M:=⟨_,rfl⟩
   obtain ⟨hst,hle⟩:=flat_step incF fi i hlt
   rw [hM] at hst hz
   have e0:wr.cell? ⟨g2,i,none⟩=some (.string ⟨M.toArray⟩):=by have:=hcs i (by omega) 0 (by decide);rw [hz,Nat.mul_one] at this;exact this
   have e0':wr.cell? ⟨g2,i * 1,none⟩=some (.string ⟨M.toArray⟩):=by rw [Nat.mul_one];exact e0
   have HST:=Lib.hid hst
   obtain ⟨h2,hh2⟩:∃ h,wr.heap.size=h:=⟨_,rfl⟩
   have hcall:=appendAll_new [[105,110,99,108,117,100,101,32,34],M,[34,10]] HO.out (by simp) (by
    have h1:=HSUM.out
    rw [hst] at hle
    simp only [incF,List.length_append,List.length_cons,List.length_nil,List.flatten_cons,List.flatten_nil] at hle ⊢
    omega) h2 hh2
   have HC:=Lib.hid hcall
   clear hst hle hcs hrd hall hr2 hM hz hzl hzc hzm hcall
   go_wp2_with fail
   refine HC.out.mono ?_;rintro e w3 ⟨v3,rfl,HO3,HG3⟩
   clear hh2 e0 e0'
   go_wp2_with fail
   go_roundw
   case rel=>exact ⟨i+1,by go_num,hlt,Lib.hid (HO3.out.cast (by rw [HST.out];simp [incF])),Lib.hid (HGw.out.trans HG3.out),Lib.hid (HG3.out.blk HBk.out.1 HBk.out.2)⟩
   case measure=>simp [intOf];omega
  ·obtain rfl:i=fi.length:=by omega
   have q1:decide ((fi.length:Int)<(fi.length:Int))=false:=decide_eq_false (by omega)
   rw [List.take_length] at HO
   obtain ⟨X,hX⟩:∃ X,Hid ([]++fi.flatMap incF=X):=⟨_,Lib.hid rfl⟩
   rw [hX.out] at HO
   have HSUM2:Hid ((X.length:Int)+(fs.flatMap spcF).length+(fd.flatMap (defF tenS sh)).length≤64000):=by have:=HSUM.out;unfold Hid;rw [← hX.out];exact this
   have HF2:Hid (F=(X++fs.flatMap spcF)++fd.flatMap (defF tenS sh)):=by rw [← hX.out];exact HF1.out
   have k1:wr.cell? ⟨g,1,none⟩=some (.slice sA fs.length scp):=HBk.out.1.cell 1
   have HOa:=HO
   have HGa:=HGw
   have HBa:=HBk
   clear hlt hi HO HGw HBk HSUM HF1 hX HRI k0 HO0 HG0 HB hiI
   generalize hu3:u3=va at *
   generalize hwr:wr=wa at *
   clear hu3 hwr
   go_wp2_with fail
   go_loopw [3,25] (fun bv' iv wr=>∃ i:Nat,iv = .int .i64 (i:Int)∧i≤fs.length∧Hid (Ob B wr bv' (X++(fs.take i).flatMap spcF))∧Hid (Gw (.slice none 0 0) w bv' wr)∧Hid (Blk wr g g #[.slice iA fi.length icp,.slice sA fs.length scp,.slice dA fd.length dcp] 27∧bv'.ownBlock≠some g)) (fun _ iv _=>(200000 - intOf iv).toNat)
   case atStart=>exact ⟨0,rfl,Nat.zero_le _,Lib.hid (HOa.out.cast (by simp)),HGa,HBa⟩
   case round =>
    obtain ⟨i,rfl,hi,HO,HGw,HBk⟩:=hrel
    clear HOa HGa HBa k1
    have hiI2:(i:Int)≤100000:=by omega
    by_cases hlt:i<fs.length
    ·have q1:decide ((i:Int)<(fs.length:Int))=true:=decide_eq_true (by omega)
     have q2:(i:Int)<(fs.length:Int):=by omega
     have hr2:LS wr (No u3) (.slice sA fs.length scp) fs:=LS.lasts HGw.out.mvN HRS.out
     obtain ⟨A',ac',zs,hlv,hzl,hzc,hzm,hrd,hall⟩:=hr2.sl spcA_size
     injection hlv with h1 h2 h3
     subst h1 h3
     clear h2
     obtain ⟨g2,rfl,hg2,hcs⟩:=hrd (by omega)
     have hz:zs[i]'(by omega)=fs[i]:=hall.at_ i (by omega) hlt
     obtain ⟨M,hM⟩:∃ M,fs[i]=M:=⟨_,rfl⟩
     obtain ⟨hst,hle⟩:=flat_step spcF fs i hlt
     rw [hM] at hst hz
     obtain ⟨ms,mn⟩:=M
     have hcell:∀ j,j<2→wr.cell? ⟨g2,i * 2+j,none⟩=(spcA ⟨ms,mn⟩)[j]?:=fun j hj=>by rw [hcs i (by omega) j hj,hz]
     have e0:wr.cell? ⟨g2,i * 2,none⟩=some (.string ⟨ms.toArray⟩):=hcell 0 (by decide)
     have e1:wr.cell? ⟨g2,i * 2+1,none⟩=some (.string ⟨mn.toArray⟩):=hcell 1 (by decide)
     have HST:=Lib.hid hst
     have hsp:(X.length:Int)+((fs.take i).flatMap spcF).length+ms.length+mn.length≤64000:=by
      have h1:=HSUM2.out
      rw [hst] at hle
      simp only [spcF,List.length_append,List.length_cons,List.length_nil] at hle
      omega
     have HSP:=Lib.hid hsp
     obtain ⟨ge,hge⟩:∃ h,wr.heap.size=h:=⟨_,rfl⟩
     clear hst hle hcs hrd hall hr2 hM hz hzl hzc hzm hcell hsp
     go_upto_region 10 with fail
     have hB4:=Blk.new wr #[.string ⟨ms.toArray⟩,.string ⟨mn.toArray⟩] 50
     rw [hge] at hB4
     have hn4:Nx wr (wr.alloc (.cells #[.string ⟨ms.toArray⟩,.string ⟨mn.toArray⟩] 50)):=nx0 _ _
     generalize World.alloc wr _=W1 at *
     have HO1:=Lib.hid (HO.out.nx hn4)
     have HG1:=Lib.hid (HGw.out.trans (Gw.nx hn4 u3))
     have HBk1:=Lib.hid (And.intro (HBk.out.1.below hn4) HBk.out.2)
     have c0:W1.cell? ⟨ge,0,none⟩=some (.string ⟨ms.toArray⟩):=hB4.cell 0
     have c1:W1.cell? ⟨ge,1,none⟩=some (.string ⟨mn.toArray⟩):=hB4.cell 1
     obtain ⟨h2,hh2⟩:∃ h,W1.heap.size=h:=⟨_,rfl⟩
     have hcall:=appendAll_new [[110,97,109,101,115,112,97,99,101,32],ms,[32],mn,[10]] HO1.out (by simp) (by
      have h1:=HSP.out
      simp only [List.length_append,List.length_cons,List.length_nil,List.flatten_cons,List.flatten_nil]
      omega) h2 hh2
     have HC:=Lib.hid hcall
     clear hcall hB4 hn4 HO HGw HBk hge e0 e1
     go_wp2_with fail
     refine HC.out.mono ?_;rintro e w3 ⟨v3,rfl,HO3,HG3⟩
     clear hh2 c0 c1
     go_wp2_with fail
     go_roundw
     case rel=>exact ⟨i+1,by go_num,hlt,Lib.hid (HO3.out.cast (by rw [HST.out];simp [spcF])),Lib.hid (HG1.out.trans HG3.out),Lib.hid (HG3.out.blk HBk1.out.1 HBk1.out.2)⟩
     case measure=>simp [intOf];omega
    ·obtain rfl:i=fs.length:=by omega
     have q1:decide ((fs.length:Int)<(fs.length:Int))=false:=decide_eq_false (by omega)
     rw [List.take_length] at HO
     obtain ⟨Y,hY⟩:∃ Y,Hid (X++fs.flatMap spcF=Y):=⟨_,Lib.hid rfl⟩
     rw [hY.out] at HO
     have HSUM3:Hid ((Y.length:Int)+(fd.flatMap (defF tenS sh)).length≤64000):=by have:=HSUM2.out;unfold Hid;rw [← hY.out,List.length_append];omega
     have HF3:Hid (F=Y++fd.flatMap (defF tenS sh)):=by rw [← hY.out];exact HF2.out
     have k2:wr.cell? ⟨g,2,none⟩=some (.slice dA fd.length dcp):=HBk.out.1.cell 2
     have HOa:=HO
     have HGa:=HGw
     clear hlt hi HO HGw HBk HSUM2 HF2 hY HRS hsI
     generalize hu3:u3=vb at *
     generalize hwr:wr=wb at *
     clear hu3 hwr
     go_wp2_with fail
     go_loopw [3,40] (fun bv' iv wr=>∃ i:Nat,iv = .int .i64 (i:Int)∧i≤fd.length∧Hid (Ob B wr bv' (Y++(fd.take i).flatMap (defF tenS sh)))∧Hid (Gw (.slice none 0 0) w bv' wr)) (fun _ iv _=>(200000 - intOf iv).toNat)
     case atStart=>exact ⟨0,rfl,Nat.zero_le _,Lib.hid (HOa.out.cast (by simp)),HGa⟩
     case round =>
      obtain ⟨i,rfl,hi,HO,HGw⟩:=hrel
      clear HOa HGa k2
      have hiI2:(i:Int)≤100000:=by omega
      by_cases hlt:i<fd.length
      ·have q1:decide ((i:Int)<(fd.length:Int))=true:=decide_eq_true (by omega)
       have q2:(i:Int)<(fd.length:Int):=by omega
       have hr2:LD wr (No u3) (.slice dA fd.length dcp) fd:=LD.lasts HGw.out.mvN HRD.out
       obtain ⟨A',ac',zs,hlv,hzl,hzc,hzm,hrd,hall⟩:=hr2.sl dfnA_size
       injection hlv with h1 h2 h3
       subst h1 h3
       clear h2
       obtain ⟨g2,rfl,hg2,hcs⟩:=hrd (by omega)
       obtain ⟨Z,hZ⟩:∃ Z,zs[i]'(by omega)=Z:=⟨_,rfl⟩
       have hrc:RD wr (No u3) Z fd[i]:=by
        have:=hall.at_ i (by omega) hlt
        rw [hZ] at this
        exact RD.lasts ⟨fun _ _ _=>rfl,fun _ h _=>h.1⟩ this
       obtain ⟨hst,hle⟩:=flat_step (defF tenS sh) fd i hlt
       obtain ⟨E,hE⟩:∃ E,Hid (defF tenS sh fd[i]=E):=⟨_,Lib.hid rfl⟩
       rw [hE.out] at hst
       have HST:=Lib.hid hst
       have hsp:(Y.length:Int)+((fd.take i).flatMap (defF tenS sh)).length+E.length≤64000:=by
        have h1:=HSUM3.out
        rw [hst] at hle
        simp only [List.length_append] at hle
        omega
       have HSP:=Lib.hid hsp
       obtain ⟨xk,xn,xt,⟨ik,im,idd,is,il⟩,xf,xm,xe,xv⟩:=Z
       have hq4:=hrc.2.2.2.1.slv
       obtain ⟨cA,ck,cc,hx1⟩:=hq4
       obtain ⟨fA,fc,-,hx2,-⟩:=hrc.2.2.2.2.1.sl fldA_size
       obtain ⟨mA,mc,-,hx3,-⟩:=hrc.2.2.2.2.2.1.sl memA_size
       obtain ⟨tA,tc,-,hx4,-⟩:=hrc.2.2.2.2.2.2.2.sl metA_size
       dsimp only at hx1 hx2 hx3 hx4
       obtain ⟨fk,hfk⟩:∃ k,(fd[i]).fields.length=k:=⟨_,rfl⟩
       obtain ⟨mk,hmk⟩:∃ k,(fd[i]).mems.length=k:=⟨_,rfl⟩
       obtain ⟨tk,htk⟩:∃ k,(fd[i]).mets.length=k:=⟨_,rfl⟩
       rw [hfk] at hx2
       rw [hmk] at hx3
       rw [htk] at hx4
       clear hfk hmk htk
       subst hx1 hx2 hx3 hx4
       have hcell:∀ j,j<12→wr.cell? ⟨g2,i * 12+j,none⟩=(dfnA ⟨xk,xn,xt,⟨ik,im,idd,is,.slice cA ck cc⟩,.slice fA fk fc,.slice mA mk mc,xe,.slice tA tk tc⟩)[j]?:=fun j hj=>by rw [hcs i (by omega) j hj,hZ]
       have e0:wr.cell? ⟨g2,i * 12,none⟩=some (.int .i64 (xk:Int)):=hcell 0 (by decide)
       have e1:wr.cell? ⟨g2,i * 12+1,none⟩=some (.string ⟨xn.toArray⟩):=hcell 1 (by decide)
       have e2:wr.cell? ⟨g2,i * 12+2,none⟩=some (.string ⟨xt.toArray⟩):=hcell 2 (by decide)
       have e3:wr.cell? ⟨g2,i * 12+3,none⟩=some (.int .i64 (ik:Int)):=hcell 3 (by decide)
       have e4:wr.cell? ⟨g2,i * 12+4,none⟩=some (.int .i64 im):=hcell 4 (by decide)
       have e5:wr.cell? ⟨g2,i * 12+5,none⟩=some (.int .u64 (idd:Int)):=hcell 5 (by decide)
       have e6:wr.cell? ⟨g2,i * 12+6,none⟩=some (.string ⟨is.toArray⟩):=hcell 6 (by decide)
       have e7:wr.cell? ⟨g2,i * 12+7,none⟩=some (.slice cA ck cc):=hcell 7 (by decide)
       have e8:wr.cell? ⟨g2,i * 12+8,none⟩=some (.slice fA fk fc):=hcell 8 (by decide)
       have e9:wr.cell? ⟨g2,i * 12+9,none⟩=some (.slice mA mk mc):=hcell 9 (by decide)
       have e10:wr.cell? ⟨g2,i * 12+10,none⟩=some (.string ⟨xe.toArray⟩):=hcell 10 (by decide)
       have e11:wr.cell? ⟨g2,i * 12+11,none⟩=some (.slice tA tk tc):=hcell 11 (by decide)
       have HRC:=Lib.hid hrc
       obtain ⟨ge,hge⟩:∃ h,wr.heap.size=h:=⟨_,rfl⟩
       clear hst hle hcs hrd hall hr2 hZ hzl hzc hzm hcell hsp hrc
       go_upto_region 15 with fail
       have hB4:=Blk.new wr #[.int .i64 (xk:Int),.string ⟨xn.toArray⟩,.string ⟨xt.toArray⟩,.int .i64 (ik:Int),.int .i64 im,.int .u64 (idd:Int),.string ⟨is.toArray⟩,.slice cA ck cc,.slice fA fk fc,.slice mA mk mc,.string ⟨xe.toArray⟩,.slice tA tk tc] 55
       rw [hge] at hB4
       have hn4:Nx wr (wr.alloc (.cells #[.int .i64 (xk:Int),.string ⟨xn.toArray⟩,.string ⟨xt.toArray⟩,.int .i64 (ik:Int),.int .i64 im,.int .u64 (idd:Int),.string ⟨is.toArray⟩,.slice cA ck cc,.slice fA fk fc,.slice mA mk mc,.string ⟨xe.toArray⟩,.slice tA tk tc] 55)):=nx0 _ _
       generalize World.alloc wr _=W1 at *
       have HO1:=Lib.hid (HO.out.nx hn4)
       have HG1:=Lib.hid (HGw.out.trans (Gw.nx hn4 u3))
       have c0:W1.cell? ⟨ge,0,none⟩=some (.int .i64 (xk:Int)):=hB4.cell 0
       have c1:W1.cell? ⟨ge,1,none⟩=some (.string ⟨xn.toArray⟩):=hB4.cell 1
       have c2:W1.cell? ⟨ge,2,none⟩=some (.string ⟨xt.toArray⟩):=hB4.cell 2
       have c3:W1.cell? ⟨ge,3,none⟩=some (.int .i64 (ik:Int)):=hB4.cell 3
       have c4:W1.cell? ⟨ge,4,none⟩=some (.int .i64 im):=hB4.cell 4
       have c5:W1.cell? ⟨ge,5,none⟩=some (.int .u64 (idd:Int)):=hB4.cell 5
       have c6:W1.cell? ⟨ge,6,none⟩=some (.string ⟨is.toArray⟩):=hB4.cell 6
       have c7:W1.cell? ⟨ge,7,none⟩=some (.slice cA ck cc):=hB4.cell 7
       have c8:W1.cell? ⟨ge,8,none⟩=some (.slice fA fk fc):=hB4.cell 8
       have c9:W1.cell? ⟨ge,9,none⟩=some (.slice mA mk mc):=hB4.cell 9
       have c10:W1.cell? ⟨ge,10,none⟩=some (.string ⟨xe.toArray⟩):=hB4.cell 10
       have c11:W1.cell? ⟨ge,11,none⟩=some (.slice tA tk tc):=hB4.cell 11
       have hcall:=appendDef_any HSH.out B W1 u3 (Y++(fd.take i).flatMap (defF tenS sh)) ⟨xk,xn,xt,⟨ik,im,idd,is,.slice cA ck cc⟩,.slice fA fk fc,.slice mA mk mc,xe,.slice tA tk tc⟩ fd[i] HO1.out (HT.out.on (HG1.out.below (Ob.nil_ (by rw [← hB0.out];exact Nat.le_refl _)))) (HRC.out.gw (Gw.nx hn4 u3)) (HOD.out _ (List.getElem_mem hlt))
        (by rw [hE.out];have h1:=HSP.out;simp only [List.length_append];omega)
       rw [hE.out] at hcall
       have HC:=Lib.hid hcall
       clear hcall hB4 hn4 HO HGw hge e0 e1 e2 e3 e4 e5 e6 e7 e8 e9 e10 e11 HRC
       go_wp2_with fail
       refine HC.out.mono ?_;rintro e w3 ⟨v3,rfl,ho,hg3⟩
       have HO3:=Lib.hid ho
       have HG3:=Lib.hid (HG1.out.trans hg3)
       clear ho hg3 c0 c1 c2 c3 c4 c5 c6 c7 c8 c9 c10 c11
       go_wp2_with fail
       go_roundw
       case rel=>exact ⟨i+1,by go_num,hlt,Lib.hid (HO3.out.cast (by rw [HST.out];simp only [List.append_assoc])),HG3⟩
       case measure=>simp [intOf];omega
      ·obtain rfl:i=fd.length:=by omega
       have q1:decide ((fd.length:Int)<(fd.length:Int))=false:=decide_eq_false (by omega)
       rw [List.take_length,← HF3.out] at HO
       obtain ⟨A2,c2',hv,h1,h2,hrd⟩:=HO.out.sl
       have HRD2:=Lib.hid hrd
       have HNX:Hid (Nx w wr):=HGw.out.toNx (Nx.refl w) (fun k e=>by cases e)
       subst hv
       clear hlt hi hrd h1 h2 HO HGw
       go_wp2_with (refine wpList_str _ rfl _ rfl Tryz.underlying34 Tryz.underlying5 Tryz.underlying9 _ _ _ rfl HRD2.out ?_;intro t HTT ht1 ht2)
       go_ret
       rw [HTT.out]
       exact ⟨rfl,HNX.out⟩
end Go.Proofs.YtjggghfekakogaaGreatDoor
namespace Go.Proofs.YtjggghfekakogaaGreatDoor
open Go.RowKit
def nV:Value:=.slice none 0 0
def bgD:Dfn:=⟨1,[97],[105,56],con0,[],[],[],[]⟩
def bgF:Fil:=⟨[],[],[bgD]⟩
theorem rd0 {w:World} {P:Nat→Prop} (k:Nat) (nm ty ext:List UInt8):RD w P ⟨k,nm,ty,⟨0,0,0,[],nV⟩,nV,nV,ext,nV⟩ ⟨k,nm,ty,con0,[],[],ext,[]⟩ :=
 ⟨rfl,rfl,rfl,rc_con0,RepL.nil_,RepL.nil_,rfl,RepL.nil_⟩
theorem rc1 {w:World} {P:Nat→Prop} (n:Nat) (k:Nat) (m:Int) (d:Nat) (s:List UInt8):RC (n+1) w P ⟨k,m,d,s,nV⟩ (.mk k m d s []):=RC.mk RepL.nil_
theorem nd_con0:nodC 13 con0≤64000:=by decide
theorem bg_nd:ndFil bgF:=⟨by decide,by decide,by decide,fun d hd=>by
 obtain rfl:d=bgD:=by simpa [bgF] using hd
 exact ⟨nd_con0,⟨by decide,fun f hf=>by cases hf⟩,by decide,by decide,fun m hm=>by cases hm⟩⟩
theorem bg_ok:prFil bgF:=⟨by decide,by decide,by decide,fun d hd=>by
 obtain rfl:d=bgD:=by simpa [bgF] using hd
 refine ⟨by decide,fun h=>absurd h (by decide),⟨by decide,fun f hf=>by cases hf⟩,⟨by decide,fun f hf=>by cases hf⟩,⟨by decide,fun f hf=>by cases hf⟩,fun _=>⟨rfl,rfl⟩,fun _=>rfl,fun _ _ _=>rfl⟩⟩
theorem bg_print (sh:Nat→List UInt8):printF tenS sh bgF=[116,121,112,101,100,101,102,32,105,56,32,97,10]:=by rfl
theorem bg_five (sh:Nat→List UInt8):constF tenS sh 1 (.mk 1 (-5) 0 [] [])=[45,53]:=by
 show tenS (-5)=_
 decide +kernel
theorem bg_same:eqFil bgF bgF=true:=by decide
theorem bg_not:eqFil bgF ⟨[],[],[]⟩=false:=by decide
set_option maxRecDepth 100000 in
set_option maxHeartbeats 6400000 in
theorem begun_any {sh:Nat→List UInt8} (hsh:∀ B l,ShowR B l→l=sh B) (w:World) (ht:Tab w) :
  Calls Tryz.prog 22 #[] w fun e w'=>e = .returned (.bool true)∧Nx w w':=by
 have HSH:=Lib.hid hsh
 have HT:=Lib.hid ht
 clear hsh ht
 go_enter Tryz.func22,Tryz.ntmps22
 go_upto_region 2 with fail
 obtain ⟨g,hg⟩:∃ g,w.heap.size=g:=⟨_,rfl⟩
 rw [hg]
 obtain ⟨W1,hW1⟩:∃ W1,w.alloc (.cells (dfnA ⟨1,[97],[105,56],⟨0,0,0,[],nV⟩,nV,nV,[],nV⟩) 55)=W1:=⟨_,rfl⟩
 have hB1:=heap_alloc_new w (.cells (dfnA ⟨1,[97],[105,56],⟨0,0,0,[],nV⟩,nV,nV,[],nV⟩) 55)
 have hn1:Nx w W1:=by rw [← hW1];exact nx0 _ _
 have hs1:W1.heap.size=g+1:=by rw [← hW1,← hg];simp
 rw [hW1,hg] at hB1
 obtain ⟨W,hW⟩:∃ W,W1.alloc (.cells (filA ⟨nV,nV,.slice (some ⟨g,0,none⟩) 1 1⟩) 27)=W:=⟨_,rfl⟩
 have hB2:=Blk.new W1 (filA ⟨nV,nV,.slice (some ⟨g,0,none⟩) 1 1⟩) 27
 have hn2:Nx W1 W:=by rw [← hW];exact nx0 _ _
 rw [hW,hs1] at hB2
 have hE:(w.alloc (.cells #[.int .i64 1,.string ⟨#[97]⟩,.string ⟨#[105,56]⟩,.int .i64 0,.int .i64 0,.int .u64 0,.string ⟨#[]⟩,.slice none 0 0,.slice none 0 0,.slice none 0 0,.string ⟨#[]⟩,.slice none 0 0] 55)).alloc (.cells #[.slice none 0 0,.slice none 0 0,.slice (some ⟨g,0,none⟩) 1 1] 27)=W:=by rw [← hW,← hW1];rfl
 rw [hE]
 have hB1':W.heap[g]? = some (.cells (dfnA ⟨1,[97],[105,56],⟨0,0,0,[],nV⟩,nV,nV,[],nV⟩) 55 (0,0)):=by rw [hn2.block g (by omega)];exact hB1
 have hf:RFile W An ⟨nV,nV,.slice (some ⟨g,0,none⟩) 1 1⟩ bgF :=
  ⟨RepL.nil_,RepL.nil_,RepL.built dfnA_size (xs:=[⟨1,[97],[105,56],⟨0,0,0,[],nV⟩,nV,nV,[],nV⟩]) rfl hB1' trivial (show 1≤maxLen by decide) ⟨rd0 _ _ _ _,trivial⟩⟩
 have hN:=hn1.trans hn2
 have hT:=TabB.of HT.out W hN
 have hc1:=print_any HSH.out W An _ bgF hT hf bg_ok (by rw [bg_print];decide)
 rw [bg_print] at hc1
 have HC1:=Lib.hid hc1
 have HF:=Lib.hid hf
 have HN:=Lib.hid hN
 have HB2:=Lib.hid hB2
 have c0:W.cell? ⟨g+1,0,none⟩=some (.slice none 0 0):=hB2.cell 0
 have c1:W.cell? ⟨g+1,1,none⟩=some (.slice none 0 0):=hB2.cell 1
 have c2:W.cell? ⟨g+1,2,none⟩=some (.slice (some ⟨g,0,none⟩) 1 1):=hB2.cell 2
 clear hE hB1' hf hN hT hc1 hW hW1 hB1 hn1 hs1 hB2 hn2 hg
 go_wp2_with fail
 refine HC1.out.mono ?_;rintro e w2 ⟨rfl,hx⟩
 have HN2:=Lib.hid (HN.out.trans hx)
 have HX:=Lib.hid hx
 clear hx c0 c1 c2 HC1
 have c0:w2.cell? ⟨g+1,0,none⟩=some (.slice none 0 0):=(HB2.out.below HX.out).cell 0
 have c1:w2.cell? ⟨g+1,1,none⟩=some (.slice none 0 0):=(HB2.out.below HX.out).cell 1
 have c2:w2.cell? ⟨g+1,2,none⟩=some (.slice (some ⟨g,0,none⟩) 1 1):=(HB2.out.below HX.out).cell 2
 have hc2:=printConst_any HSH.out 1 w2 An ⟨1,-5,0,[],nV⟩ (.mk 1 (-5) 0 [] []) (TabB.of HT.out w2 HN2.out) (rc1 0 1 (-5) 0 []) ⟨by decide,by decide,by decide,by decide,by decide,fun y hy=>by cases hy⟩ (by rw [bg_five];decide)
 rw [bg_five] at hc2
 have HC2:=Lib.hid hc2
 clear hc2
 go_wp2_with fail
 refine HC2.out.mono ?_;rintro e w3 ⟨rfl,hx⟩
 have HN3:=Lib.hid (HN2.out.trans hx)
 have HX:=Lib.hid (HX.out.trans hx)
 clear hx c0 c1 c2 HC2
 have c0:w3.cell? ⟨g+1,0,none⟩=some (.slice none 0 0):=(HB2.out.below HX.out).cell 0
 have c1:w3.cell? ⟨g+1,1,none⟩=some (.slice none 0 0):=(HB2.out.below HX.out).cell 1
 have c2:w3.cell? ⟨g+1,2,none⟩=some (.slice (some ⟨g,0,none⟩) 1 1):=(HB2.out.below HX.out).cell 2
 have hc3:=Same_any w3 ⟨nV,nV,.slice (some ⟨g,0,none⟩) 1 1⟩ ⟨nV,nV,.slice (some ⟨g,0,none⟩) 1 1⟩ bgF bgF (RFile.lasts (mvAn HX.out) HF.out) (RFile.lasts (mvAn HX.out) HF.out) bg_nd
 rw [bg_same] at hc3
 have HC3:=Lib.hid hc3
 clear hc3
 go_wp2_with fail
 refine HC3.out.mono ?_;rintro e w4 ⟨rfl,hx⟩
 have HN4:=Lib.hid (HN3.out.trans hx)
 have HX:=Lib.hid (HX.out.trans hx)
 clear hx c0 c1 c2 HC3
 have c0:w4.cell? ⟨g+1,0,none⟩=some (.slice none 0 0):=(HB2.out.below HX.out).cell 0
 have c1:w4.cell? ⟨g+1,1,none⟩=some (.slice none 0 0):=(HB2.out.below HX.out).cell 1
 have c2:w4.cell? ⟨g+1,2,none⟩=some (.slice (some ⟨g,0,none⟩) 1 1):=(HB2.out.below HX.out).cell 2
 have hc4:=Same_any w4 ⟨nV,nV,.slice (some ⟨g,0,none⟩) 1 1⟩ ⟨nV,nV,nV⟩ bgF ⟨[],[],[]⟩ (RFile.lasts (mvAn HX.out) HF.out) ⟨RepL.nil_,RepL.nil_,RepL.nil_⟩ bg_nd
 rw [bg_not] at hc4
 have HC4:=Lib.hid hc4
 clear hc4
 go_wp2_with fail
 refine HC4.out.mono ?_;rintro e w5 ⟨rfl,hx⟩
 have HN5:=Lib.hid (HN4.out.trans hx)
 clear hx c0 c1 c2 HC4
 go_wp2_with fail
 go_ret
 exact ⟨rfl,HN5.out⟩
end Go.Proofs.YtjggghfekakogaaGreatDoor
namespace Go.Proofs.YtjggghfekakogaaGreatDoor
theorem okC_leaf {n k d:Nat} {i:Int} {s:List UInt8} (h1 : -9223372036854775808≤i) (h2:i≤9223372036854775807) (h3:d<18446744073709551616):okC (n+1) (.mk k i d s []) :=
 ⟨⟨h1,h2⟩,h3,Nat.zero_le _,fun y hy=>by cases hy⟩
theorem okC_con0:okC 13 con0:=okC_leaf (by decide) (by decide) (by decide)
theorem flat_len {α:Type} (f:α→List UInt8) (n:Nat):∀ (l:List α),(∀ x ∈ l,(f x).length≤n)→(l.flatMap f).length≤l.length * n
 | [],_=>by simp
 | x :: l,h=>by
  have h1:=h x (List.mem_cons_self ..)
  have h2:=flat_len f n l fun y hy=>h y (List.mem_cons_of_mem _ hy)
  rw [List.flatMap_cons,List.length_append,List.length_cons,Nat.succ_mul]
  omega
theorem comma_len (n:Nat):∀ (l:List (List UInt8)),(∀ x ∈ l,x.length≤n)→(commaF l).length≤l.length * (n+2)
 | [],_=>by simp [commaF]
 | [x],h=>by have:=h x (List.mem_cons_self ..);simp [commaF];omega
 | x :: y :: r,h=>by
  have h1:=h x (List.mem_cons_self ..)
  have h2:=comma_len n (y :: r) fun y hy=>h y (List.mem_cons_of_mem _ hy)
  show (x++[44,32]++commaF (y :: r)).length≤(y :: r).length.succ * (n+2)
  rw [Nat.succ_mul]
  simp only [List.length_append,List.length_cons,List.length_nil] at h2 ⊢
  omega
theorem AllI.mem {α:Type} {P:Nat→α→Prop} {l:List α} (h:AllI P l) {x:α} (hx:x ∈ l):∃ i,i<l.length∧P i x:=by
 obtain ⟨i,hi,rfl⟩:=List.getElem_of_mem hx
 exact ⟨i,hi,h i _ (List.getElem?_eq_getElem hi)⟩
section
variable {tn:Int→List UInt8} {sh:Nat→List UInt8}
structure LenN (tn:Int→List UInt8) (sh:Nat→List UInt8):Prop where
 ten:∀ v:Int,-9223372036854775808≤v→v≤9223372036854775807→(tn v).length≤20
 sho:∀ B:Nat,B<18446744073709551616→(sh B).length≤50
theorem con_leaf_len (hL:LenN tn sh) {n k d:Nat} {i:Int} {s:List UInt8} (h1 : -9223372036854775808≤i) (h2:i≤9223372036854775807) (h3:d<18446744073709551616):(constF tn sh (n+1) (.mk k i d s [])).length≤50+s.length:=by
 unfold constF
 have:=hL.ten i h1 h2
 have:=hL.sho d h3
 split
 ·omega
 ·split
  ·omega
  ·split
   ·split <;> simp <;> omega
   ·split
    ·omega
    ·split <;> simp [commaF,pairsF] <;> omega
theorem init_in (hL:LenN tn sh) (t pre r:List UInt8) (hp:pre.length≤5):okC 13 (conO (initP t pre r).1)∧(constF tn sh 13 (conO (initP t pre r).1)).length≤58:=by
 have key:∀ (k d:Nat) (i:Int) (s:List UInt8),-9223372036854775808≤i→i≤9223372036854775807→d<18446744073709551616→s.length≤8→okC 13 (conO ⟨k,i,d,s⟩)∧(constF tn sh 13 (conO ⟨k,i,d,s⟩)).length≤58 :=
  fun k d i s a1 a2 a3 a4=>⟨okC_leaf a1 a2 a3,Nat.le_trans (con_leaf_len hL a1 a2 a3) (by show 50+s.length≤58;omega)⟩
 have n1:=numP_lt 200 (by decide) r
 have n2:=numP_lt 255 (by decide) r
 have n3:=numP_lt 255 (by decide) (numP 255 r).2
 unfold initP
 split
 ·exact key _ _ _ _ (by omega) (by omega) (by decide) (Nat.zero_le _)
 ·split
  ·exact key _ _ _ _ (by decide) (by decide) (by omega) (Nat.zero_le _)
  ·split
   ·refine key _ _ _ _ (by decide) (by decide) (by decide) (getD_len _ _ _ fun l hl=>?_)
    simp [initL] at hl
    rcases hl with rfl | rfl | rfl | rfl <;> simp
   ·split
    ·refine key _ _ _ _ (by decide) (by decide) (by decide) (getD_len _ _ _ fun l hl=>?_)
     simp [boolL] at hl
     rcases hl with rfl | rfl <;> simp
    ·split
     ·exact key _ _ _ _ (by decide) (by decide) (by decide) (by simp;omega)
     ·split
      ·exact key _ _ _ _ (by decide) (by decide) (by decide) (by simp;omega)
      ·exact key _ _ _ _ (by decide) (by decide) (by decide) (Nat.zero_le _)
theorem typOf_len {pre t:List UInt8} (h:TypOf pre t) (hp:pre.length≤5):t.length≤72:=by
 obtain ⟨r,rfl⟩:=h
 have:=typ_len pre 3 r
 have:(pre.length+13) * (3+1)≤18 * 4:=Nat.mul_le_mul (by omega) (by omega)
 omega
theorem field_len (hL:LenN tn sh) (f:Fld) (h1 : -9223372036854775808≤f.id) (h2:f.id≤9223372036854775807) (h3:f.ty.length≤72) (h4:f.nm.length≤2) (h5:(constF tn sh 13 f.ini).length≤58):(fieldF tn sh f).length≤200:=by
 have:=hL.ten f.id h1 h2
 unfold fieldF
 simp only [List.length_append]
 split <;> split <;> split <;> (try split) <;> simp <;> omega
theorem fld_in (hL:LenN tn sh) {pre:List UInt8} (hp:pre.length≤5) {un:Bool} {i:Nat} (hi:i<21) {f:Fld} (h:PFld pre un i f):okF f∧(fieldF tn sh f).length≤200:=by
 obtain ⟨n,hn,hid⟩:=h.id
 have hb : -9223372036854775808≤f.id∧f.id≤9223372036854775807:=by
  rw [hid]
  have:i * n≤21 * 3:=Nat.mul_le_mul (by omega) (by omega)
  have e:(i:Int) * (n:Int)=((i * n:Nat):Int):=by rw [Int.natCast_mul]
  split
  ·rw [e];omega
  ·omega
 have hc:okC 13 f.ini∧(constF tn sh 13 f.ini).length≤58:=by
  rcases h.ini with ⟨_,e⟩ | ⟨_,r,e⟩
  ·rw [e];exact ⟨okC_con0,Nat.le_trans (con_leaf_len hL (by decide) (by decide) (by decide)) (by decide)⟩
  ·rw [e];exact init_in hL _ _ _ hp
 exact ⟨⟨hb,hc.1⟩,field_len hL f hb.1 hb.2 (typOf_len h.ty hp) (by rw [h.nm];exact Nat.le_refl _) hc.2⟩
theorem arg_in (hL:LenN tn sh) {pre:List UInt8} (hp:pre.length≤5) {i:Nat} (hi:i<21) {f:Fld} (h:PArg pre i f):okF f∧(fieldF tn sh f).length≤200:=by
 obtain ⟨T,hT,rfl⟩:=h
 have hb : -9223372036854775808≤1+(i:Int)∧1+(i:Int)≤9223372036854775807:=by omega
 exact ⟨⟨hb,okC_con0⟩,field_len hL _ hb.1 hb.2 (typOf_len hT hp) (Nat.le_refl _) (Nat.le_trans (con_leaf_len hL (by decide) (by decide) (by decide)) (by decide))⟩
theorem thr_in (hL:LenN tn sh):okF thrX∧(fieldF tn sh thrX).length≤200 :=
 ⟨⟨by decide,okC_con0⟩,field_len hL _ (by decide) (by decide) (by decide) (by decide) (Nat.le_trans (con_leaf_len hL (by decide) (by decide) (by decide)) (by decide))⟩
theorem fields_len (l:List Fld) (k:Nat) (hk:l.length≤k) (h:∀ f ∈ l,(fieldF tn sh f).length≤200):(fieldsF tn sh l).length≤k * 202:=by
 have:=comma_len 200 (l.map (fieldF tn sh)) fun x hx=>by
  obtain ⟨f,hf,rfl⟩:=List.mem_map.1 hx
  exact h f hf
 unfold fieldsF
 rw [List.length_map] at this
 exact Nat.le_trans this (Nat.mul_le_mul_right _ hk)
theorem met_in (hL:LenN tn sh) {pre:List UInt8} (hp:pre.length≤5) {i:Nat} {m:Met} (h:PMet pre i m):okM m∧(methodF tn sh m).length≤1000:=by
 have ha:∀ f ∈ m.args,okF f∧(fieldF tn sh f).length≤200:=fun f hf=>by
  obtain ⟨j,hj,hP⟩:=h.args.mem hf
  exact arg_in hL hp (by have:=h.alen;omega) hP
 have ht:m.thr.length≤1∧∀ f ∈ m.thr,okF f∧(fieldF tn sh f).length≤200:=by
  have:m.thr=[]∨m.thr=[thrX]:=by
   rcases h.rest with ⟨_,_,e⟩ | ⟨_,_,e⟩ | ⟨_,_,e⟩
   ·exact .inl e
   ·exact .inr e
   ·exact e
  rcases this with e | e
  ·rw [e];exact ⟨by decide,fun f hf=>by cases hf⟩
  ·rw [e];exact ⟨by decide,fun f hf=>by rw [List.mem_singleton.1 hf];exact thr_in hL⟩
 have hr:m.ret.length≤72:=by
  rcases h.rest with ⟨_,e,_⟩ | ⟨_,e,_⟩ | ⟨_,e,_⟩
  ·rw [e];decide
  ·rw [e];decide
  ·exact typOf_len e hp
 refine ⟨⟨⟨by have:=h.alen;omega,fun f hf=>(ha f hf).1⟩,by have:=ht.1;omega,fun f hf=>(ht.2 f hf).1⟩,?_⟩
 have l1:=fields_len (tn:=tn) (sh:=sh) m.args 3 h.alen fun f hf=>(ha f hf).2
 have l2:=fields_len (tn:=tn) (sh:=sh) m.thr 1 ht.1 fun f hf=>(ht.2 f hf).2
 have l3:(oneF m.one).length≤9:=by cases m.one <;> decide
 have l4:m.nm.length=2:=by rw [h.nm];rfl
 unfold methodF
 simp only [List.length_append,List.length_cons,List.length_nil]
 split <;> simp <;> omega
theorem dfnF_in (hL:LenN tn sh) (k:Nat) (nm:List UInt8) (fs:List Fld) (hk:k=4∨k=5∨k=6) (hn:nm.length=1) (hl:fs.length≤21) (h:∀ f ∈ fs,okF f∧(fieldF tn sh f).length≤200) :
  okD (dfnF k nm fs)∧(defF tn sh (dfnF k nm fs)).length≤4500:=by
 refine ⟨⟨by show k≤7;omega,okC_con0,⟨by show fs.length≤100000;omega,fun y hy=>(h y hy).1⟩,⟨Nat.zero_le _,fun y hy=>by cases hy⟩,Nat.zero_le _,fun y hy=>by cases hy⟩,?_⟩
 have hw:(wordD k).length≤10:=by rcases hk with rfl | rfl | rfl <;> decide
 have h1:k≠1:=by omega
 have h3:k≠3:=by omega
 have hf:=flat_len (fldL tn sh) 204 fs fun f hf=>by
  have:=(h f hf).2
  unfold fldL
  simp
  omega
 have:fs.length * 204≤21 * 204:=Nat.mul_le_mul_right _ hl
 unfold defF dfnF
 dsimp only
 rw [if_neg h1,if_neg h3,if_pos rfl]
 simp only [List.length_append,List.flatMap_nil,List.length_nil,List.length_cons]
 omega
theorem rest_in (hL:LenN tn sh) {pre:List UInt8} (hp:pre.length≤5) {ds:List Dfn} (h:PRest pre ds):ds.length≤10∧(∀ d ∈ ds,okD d)∧(ds.flatMap (defF tn sh)).length≤15000:=by
 obtain ⟨fq,fx,ms,rfl,h1,h2,h3,h4,h5,h6⟩:=h.is
 have q1:∀ f ∈ fq,okF f∧(fieldF tn sh f).length≤200:=fun f hf=>by
  obtain ⟨j,hj,hP⟩:=h1.mem hf
  exact fld_in hL hp (by omega) hP
 have q2:∀ f ∈ fx,okF f∧(fieldF tn sh f).length≤200:=fun f hf=>by
  obtain ⟨j,hj,hP⟩:=h3.mem hf
  exact fld_in hL hp (by omega) hP
 have q3:∀ m ∈ ms,okM m∧(methodF tn sh m).length≤1000:=fun m hm=>by
  obtain ⟨j,hj,hP⟩:=h5.mem hm
  exact met_in hL hp hP
 obtain ⟨a1,a2⟩:=dfnF_in hL 4 [81] fq (by omega) rfl h2 q1
 obtain ⟨b1,b2⟩:=dfnF_in hL 6 [88] fx (by omega) rfl h4 q2
 have hm:=flat_len (methodF tn sh) 1000 ms fun m hm=>(q3 m hm).2
 have hm2:ms.length * 1000≤4 * 1000:=Nat.mul_le_mul_right _ h6
 have c2:(defF tn sh ⟨7,[86],[],con0,[],[],[],ms⟩).length≤4100:=by
  unfold defF
  dsimp only
  rw [if_neg (by decide),if_neg (by decide),if_pos rfl]
  simp only [List.length_append,List.flatMap_nil,List.length_nil,List.length_cons,wordD]
  omega
 have d2:(defF tn sh ⟨7,[87],[],con0,[],[],[86],[⟨[111,119,110],false,[105,51,50],[],[]⟩]⟩).length≤100:=by
  unfold defF
  dsimp only
  rw [if_neg (by decide),if_neg (by decide)]
  simp [wordD,methodF,oneF,fieldsF,commaF]
 refine ⟨by simp,fun d hd=>?_,?_⟩
 ·simp only [List.mem_cons,List.not_mem_nil,or_false] at hd
  rcases hd with rfl | rfl | rfl | rfl
  ·exact a1
  ·exact b1
  ·exact ⟨by simp,okC_con0,⟨Nat.zero_le _,fun y hy=>by cases hy⟩,⟨Nat.zero_le _,fun y hy=>by cases hy⟩,by show ms.length≤100000;omega,fun y hy=>(q3 y hy).1⟩
  ·exact ⟨by simp,okC_con0,⟨Nat.zero_le _,fun y hy=>by cases hy⟩,⟨Nat.zero_le _,fun y hy=>by cases hy⟩,by decide,fun y hy=>by
    rw [List.mem_singleton.1 hy];exact ⟨⟨Nat.zero_le _,fun y hy=>by cases hy⟩,Nat.zero_le _,fun y hy=>by cases hy⟩⟩
 ·simp only [List.flatMap_cons,List.flatMap_nil,List.length_append,List.length_nil]
  omega
theorem mem_in (hL:LenN tn sh) {i:Nat} (hi:i<3) {m:Mem} (h:PMem i m):(-9223372036854775808≤m.n∧m.n≤9223372036854775807)∧(memF tn m).length≤40:=by
 have hb:(-9223372036854775808≤m.n∧m.n≤9223372036854775807)∧m.nm.length=1:=by
  unfold PMem at h
  split at h
  ·rw [h];exact ⟨by decide,rfl⟩
  ·obtain ⟨h1,h2⟩:=h
   refine ⟨?_,by rw [h1];rfl⟩
   rcases h2 with ⟨_,e⟩ | ⟨_,k,hk,e⟩
   ·rw [e];decide
   ·rw [e];omega
 refine ⟨hb.1,?_⟩
 have:=hL.ten m.n hb.1.1 hb.1.2
 have:=hb.2
 unfold memF
 split <;> simp <;> omega
theorem con_in (hL:LenN tn sh) {ty:List UInt8} {c:Con} (h:PCon ty c):ty.length≤20∧okC 13 c∧(constF tn sh 13 c).length≤120:=by
 rcases h with ⟨rfl,k,hk,rfl⟩ | ⟨rfl,rfl⟩ | ⟨rfl,rfl⟩ | ⟨rfl,rfl⟩
 ·exact ⟨by decide,okC_leaf (by omega) (by omega) (by decide),Nat.le_trans (con_leaf_len hL (by omega) (by omega) (by decide)) (by simp)⟩
 ·refine ⟨by decide,⟨by decide,by decide,by decide,fun y hy=>?_⟩,?_⟩
  ·simp only [List.mem_cons,List.not_mem_nil,or_false] at hy
   rcases hy with rfl | rfl
   ·exact okC_leaf (by decide) (by decide) (by decide)
   ·exact okC_leaf (by decide) (by decide) (by decide)
  ·have:=hL.ten 0 (by decide) (by decide)
   show (91 :: (([69,46,65]++[44,32]++tn 0)++[93])).length≤120
   simp
   omega
 ·exact ⟨by decide,okC_leaf (by decide) (by decide) (by decide),Nat.le_trans (con_leaf_len hL (by decide) (by decide) (by decide)) (by simp)⟩
 ·exact ⟨by decide,okC_leaf (by decide) (by decide) (by decide),Nat.le_trans (con_leaf_len hL (by decide) (by decide) (by decide)) (by simp)⟩
theorem base_in (hL:LenN tn sh) {ds:List Dfn} (h:PBase ds):ds.length≤10∧(∀ d ∈ ds,okD d)∧(ds.flatMap (defF tn sh)).length≤15000:=by
 obtain ⟨ms,ty,c,fs,fu,rfl,h1,h2,h3,h4,h5,h6,h7,h8,h9⟩:=h.is
 have q1:∀ f ∈ fs,okF f∧(fieldF tn sh f).length≤200:=fun f hf=>by
  obtain ⟨j,hj,hP⟩:=h5.mem hf
  exact fld_in hL (by decide) (by omega) hP
 have q2:∀ f ∈ fu,okF f∧(fieldF tn sh f).length≤200:=fun f hf=>by
  obtain ⟨j,hj,hP⟩:=h7.mem hf
  exact fld_in hL (by decide) (by omega) hP
 have q3:∀ m ∈ ms,(-9223372036854775808≤m.n∧m.n≤9223372036854775807)∧(memF tn m).length≤40:=fun m hm=>by
  obtain ⟨j,hj,hP⟩:=h1.mem hm
  exact mem_in hL (by omega) hP
 obtain ⟨a1,a2⟩:=dfnF_in hL 4 [80] fs (by omega) rfl h6 q1
 obtain ⟨b1,b2⟩:=dfnF_in hL 5 [85] fu (by omega) rfl h8 q2
 obtain ⟨c1,c2,c3⟩:=con_in hL h4
 have hm:=flat_len (memF tn) 40 ms fun m hm=>(q3 m hm).2
 have hm2:ms.length * 40≤3 * 40:=Nat.mul_le_mul_right _ h3
 have d1:(defF tn sh ⟨2,[69],[],con0,[],ms,[],[]⟩).length≤200:=by
  unfold defF
  dsimp only
  rw [if_neg (by decide),if_neg (by decide),if_pos rfl]
  simp only [List.length_append,List.flatMap_nil,List.length_nil,List.length_cons,wordD]
  omega
 have d2:(defF tn sh ⟨1,[84],ty,con0,[],[],[],[]⟩).length≤100:=by
  unfold defF
  dsimp only
  rw [if_pos rfl]
  simp only [List.length_append,List.length_nil,List.length_cons,wordD]
  omega
 have d3:(defF tn sh ⟨3,[67],[84],c,[],[],[],[]⟩).length≤200:=by
  unfold defF
  dsimp only
  rw [if_neg (by decide),if_pos rfl]
  simp only [List.length_append,List.length_nil,List.length_cons,wordD]
  omega
 refine ⟨by simp,fun d hd=>?_,?_⟩
 ·simp only [List.mem_cons,List.not_mem_nil,or_false] at hd
  rcases hd with rfl | rfl | rfl | rfl | rfl
  ·exact ⟨by simp,okC_con0,⟨Nat.zero_le _,fun y hy=>by cases hy⟩,⟨by show ms.length≤100000;omega,fun y hy=>(q3 y hy).1⟩,Nat.zero_le _,fun y hy=>by cases hy⟩
  ·exact ⟨by simp,okC_con0,⟨Nat.zero_le _,fun y hy=>by cases hy⟩,⟨Nat.zero_le _,fun y hy=>by cases hy⟩,Nat.zero_le _,fun y hy=>by cases hy⟩
  ·exact ⟨by simp,c2,⟨Nat.zero_le _,fun y hy=>by cases hy⟩,⟨Nat.zero_le _,fun y hy=>by cases hy⟩,Nat.zero_le _,fun y hy=>by cases hy⟩
  ·exact a1
  ·exact b1
 ·simp only [List.flatMap_cons,List.flatMap_nil,List.length_append,List.length_nil]
  omega
theorem files_in (hL:LenN tn sh) {fls:List Fil} (h:PFiles fls):0<fls.length∧fls.length≤2∧∀ f ∈ fls,okFil f∧(printF tn sh f).length≤40000:=by
 rcases h with ⟨d1,d2,rfl,hr,hb⟩ | ⟨d1,d2,rfl,hb,hr⟩
 ·obtain ⟨r1,r2,r3⟩:=rest_in hL (by decide) hr
  obtain ⟨b1,b2,b3⟩:=base_in (tn:=tn) (sh:=sh) hL hb
  refine ⟨by simp,by simp,fun f hf=>?_⟩
  simp only [List.mem_cons,List.not_mem_nil,or_false] at hf
  rcases hf with rfl | rfl
  ·refine ⟨⟨by simp,by simp,by show d1.length≤100000;omega,r2⟩,?_⟩
   unfold printF
   simp only [List.length_append,List.flatMap_cons,List.flatMap_nil,List.length_nil,incF,spcF,List.length_cons]
   omega
  ·refine ⟨⟨by simp,by simp,by show d2.length≤100000;omega,b2⟩,?_⟩
   unfold printF
   simp only [List.length_append,List.flatMap_nil,List.length_nil]
   omega
 ·obtain ⟨r1,r2,r3⟩:=rest_in (tn:=tn) (sh:=sh) hL (by decide) hr
  obtain ⟨b1,b2,b3⟩:=base_in (tn:=tn) (sh:=sh) hL hb
  refine ⟨by simp,by simp,fun f hf=>?_⟩
  simp only [List.mem_cons,List.not_mem_nil,or_false] at hf
  subst hf
  refine ⟨⟨by simp,by simp,by show (d1++d2).length≤100000;rw [List.length_append];omega,fun y hy=>(List.mem_append.1 hy).elim (b2 y) (r2 y)⟩,?_⟩
  unfold printF
  simp only [List.length_append,List.flatMap_nil,List.length_nil,List.flatMap_append]
  omega
end
end Go.Proofs.YtjggghfekakogaaGreatDoor
