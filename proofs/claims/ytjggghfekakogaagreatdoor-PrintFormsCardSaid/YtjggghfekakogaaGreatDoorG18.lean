/- The code's printer: files. The document's play: types' texts. The document's play: constants that may fit a type. The document's play: fields. The document's play: arguments of a method. Lists that lie: within bounds, but for a block, made at once. Plain lemmas. Does print do anything yet? It does. The files of PrintForms and their texts. Plain. -/
import Derived.Test.YtjggghfekakogaaGreatDoorG17
import Derived.Test.YtjggghfekakogaaGreatDoorG11
import Derived.Test.YtjggghfekakogaaGreatDoorG07
import Derived.Test.YtjggghfekakogaaGreatDoorG12
import Derived.Deep.Light
set_option linter.unusedVariables false
set_option linter.unusedSimpArgs false
set_option linter.unnecessarySimpa false
namespace Go.Proofs.YtjggghfekakogaaGreatDoor
open Go.RowKit
theorem Gw.mvN {P:Nat→Prop} {v':Value} {w w':World} (h:Gw (.slice none 0 0) w v' w'):Mv P (No v') w w' :=
 ⟨fun g _ hl=>h.block g hl (fun e=>by cases e),fun g _ hl e=>by
  rcases h.own g e with h' | h'
  ·cases h'
  ·omega⟩
set_option maxRecDepth 100000 in
set_option maxHeartbeats 12800000 in
theorem print_any {sh:Nat→List UInt8} (hsh:∀ B l,ShowR B l→l=sh B) (w:World) (P:Nat→Prop) (x:FilS) (f:Fil) (ht:Tab w) (hr:RFile w P x f) (hok:prFil f)
  (hlen:((printF tenS sh f).length:Int)≤64000) :
  Calls Tryz.prog 23 #[.agg (filA x)] w fun e w'=>e = .returned (.string ⟨(printF tenS sh f).toArray⟩)∧Nx w w':=by
 obtain ⟨xi,xs,xd⟩:=x
 obtain ⟨fi,fs,fd⟩:=f
 obtain ⟨hri,hrs,hrd⟩:=hr
 obtain ⟨hil,hsl,hdl,hokd⟩:=hok
 dsimp only at hri hrs hrd hil hsl hdl hokd
 obtain ⟨F,hF⟩:∃ F,Hid (printF tenS sh ⟨fi,fs,fd⟩=F):=⟨_,Lib.hid rfl⟩
 rw [hF.out] at hlen ⊢
 have hF1:F=(([]++fi.flatMap incF)++fs.flatMap spcF)++fd.flatMap (defF tenS sh):=by rw [← hF.out,List.nil_append];rfl
 have HF1:=Lib.hid hF1
 have hsum:(((fi.flatMap incF).length:Int)+(fs.flatMap spcF).length+(fd.flatMap (defF tenS sh)).length)≤64000:=by
  rw [hF1] at hlen;simp only [List.length_append,List.length_nil] at hlen;omega
 have HSUM:=Lib.hid hsum
 obtain ⟨iA,icp,-,hx1,-⟩:=hri.sl strA_size
 obtain ⟨sA,scp,-,hx2,-⟩:=hrs.sl spcA_size
 obtain ⟨dA,dcp,-,hx3,-⟩:=hrd.sl dfnA_size
 subst hx1 hx2 hx3
 obtain ⟨g,hg⟩:∃ g,w.heap.size=g:=⟨_,rfl⟩
 have hB:=Blk.new w #[.slice iA fi.length icp,.slice sA fs.length scp,.slice dA fd.length dcp] 27
 rw [hg] at hB
 have hn0:Nx w (w.alloc (.cells #[.slice iA fi.length icp,.slice sA fs.length scp,.slice dA fd.length dcp] 27)):=nx0 _ _
 have HB:=Lib.hid hB
 have HN0:=Lib.hid hn0
 have HT:Hid (TabB w.heap.size w):=TabB.of ht
 have HRI:=Lib.hid hri
 have HRS:=Lib.hid hrs
 have HRD:=Lib.hid hrd
 have HOD:=Lib.hid hokd
 have HSH:=Lib.hid hsh
 have HG:=Lib.hid hg
 have hiI:(fi.length:Int)≤100000:=by omega
 have hsI:(fs.length:Int)≤100000:=by omega
 have hdI:(fd.length:Int)≤100000:=by omega
 clear hB hn0 ht hri hrs hrd hokd hsh hlen hsum hF1 hF hil hsl hdl
 show Calls _ _ #[.agg #[.slice iA fi.length icp,.slice sA fs.length scp,.slice dA fd.length dcp]] _ _
 go_enter Tryz.func23,Tryz.ntmps23
 go_upto_region 1 with fail
 generalize World.alloc w _=W0 at *
 clear hg
 obtain ⟨B,hB0⟩:∃ B,Hid (w.heap.size=B):=⟨_,Lib.hid rfl⟩
 rw [hB0.out] at HT
 have HO0:Hid (Ob B W0 (.slice none 0 0) []):=Ob.nil_ (by rw [← hB0.out];exact HN0.out.size)
 have HG0:Hid (Gw (.slice none 0 0) w (.slice none 0 0) W0):=Gw.nx HN0.out _
 have HBW:Hid (∀ v' w',Gw (.slice none 0 0) w v' w'→Blk w' g g #[.slice iA fi.length icp,.slice sA fs.length scp,.slice dA fd.length dcp] 27→Below B w w'):=fun v' w' h _=>h.below (Ob.nil_ (by rw [← hB0.out];exact Nat.le_refl _))
 clear HN0
 have k0:W0.cell? ⟨g,0,none⟩=some (.slice iA fi.length icp):=HB.out.cell 0
 go_wp2_with fail
 go_loopw [3,13] (fun bv' iv wr=>∃ i:Nat,iv = .int .i64 (i:Int)∧i≤fi.length∧Hid (Ob B wr bv' ([]++(fi.take i).flatMap incF))∧Hid (Gw (.slice none 0 0) w bv' wr)∧Hid (Blk wr g g #[.slice iA fi.length icp,.slice sA fs.length scp,.slice dA fd.length dcp] 27∧bv'.ownBlock≠some g)) (fun _ iv _=>(200000 - intOf iv).toNat)
 case atStart=>exact ⟨0,rfl,Nat.zero_le _,Lib.hid (HO0.out.cast (by simp)),HG0,Lib.hid ⟨HB.out,fun e=>by cases e⟩⟩
 case round =>
  obtain ⟨i,rfl,hi,HO,HGw,HBk⟩:=hrel
  have hiI2:(i:Int)≤100000:=by omega
  by_cases hlt:i<fi.length
  ·have q1:decide ((i:Int)<(fi.length:Int))=true:=decide_eq_true (by omega)
   have q2:(i:Int)<(fi.length:Int):=by omega
   have hr2:LT wr (No u3) (.slice iA fi.length icp) fi:=LT.lasts HGw.out.mvN HRI.out
   obtain ⟨A',ac',zs,hlv,hzl,hzc,hzm,hrd,hall⟩:=hr2.sl strA_size
   injection hlv with h1 h2 h3
   subst h1 h3
   clear h2
   obtain ⟨g2,rfl,hg2,hcs⟩:=hrd (by omega)
   have hz:zs[i]'(by omega)=fi[i]:=hall.at_ i (by omega) hlt
   obtain ⟨M,hM⟩:∃ M,fi[i]=M:=⟨_,rfl⟩
   obtain ⟨hst,hle⟩:=flat_step incF fi i hlt
   rw [hM] at hst hz
   have e0:wr.cell? ⟨g2,i,none⟩=some (.string ⟨M.toArray⟩):=by have:=hcs i (by omega) 0 (by decide);rw [hz,Nat.mul_one] at this;exact this
   have e0':wr.cell? ⟨g2,i * 1,none⟩=some (.string ⟨M.toArray⟩):=by rw [Nat.mul_one];exact e0
   have HST:=Lib.hid hst
   obtain ⟨h2,hh2⟩:∃ h,wr.heap.size=h:=⟨_,rfl⟩
   have hcall:=appendAll_new [[105,110,99,108,117,100,101,32,34],M,[34,10]] HO.out (by simp) (by
    have h1:=HSUM.out
    rw [hst] at hle
    simp only [incF,List.length_append,List.length_cons,List.length_nil,List.flatten_cons,List.flatten_nil] at hle ⊢
    omega) h2 hh2
   have HC:=Lib.hid hcall
   clear hst hle hcs hrd hall hr2 hM hz hzl hzc hzm hcall
   go_wp2_with fail
   refine HC.out.mono ?_;rintro e w3 ⟨v3,rfl,HO3,HG3⟩
   clear hh2 e0 e0'
   go_wp2_with fail
   go_roundw
   case rel=>exact ⟨i+1,by go_num,hlt,Lib.hid (HO3.out.cast (by rw [HST.out];simp [incF])),Lib.hid (HGw.out.trans HG3.out),Lib.hid (HG3.out.blk HBk.out.1 HBk.out.2)⟩
   case measure=>simp [intOf];omega
  ·obtain rfl:i=fi.length:=by omega
   have q1:decide ((fi.length:Int)<(fi.length:Int))=false:=decide_eq_false (by omega)
   rw [List.take_length] at HO
   obtain ⟨X,hX⟩:∃ X,Hid ([]++fi.flatMap incF=X):=⟨_,Lib.hid rfl⟩
   rw [hX.out] at HO
   have HSUM2:Hid ((X.length:Int)+(fs.flatMap spcF).length+(fd.flatMap (defF tenS sh)).length≤64000):=by have:=HSUM.out;unfold Hid;rw [← hX.out];exact this
   have HF2:Hid (F=(X++fs.flatMap spcF)++fd.flatMap (defF tenS sh)):=by rw [← hX.out];exact HF1.out
   have k1:wr.cell? ⟨g,1,none⟩=some (.slice sA fs.length scp):=HBk.out.1.cell 1
   have HOa:=HO
   have HGa:=HGw
   have HBa:=HBk
   clear hlt hi HO HGw HBk HSUM HF1 hX HRI k0 HO0 HG0 HB hiI
   generalize hu3:u3=va at *
   generalize hwr:wr=wa at *
   clear hu3 hwr
   go_wp2_with fail
   go_loopw [3,25] (fun bv' iv wr=>∃ i:Nat,iv = .int .i64 (i:Int)∧i≤fs.length∧Hid (Ob B wr bv' (X++(fs.take i).flatMap spcF))∧Hid (Gw (.slice none 0 0) w bv' wr)∧Hid (Blk wr g g #[.slice iA fi.length icp,.slice sA fs.length scp,.slice dA fd.length dcp] 27∧bv'.ownBlock≠some g)) (fun _ iv _=>(200000 - intOf iv).toNat)
   case atStart=>exact ⟨0,rfl,Nat.zero_le _,Lib.hid (HOa.out.cast (by simp)),HGa,HBa⟩
   case round =>
    obtain ⟨i,rfl,hi,HO,HGw,HBk⟩:=hrel
    clear HOa HGa HBa k1
    have hiI2:(i:Int)≤100000:=by omega
    by_cases hlt:i<fs.length
    ·have q1:decide ((i:Int)<(fs.length:Int))=true:=decide_eq_true (by omega)
     have q2:(i:Int)<(fs.length:Int):=by omega
     have hr2:LS wr (No u3) (.slice sA fs.length scp) fs:=LS.lasts HGw.out.mvN HRS.out
     obtain ⟨A',ac',zs,hlv,hzl,hzc,hzm,hrd,hall⟩:=hr2.sl spcA_size
     injection hlv with h1 h2 h3
     subst h1 h3
     clear h2
     obtain ⟨g2,rfl,hg2,hcs⟩:=hrd (by omega)
     have hz:zs[i]'(by omega)=fs[i]:=hall.at_ i (by omega) hlt
     obtain ⟨M,hM⟩:∃ M,fs[i]=M:=⟨_,rfl⟩
     obtain ⟨hst,hle⟩:=flat_step spcF fs i hlt
     rw [hM] at hst hz
     obtain ⟨ms,mn⟩:=M
     have hcell:∀ j,j<2→wr.cell? ⟨g2,i * 2+j,none⟩=(spcA ⟨ms,mn⟩)[j]?:=fun j hj=>by rw [hcs i (by omega) j hj,hz]
     have e0:wr.cell? ⟨g2,i * 2,none⟩=some (.string ⟨ms.toArray⟩):=hcell 0 (by decide)
     have e1:wr.cell? ⟨g2,i * 2+1,none⟩=some (.string ⟨mn.toArray⟩):=hcell 1 (by decide)
     have HST:=Lib.hid hst
     have hsp:(X.length:Int)+((fs.take i).flatMap spcF).length+ms.length+mn.length≤64000:=by
      have h1:=HSUM2.out
      rw [hst] at hle
      simp only [spcF,List.length_append,List.length_cons,List.length_nil] at hle
      omega
     have HSP:=Lib.hid hsp
     obtain ⟨ge,hge⟩:∃ h,wr.heap.size=h:=⟨_,rfl⟩
     clear hst hle hcs hrd hall hr2 hM hz hzl hzc hzm hcell hsp
     go_upto_region 10 with fail
     have hB4:=Blk.new wr #[.string ⟨ms.toArray⟩,.string ⟨mn.toArray⟩] 50
     rw [hge] at hB4
     have hn4:Nx wr (wr.alloc (.cells #[.string ⟨ms.toArray⟩,.string ⟨mn.toArray⟩] 50)):=nx0 _ _
     generalize World.alloc wr _=W1 at *
     have HO1:=Lib.hid (HO.out.nx hn4)
     have HG1:=Lib.hid (HGw.out.trans (Gw.nx hn4 u3))
     have HBk1:=Lib.hid (And.intro (HBk.out.1.below hn4) HBk.out.2)
     have c0:W1.cell? ⟨ge,0,none⟩=some (.string ⟨ms.toArray⟩):=hB4.cell 0
     have c1:W1.cell? ⟨ge,1,none⟩=some (.string ⟨mn.toArray⟩):=hB4.cell 1
     obtain ⟨h2,hh2⟩:∃ h,W1.heap.size=h:=⟨_,rfl⟩
     have hcall:=appendAll_new [[110,97,109,101,115,112,97,99,101,32],ms,[32],mn,[10]] HO1.out (by simp) (by
      have h1:=HSP.out
      simp only [List.length_append,List.length_cons,List.length_nil,List.flatten_cons,List.flatten_nil]
      omega) h2 hh2
     have HC:=Lib.hid hcall
     clear hcall hB4 hn4 HO HGw HBk hge e0 e1
     go_wp2_with fail
     refine HC.out.mono ?_;rintro e w3 ⟨v3,rfl,HO3,HG3⟩
     clear hh2 c0 c1
     go_wp2_with fail
     go_roundw
     case rel=>exact ⟨i+1,by go_num,hlt,Lib.hid (HO3.out.cast (by rw [HST.out];simp [spcF])),Lib.hid (HG1.out.trans HG3.out),Lib.hid (HG3.out.blk HBk1.out.1 HBk1.out.2)⟩
     case measure=>simp [intOf];omega
    ·obtain rfl:i=fs.length:=by omega
     have q1:decide ((fs.length:Int)<(fs.length:Int))=false:=decide_eq_false (by omega)
     rw [List.take_length] at HO
     obtain ⟨Y,hY⟩:∃ Y,Hid (X++fs.flatMap spcF=Y):=⟨_,Lib.hid rfl⟩
     rw [hY.out] at HO
     have HSUM3:Hid ((Y.length:Int)+(fd.flatMap (defF tenS sh)).length≤64000):=by have:=HSUM2.out;unfold Hid;rw [← hY.out,List.length_append];omega
     have HF3:Hid (F=Y++fd.flatMap (defF tenS sh)):=by rw [← hY.out];exact HF2.out
     have k2:wr.cell? ⟨g,2,none⟩=some (.slice dA fd.length dcp):=HBk.out.1.cell 2
     have HOa:=HO
     have HGa:=HGw
     clear hlt hi HO HGw HBk HSUM2 HF2 hY HRS hsI
     generalize hu3:u3=vb at *
     generalize hwr:wr=wb at *
     clear hu3 hwr
     go_wp2_with fail
     go_loopw [3,40] (fun bv' iv wr=>∃ i:Nat,iv = .int .i64 (i:Int)∧i≤fd.length∧Hid (Ob B wr bv' (Y++(fd.take i).flatMap (defF tenS sh)))∧Hid (Gw (.slice none 0 0) w bv' wr)) (fun _ iv _=>(200000 - intOf iv).toNat)
     case atStart=>exact ⟨0,rfl,Nat.zero_le _,Lib.hid (HOa.out.cast (by simp)),HGa⟩
     case round =>
      obtain ⟨i,rfl,hi,HO,HGw⟩:=hrel
      clear HOa HGa k2
      have hiI2:(i:Int)≤100000:=by omega
      by_cases hlt:i<fd.length
      ·have q1:decide ((i:Int)<(fd.length:Int))=true:=decide_eq_true (by omega)
       have q2:(i:Int)<(fd.length:Int):=by omega
       have hr2:LD wr (No u3) (.slice dA fd.length dcp) fd:=LD.lasts HGw.out.mvN HRD.out
       obtain ⟨A',ac',zs,hlv,hzl,hzc,hzm,hrd,hall⟩:=hr2.sl dfnA_size
       injection hlv with h1 h2 h3
       subst h1 h3
       clear h2
       obtain ⟨g2,rfl,hg2,hcs⟩:=hrd (by omega)
       obtain ⟨Z,hZ⟩:∃ Z,zs[i]'(by omega)=Z:=⟨_,rfl⟩
       have hrc:RD wr (No u3) Z fd[i]:=by
        have:=hall.at_ i (by omega) hlt
        rw [hZ] at this
        exact RD.lasts ⟨fun _ _ _=>rfl,fun _ h _=>h.1⟩ this
       obtain ⟨hst,hle⟩:=flat_step (defF tenS sh) fd i hlt
       obtain ⟨E,hE⟩:∃ E,Hid (defF tenS sh fd[i]=E):=⟨_,Lib.hid rfl⟩
       rw [hE.out] at hst
       have HST:=Lib.hid hst
       have hsp:(Y.length:Int)+((fd.take i).flatMap (defF tenS sh)).length+E.length≤64000:=by
        have h1:=HSUM3.out
        rw [hst] at hle
        simp only [List.length_append] at hle
        omega
       have HSP:=Lib.hid hsp
       obtain ⟨xk,xn,xt,⟨ik,im,idd,is,il⟩,xf,xm,xe,xv⟩:=Z
       have hq4:=hrc.2.2.2.1.slv
       obtain ⟨cA,ck,cc,hx1⟩:=hq4
       obtain ⟨fA,fc,-,hx2,-⟩:=hrc.2.2.2.2.1.sl fldA_size
       obtain ⟨mA,mc,-,hx3,-⟩:=hrc.2.2.2.2.2.1.sl memA_size
       obtain ⟨tA,tc,-,hx4,-⟩:=hrc.2.2.2.2.2.2.2.sl metA_size
       dsimp only at hx1 hx2 hx3 hx4
       obtain ⟨fk,hfk⟩:∃ k,(fd[i]).fields.length=k:=⟨_,rfl⟩
       obtain ⟨mk,hmk⟩:∃ k,(fd[i]).mems.length=k:=⟨_,rfl⟩
       obtain ⟨tk,htk⟩:∃ k,(fd[i]).mets.length=k:=⟨_,rfl⟩
       rw [hfk] at hx2
       rw [hmk] at hx3
       rw [htk] at hx4
       clear hfk hmk htk
       subst hx1 hx2 hx3 hx4
       have hcell:∀ j,j<12→wr.cell? ⟨g2,i * 12+j,none⟩=(dfnA ⟨xk,xn,xt,⟨ik,im,idd,is,.slice cA ck cc⟩,.slice fA fk fc,.slice mA mk mc,xe,.slice tA tk tc⟩)[j]?:=fun j hj=>by rw [hcs i (by omega) j hj,hZ]
       have e0:wr.cell? ⟨g2,i * 12,none⟩=some (.int .i64 (xk:Int)):=hcell 0 (by decide)
       have e1:wr.cell? ⟨g2,i * 12+1,none⟩=some (.string ⟨xn.toArray⟩):=hcell 1 (by decide)
       have e2:wr.cell? ⟨g2,i * 12+2,none⟩=some (.string ⟨xt.toArray⟩):=hcell 2 (by decide)
       have e3:wr.cell? ⟨g2,i * 12+3,none⟩=some (.int .i64 (ik:Int)):=hcell 3 (by decide)
       have e4:wr.cell? ⟨g2,i * 12+4,none⟩=some (.int .i64 im):=hcell 4 (by decide)
       have e5:wr.cell? ⟨g2,i * 12+5,none⟩=some (.int .u64 (idd:Int)):=hcell 5 (by decide)
       have e6:wr.cell? ⟨g2,i * 12+6,none⟩=some (.string ⟨is.toArray⟩):=hcell 6 (by decide)
       have e7:wr.cell? ⟨g2,i * 12+7,none⟩=some (.slice cA ck cc):=hcell 7 (by decide)
       have e8:wr.cell? ⟨g2,i * 12+8,none⟩=some (.slice fA fk fc):=hcell 8 (by decide)
       have e9:wr.cell? ⟨g2,i * 12+9,none⟩=some (.slice mA mk mc):=hcell 9 (by decide)
       have e10:wr.cell? ⟨g2,i * 12+10,none⟩=some (.string ⟨xe.toArray⟩):=hcell 10 (by decide)
       have e11:wr.cell? ⟨g2,i * 12+11,none⟩=some (.slice tA tk tc):=hcell 11 (by decide)
       have HRC:=Lib.hid hrc
       obtain ⟨ge,hge⟩:∃ h,wr.heap.size=h:=⟨_,rfl⟩
       clear hst hle hcs hrd hall hr2 hZ hzl hzc hzm hcell hsp hrc
       go_upto_region 15 with fail
       have hB4:=Blk.new wr #[.int .i64 (xk:Int),.string ⟨xn.toArray⟩,.string ⟨xt.toArray⟩,.int .i64 (ik:Int),.int .i64 im,.int .u64 (idd:Int),.string ⟨is.toArray⟩,.slice cA ck cc,.slice fA fk fc,.slice mA mk mc,.string ⟨xe.toArray⟩,.slice tA tk tc] 55
       rw [hge] at hB4
       have hn4:Nx wr (wr.alloc (.cells #[.int .i64 (xk:Int),.string ⟨xn.toArray⟩,.string ⟨xt.toArray⟩,.int .i64 (ik:Int),.int .i64 im,.int .u64 (idd:Int),.string ⟨is.toArray⟩,.slice cA ck cc,.slice fA fk fc,.slice mA mk mc,.string ⟨xe.toArray⟩,.slice tA tk tc] 55)):=nx0 _ _
       generalize World.alloc wr _=W1 at *
       have HO1:=Lib.hid (HO.out.nx hn4)
       have HG1:=Lib.hid (HGw.out.trans (Gw.nx hn4 u3))
       have c0:W1.cell? ⟨ge,0,none⟩=some (.int .i64 (xk:Int)):=hB4.cell 0
       have c1:W1.cell? ⟨ge,1,none⟩=some (.string ⟨xn.toArray⟩):=hB4.cell 1
       have c2:W1.cell? ⟨ge,2,none⟩=some (.string ⟨xt.toArray⟩):=hB4.cell 2
       have c3:W1.cell? ⟨ge,3,none⟩=some (.int .i64 (ik:Int)):=hB4.cell 3
       have c4:W1.cell? ⟨ge,4,none⟩=some (.int .i64 im):=hB4.cell 4
       have c5:W1.cell? ⟨ge,5,none⟩=some (.int .u64 (idd:Int)):=hB4.cell 5
       have c6:W1.cell? ⟨ge,6,none⟩=some (.string ⟨is.toArray⟩):=hB4.cell 6
       have c7:W1.cell? ⟨ge,7,none⟩=some (.slice cA ck cc):=hB4.cell 7
       have c8:W1.cell? ⟨ge,8,none⟩=some (.slice fA fk fc):=hB4.cell 8
       have c9:W1.cell? ⟨ge,9,none⟩=some (.slice mA mk mc):=hB4.cell 9
       have c10:W1.cell? ⟨ge,10,none⟩=some (.string ⟨xe.toArray⟩):=hB4.cell 10
       have c11:W1.cell? ⟨ge,11,none⟩=some (.slice tA tk tc):=hB4.cell 11
       have hcall:=appendDef_any HSH.out B W1 u3 (Y++(fd.take i).flatMap (defF tenS sh)) ⟨xk,xn,xt,⟨ik,im,idd,is,.slice cA ck cc⟩,.slice fA fk fc,.slice mA mk mc,xe,.slice tA tk tc⟩ fd[i] HO1.out (HT.out.on (HG1.out.below (Ob.nil_ (by rw [← hB0.out];exact Nat.le_refl _)))) (HRC.out.gw (Gw.nx hn4 u3)) (HOD.out _ (List.getElem_mem hlt))
        (by rw [hE.out];have h1:=HSP.out;simp only [List.length_append];omega)
       rw [hE.out] at hcall
       have HC:=Lib.hid hcall
       clear hcall hB4 hn4 HO HGw hge e0 e1 e2 e3 e4 e5 e6 e7 e8 e9 e10 e11 HRC
       go_wp2_with fail
       refine HC.out.mono ?_;rintro e w3 ⟨v3,rfl,ho,hg3⟩
       have HO3:=Lib.hid ho
       have HG3:=Lib.hid (HG1.out.trans hg3)
       clear ho hg3 c0 c1 c2 c3 c4 c5 c6 c7 c8 c9 c10 c11
       go_wp2_with fail
       go_roundw
       case rel=>exact ⟨i+1,by go_num,hlt,Lib.hid (HO3.out.cast (by rw [HST.out];simp only [List.append_assoc])),HG3⟩
       case measure=>simp [intOf];omega
      ·obtain rfl:i=fd.length:=by omega
       have q1:decide ((fd.length:Int)<(fd.length:Int))=false:=decide_eq_false (by omega)
       rw [List.take_length,← HF3.out] at HO
       obtain ⟨A2,c2',hv,h1,h2,hrd⟩:=HO.out.sl
       have HRD2:=Lib.hid hrd
       have HNX:Hid (Nx w wr):=HGw.out.toNx (Nx.refl w) (fun k e=>by cases e)
       subst hv
       clear hlt hi hrd h1 h2 HO HGw
       go_wp2_with (refine wpList_str _ rfl _ rfl Tryz.underlying34 Tryz.underlying5 Tryz.underlying9 _ _ _ rfl HRD2.out ?_;intro t HTT ht1 ht2)
       go_ret
       rw [HTT.out]
       exact ⟨rfl,HNX.out⟩
end Go.Proofs.YtjggghfekakogaaGreatDoor
namespace Go.Proofs.YtjggghfekakogaaGreatDoor
open Go.RowKit
def Txs (us:List ByteArray) (Ls:List (List UInt8)):Prop:=us=Ls.map fun l=>⟨l.toArray⟩
theorem Txs.at_ {us:List ByteArray} {Ls:List (List UInt8)} (h:Txs us Ls) (k:Nat) (hk:k<Ls.length):∃ h1:k<us.length,Tx us[k] (Ls.getD k []):=by
 unfold Txs at h
 subst h
 refine ⟨by simpa using hk,?_⟩
 rw [List.getElem_map,List.getD_eq_getElem?_getD,List.getElem?_eq_getElem hk]
 exact Tx.of _
def b_i32:List UInt8:=[105,51,50]
def b_string:List UInt8:=[115,116,114,105,110,103]
def b_bool:List UInt8:=[98,111,111,108]
def b_i64:List UInt8:=[105,54,52]
def b_binary:List UInt8:=[98,105,110,97,114,121]
def b_double:List UInt8:=[100,111,117,98,108,101]
def b_i8:List UInt8:=[105,56]
def b_i16:List UInt8:=[105,49,54]
def keyL (pre:List UInt8):List (List UInt8):=[b_i32,b_string,b_bool,pre++[69],b_i64,b_binary,b_double,b_i8]
def keyP (pre r:List UInt8):List UInt8×List UInt8:=((keyL pre).getD (numP 8 r).1 [],(numP 8 r).2)
def typL (pre:List UInt8):List (List UInt8):=[b_i32,b_string,b_bool,b_i8,b_i16,b_i64,b_double,b_binary,pre++[69],pre++[84],b_i32,b_string,pre++[80],pre++[85]]
def b_list:List UInt8:=[108,105,115,116,60]
def b_set:List UInt8:=[115,101,116,60]
def b_map:List UInt8:=[109,97,112,60]
def typP (pre:List UInt8):Nat→List UInt8→List UInt8×List UInt8
 | 0,r=>((typL pre).getD ((numP 18 r).1 % 12) [],(numP 18 r).2)
 | d+1,r =>
  if (numP 18 r).1<14 then ((typL pre).getD (numP 18 r).1 [],(numP 18 r).2)
  else if (numP 18 r).1<16 then (b_list++(typP pre d (numP 18 r).2).1++[62],(typP pre d (numP 18 r).2).2)
  else if (numP 18 r).1=16 then (b_set++(keyP pre (numP 18 r).2).1++[62],(keyP pre (numP 18 r).2).2)
  else (b_map++(keyP pre (numP 18 r).2).1++[44]++(typP pre d (keyP pre (numP 18 r).2).2).1++[62],(typP pre d (keyP pre (numP 18 r).2).2).2)
end Go.Proofs.YtjggghfekakogaaGreatDoor
namespace Go.Proofs.YtjggghfekakogaaGreatDoor
open Go.RowKit
structure ConA where
 k:Nat
 n:Int
 d:Nat
 s:List UInt8
def initL:List (List UInt8):=[[],[97],[120,32,121],[105,116,39,115]]
def boolL:List (List UInt8):=[[116,114,117,101],[102,97,108,115,101]]
def initP (t pre r:List UInt8):ConA×List UInt8 :=
 if (t == [105,51,50]) || (t == [105,54,52]) || (t == [105,49,54]) || (t == [105,56]) then (⟨1,((numP 200 r).1:Int) - 72,0,[]⟩,(numP 200 r).2)
 else if (t == [100,111,117,98,108,101]) then (⟨2,0,(numP 255 r).1 * 36028797018963968+(numP 255 (numP 255 r).2).1 * 1099511627776,[]⟩,(numP 255 (numP 255 r).2).2)
 else if (t == [115,116,114,105,110,103]) || (t == [98,105,110,97,114,121]) then (⟨3,0,0,initL.getD (numP 4 r).1 []⟩,(numP 4 r).2)
 else if (t == [98,111,111,108]) then (⟨4,0,0,boolL.getD (numP 2 r).1 []⟩,(numP 2 r).2)
 else if (t == pre++[69]) then (⟨4,0,0,pre++[69,46,65]⟩,r)
 else if (t == pre++[84]) then (⟨4,0,0,pre++[67]⟩,r)
 else (⟨5,0,0,[]⟩,r)
end Go.Proofs.YtjggghfekakogaaGreatDoor
namespace Go.Proofs.YtjggghfekakogaaGreatDoor
open Go.RowKit
def TypOf (pre t:List UInt8):Prop:=∃ r,t=(typP pre 3 r).1
def conO (c:ConA):Con:=.mk c.k c.n c.d c.s []
structure PFld (pre:List UInt8) (un:Bool) (i:Nat) (f:Fld):Prop where
 id:∃ n:Nat,n<3∧f.id=if f.hasID then 1+(i:Int)+(i:Int) * (n:Int) * 8 else 0
 req:f.req≤2
 ty:TypOf pre f.ty
 nm:f.nm=[102,(97+i).toUInt8]
 ini:f.hasIn=false∧f.ini=con0∨f.hasIn=true∧∃ r,f.ini=conO (initP f.ty pre r).1
 un:un=true→f.req=0∧f.hasIn=false
def AllI {α:Type} (P:Nat→α→Prop) (l:List α):Prop:=∀ j x,l[j]? = some x→P j x
theorem AllI.nil {α:Type} {P:Nat→α→Prop}:AllI P []:=fun j x h=>by simp at h
def PkS (w:World) (b:Nat):Prop:=∃ r,Pk w b r
structure PS (b g:Nat) (w0 w:World) (cs:Array Value) (r:List UInt8):Prop where
 blk:Blk w g g cs 59
 pk:Pk w b r
 oth:Oth b w0 w
theorem PS.put {b g:Nat} {w0 w:World} {cs:Array Value} {r:List UInt8} (h:PS b g w0 w cs r) (hgb:b<g) (hgw:w0.heap.size≤g) (i:Nat) (v:Value):PS b g w0 (w.setCell ⟨g,i,none⟩ v) (cs.setIfInBounds i v) r :=
 ⟨h.blk.put i v,h.pk.put hgb i v,h.oth.put hgw i v⟩
theorem PS.nx {b g:Nat} {w0 w w':World} {cs:Array Value} {r:List UInt8} (h:PS b g w0 w cs r) (hn:Nx w w'):PS b g w0 w' cs r :=
 ⟨h.blk.below hn,h.pk.nx hn,h.oth.trans (Oth.nx hn)⟩
theorem PS.fr {b g:Nat} {w0 w:World} {cs:Array Value} {r:List UInt8} (h:PS b g w0 w cs r) (i:Nat):w.frozen? ⟨g,i,none⟩=false:=h.blk.free i
def conZ:ConS:=⟨0,0,0,[],.slice none 0 0⟩
def conOS (c:ConA):ConS:=⟨c.k,c.n,c.d,c.s,.slice none 0 0⟩
def IniOf (pre T:List UInt8) (hI:Bool) (x:ConS) (c:Con):Prop:=hI=false∧x=conZ∧c=con0∨hI=true∧∃ r,x=conOS (initP T pre r).1∧c=conO (initP T pre r).1
theorem Pk.keep {w w':World} {b:Nat} {r:List UInt8} (h:Pk w b r) (hk:∀ k,k≤b→w'.heap[k]? = w.heap[k]?):Pk w' b r:=by
 obtain ⟨A,c,n,xs,hB,h1,h2,h3,h4⟩:=h
 refine ⟨A,c,n,xs,⟨hB.1,(hk b (Nat.le_refl _)).trans hB.2⟩,h1,h2,h3,fun h=>?_⟩
 obtain ⟨ab,off,e,hab,hc⟩:=h4 h
 refine ⟨ab,off,e,hab,fun j hj=>?_⟩
 rw [← hc j hj]
 unfold World.cell?
 simp only
 rw [hk ab (Nat.le_of_lt hab)]
theorem IniOf.nil {pre T:List UInt8} {hI:Bool} {k d:Nat} {n:Int} {s:List UInt8} {l:Value} {c:Con} (h:IniOf pre T hI ⟨k,n,d,s,l⟩ c):l = .slice none 0 0∧c = .mk k n d s []∧(hI=false∧c=con0∨hI=true∧∃ r,c=conO (initP T pre r).1):=by
 rcases h with ⟨h1,h2,h3⟩ | ⟨h1,r,h2,h3⟩
 ·simp only [conZ,ConS.mk.injEq] at h2
  obtain ⟨rfl,rfl,rfl,rfl,rfl⟩:=h2
  exact ⟨rfl,h3,.inl ⟨h1,h3⟩⟩
 ·simp only [conOS,ConS.mk.injEq] at h2
  obtain ⟨rfl,rfl,rfl,rfl,rfl⟩:=h2
  exact ⟨rfl,h3,.inr ⟨h1,r,h3⟩⟩
end Go.Proofs.YtjggghfekakogaaGreatDoor
namespace Go.Proofs.YtjggghfekakogaaGreatDoor
open Go.RowKit
section
variable (w:World) {o:Oper} {a:Act} {sz:Nat} {T2:TypeId} {z:Value} {α β:Type} {f:α→Array Value} {k:Nat} {T:TypeId} {R:World→(Nat→Prop)→α→β→Prop}
end
structure RW (b:Nat) (v:Value) (w w':World):Prop where
 os:w'.os=w.os
 tape:w'.tape=w.tape
 output:w'.output=w.output
 size:w.heap.size≤w'.heap.size
 block:∀ k,k<w.heap.size→k≠b→v.ownBlock≠some k→w'.heap[k]? = w.heap[k]?
theorem RW.refl (b:Nat) (v:Value) (w:World):RW b v w w:=⟨rfl,rfl,rfl,Nat.le_refl _,fun _ _ _ _=>rfl⟩
theorem RW.trans {b:Nat} {v:Value} {x y z:World} (h:RW b v x y) (k:RW b v y z):RW b v x z :=
 ⟨k.os.trans h.os,k.tape.trans h.tape,k.output.trans h.output,Nat.le_trans h.size k.size,fun i hi hb hv=>(k.block i (Nat.lt_of_lt_of_le hi h.size) hb hv).trans (h.block i hi hb hv)⟩
theorem RW.oth {b:Nat} {w w':World} (h:Oth b w w') (v:Value):RW b v w w':=⟨h.os,h.tape,h.output,h.size,fun k hk hb _=>h.block k hk hb⟩
theorem RW.fr {b:Nat} {v v':Value} {w w':World} (h:Fr b v w v' w'):RW b v w w':=⟨h.os,h.tape,h.output,h.size,h.block⟩
def ArgS (b:Nat) (lv:Value) (wr:World) (ls:Array Bool) (w:World):Prop:=PkS w b∧RW b lv wr w∧(ls.getD 14 false=false→Oth b wr w)
theorem getD_set14 (ls:Array Bool) (i:Nat) (h:i≠14):(ls.setIfInBounds i true).getD 14 false=ls.getD 14 false:=by
 rw [Array.getD_eq_getD_getElem?,Array.getD_eq_getD_getElem?,Array.getElem?_setIfInBounds_ne h]
theorem ArgS.set {b:Nat} {lv:Value} {wr w:World} {ls:Array Bool} (h:ArgS b lv wr ls w) (i:Nat) (hi:i≠14):ArgS b lv wr (ls.setIfInBounds i true) w :=
 ⟨h.1,h.2.1,fun e=>h.2.2 (by rw [getD_set14 ls i hi] at e;exact e)⟩
def ArgR (b:Nat) (lv:Value) (ls:Array Bool) (w w':World):Prop:=if (ls.getD 14 false || ls.getD 15 false)=true then w'=w else RW b lv w w'
theorem ArgR.refl {b:Nat} {lv:Value} {ls:Array Bool} {w:World}:ArgR b lv ls w w:=by
 unfold ArgR
 split
 ·rfl
 ·exact RW.refl _ _ _
theorem ArgR.rw {b:Nat} {lv:Value} {ls:Array Bool} {w w':World} (h14:ls.getD 14 false=false) (h15:ls.getD 15 false=false) (h:RW b lv w w'):ArgR b lv ls w w':=by
 unfold ArgR
 rw [h14,h15,if_neg (by simp)];exact h
end Go.Proofs.YtjggghfekakogaaGreatDoor
namespace Go.Proofs.YtjggghfekakogaaGreatDoor
open Go.RowKit
section
variable {α β:Type} {f:α→Array Value} {k:Nat} {T:TypeId} {R:World→(Nat→Prop)→α→β→Prop}
theorem RepL.built (hf:∀ x,(f x).size=k) {w:World} {P:Nat→Prop} {g:Nat} {cs:Array Value} {xs:List α} {l:List β} (hcs:cs.toList=rowL f xs) (hg:w.heap[g]? = some (.cells cs T (0,0))) (hP:P g) (hmax:xs.length≤maxLen)
  (hall:All2 (R w (But P (.slice (some ⟨g,0,none⟩) xs.length xs.length))) xs l):RepL f k T R w P (.slice (some ⟨g,0,none⟩) xs.length xs.length) l:=by
 refine ⟨xs,⟨⟨rowL_length hf xs,.inr ⟨g,xs.length,cs,rfl,Nat.zero_le _,hg,Nat.le_refl _,hmax,?_,?_⟩⟩,fun g' e=>?_⟩,hall⟩
 ·rw [← Array.length_toList,hcs,rowL_length hf]
 ·rw [hcs,← rowL_length hf xs,List.take_length]
 ·cases e;exact hP
end
theorem ply_ne {w:World} {α:Type} {f:α→Array Value} {k:Nat} {T:TypeId} {B:Nat} {v:Value} {xs:List α} (h:OwnS f k T w B v xs) {g:Nat} {cs:Array Value} {T':TypeId} {fr:Nat×Nat} (hg:w.heap[g]? = some (.cells cs T' fr)) (hT:T'≠T):v.ownBlock≠some g:=by
 intro e
 obtain ⟨-,h2⟩:=h
 rcases h2 with ⟨rfl,-⟩ | ⟨g',cap,cur,rfl,-,hh,-⟩
 ·cases e
 ·cases e
  rw [hg] at hh
  simp at hh
  exact hT hh.2.1
theorem RC.ne {w:World} {g:Nat} {cs:Array Value} {T':TypeId} {fr:Nat×Nat} (hg:w.heap[g]? = some (.cells cs T' fr)) (hT:T'≠48):∀ (n:Nat) {P:Nat→Prop} {x:ConS} {c:Con},RC n w P x c→RC n w (fun g'=>P g'∧g'≠g) x c
 | 0,_,_,_,h=>h
 | n+1,P,x,c,h=>by
  obtain ⟨l,e,ys,h1,h2⟩:=RC.of h
  subst e
  refine RC.mk ⟨ys,⟨h1.1,fun g' e=>⟨h1.2 g' e,fun h0=>ply_ne h1.1 hg hT (by rw [e,h0])⟩⟩,h2.mono fun y d hy=>?_⟩
  exact RC.lasts n (P:=fun g'=>But P x.l g'∧g'≠g) ⟨fun _ _ _=>rfl,fun g' hg' _=>⟨⟨hg'.1.1,hg'.2⟩,hg'.1.2⟩⟩ (RC.ne hg hT n hy)
theorem LF.ne {w:World} {g:Nat} {cs:Array Value} {T':TypeId} {fr:Nat×Nat} (hg:w.heap[g]? = some (.cells cs T' fr)) (hT:T'≠48) (hT2:T'≠59) {P:Nat→Prop} {v:Value} {l:List Fld} (h:LF w P v l):LF w (fun g'=>P g'∧g'≠g) v l:=by
 obtain ⟨ys,h1,h2⟩:=h
 refine ⟨ys,⟨h1.1,fun g' e=>⟨h1.2 g' e,fun h0=>ply_ne h1.1 hg hT2 (by rw [e,h0])⟩⟩,h2.mono fun y d hy=>?_⟩
 obtain ⟨a1,a2,a3,a4,a5,a6,a7⟩:=hy
 exact ⟨a1,a2,a3,a4,a5,a6,RC.lasts 13 (P:=fun g'=>But P v g'∧g'≠g) ⟨fun _ _ _=>rfl,fun g' hg' _=>⟨⟨hg'.1.1,hg'.2⟩,hg'.1.2⟩⟩ (RC.ne hg hT 13 a7)⟩
end Go.Proofs.YtjggghfekakogaaGreatDoor
namespace Go.Proofs.YtjggghfekakogaaGreatDoor
open Go.RowKit
def nV:Value:=.slice none 0 0
def bgD:Dfn:=⟨1,[97],[105,56],con0,[],[],[],[]⟩
def bgF:Fil:=⟨[],[],[bgD]⟩
theorem rd0 {w:World} {P:Nat→Prop} (k:Nat) (nm ty ext:List UInt8):RD w P ⟨k,nm,ty,⟨0,0,0,[],nV⟩,nV,nV,ext,nV⟩ ⟨k,nm,ty,con0,[],[],ext,[]⟩ :=
 ⟨rfl,rfl,rfl,rc_con0,RepL.nil_,RepL.nil_,rfl,RepL.nil_⟩
theorem rc1 {w:World} {P:Nat→Prop} (n:Nat) (k:Nat) (m:Int) (d:Nat) (s:List UInt8):RC (n+1) w P ⟨k,m,d,s,nV⟩ (.mk k m d s []):=RC.mk RepL.nil_
theorem nd_con0:nodC 13 con0≤64000:=by decide
theorem bg_nd:ndFil bgF:=⟨by decide,by decide,by decide,fun d hd=>by
 obtain rfl:d=bgD:=by simpa [bgF] using hd
 exact ⟨nd_con0,⟨by decide,fun f hf=>by cases hf⟩,by decide,by decide,fun m hm=>by cases hm⟩⟩
theorem bg_ok:prFil bgF:=⟨by decide,by decide,by decide,fun d hd=>by
 obtain rfl:d=bgD:=by simpa [bgF] using hd
 refine ⟨by decide,fun h=>absurd h (by decide),⟨by decide,fun f hf=>by cases hf⟩,⟨by decide,fun f hf=>by cases hf⟩,⟨by decide,fun f hf=>by cases hf⟩,fun _=>⟨rfl,rfl⟩,fun _=>rfl,fun _ _ _=>rfl⟩⟩
theorem bg_print (sh:Nat→List UInt8):printF tenS sh bgF=[116,121,112,101,100,101,102,32,105,56,32,97,10]:=by rfl
theorem bg_five (sh:Nat→List UInt8):constF tenS sh 1 (.mk 1 (-5) 0 [] [])=[45,53]:=by
 show tenS (-5)=_
 decide +kernel
theorem bg_same:eqFil bgF bgF=true:=by decide
theorem bg_not:eqFil bgF ⟨[],[],[]⟩=false:=by decide
set_option maxRecDepth 100000 in
set_option maxHeartbeats 6400000 in
theorem begun_any {sh:Nat→List UInt8} (hsh:∀ B l,ShowR B l→l=sh B) (w:World) (ht:Tab w) :
  Calls Tryz.prog 22 #[] w fun e w'=>e = .returned (.bool true)∧Nx w w':=by
 have HSH:=Lib.hid hsh
 have HT:=Lib.hid ht
 clear hsh ht
 go_enter Tryz.func22,Tryz.ntmps22
 go_upto_region 2 with fail
 obtain ⟨g,hg⟩:∃ g,w.heap.size=g:=⟨_,rfl⟩
 rw [hg]
 obtain ⟨W1,hW1⟩:∃ W1,w.alloc (.cells (dfnA ⟨1,[97],[105,56],⟨0,0,0,[],nV⟩,nV,nV,[],nV⟩) 55)=W1:=⟨_,rfl⟩
 have hB1:=heap_alloc_new w (.cells (dfnA ⟨1,[97],[105,56],⟨0,0,0,[],nV⟩,nV,nV,[],nV⟩) 55)
 have hn1:Nx w W1:=by rw [← hW1];exact nx0 _ _
 have hs1:W1.heap.size=g+1:=by rw [← hW1,← hg];simp
 rw [hW1,hg] at hB1
 obtain ⟨W,hW⟩:∃ W,W1.alloc (.cells (filA ⟨nV,nV,.slice (some ⟨g,0,none⟩) 1 1⟩) 27)=W:=⟨_,rfl⟩
 have hB2:=Blk.new W1 (filA ⟨nV,nV,.slice (some ⟨g,0,none⟩) 1 1⟩) 27
 have hn2:Nx W1 W:=by rw [← hW];exact nx0 _ _
 rw [hW,hs1] at hB2
 have hE:(w.alloc (.cells #[.int .i64 1,.string ⟨#[97]⟩,.string ⟨#[105,56]⟩,.int .i64 0,.int .i64 0,.int .u64 0,.string ⟨#[]⟩,.slice none 0 0,.slice none 0 0,.slice none 0 0,.string ⟨#[]⟩,.slice none 0 0] 55)).alloc (.cells #[.slice none 0 0,.slice none 0 0,.slice (some ⟨g,0,none⟩) 1 1] 27)=W:=by rw [← hW,← hW1];rfl
 rw [hE]
 have hB1':W.heap[g]? = some (.cells (dfnA ⟨1,[97],[105,56],⟨0,0,0,[],nV⟩,nV,nV,[],nV⟩) 55 (0,0)):=by rw [hn2.block g (by omega)];exact hB1
 have hf:RFile W An ⟨nV,nV,.slice (some ⟨g,0,none⟩) 1 1⟩ bgF :=
  ⟨RepL.nil_,RepL.nil_,RepL.built dfnA_size (xs:=[⟨1,[97],[105,56],⟨0,0,0,[],nV⟩,nV,nV,[],nV⟩]) rfl hB1' trivial (show 1≤maxLen by decide) ⟨rd0 _ _ _ _,trivial⟩⟩
 have hN:=hn1.trans hn2
 have hT:=TabB.of HT.out W hN
 have hc1:=print_any HSH.out W An _ bgF hT hf bg_ok (by rw [bg_print];decide)
 rw [bg_print] at hc1
 have HC1:=Lib.hid hc1
 have HF:=Lib.hid hf
 have HN:=Lib.hid hN
 have HB2:=Lib.hid hB2
 have c0:W.cell? ⟨g+1,0,none⟩=some (.slice none 0 0):=hB2.cell 0
 have c1:W.cell? ⟨g+1,1,none⟩=some (.slice none 0 0):=hB2.cell 1
 have c2:W.cell? ⟨g+1,2,none⟩=some (.slice (some ⟨g,0,none⟩) 1 1):=hB2.cell 2
 clear hE hB1' hf hN hT hc1 hW hW1 hB1 hn1 hs1 hB2 hn2 hg
 go_wp2_with fail
 refine HC1.out.mono ?_;rintro e w2 ⟨rfl,hx⟩
 have HN2:=Lib.hid (HN.out.trans hx)
 have HX:=Lib.hid hx
 clear hx c0 c1 c2 HC1
 have c0:w2.cell? ⟨g+1,0,none⟩=some (.slice none 0 0):=(HB2.out.below HX.out).cell 0
 have c1:w2.cell? ⟨g+1,1,none⟩=some (.slice none 0 0):=(HB2.out.below HX.out).cell 1
 have c2:w2.cell? ⟨g+1,2,none⟩=some (.slice (some ⟨g,0,none⟩) 1 1):=(HB2.out.below HX.out).cell 2
 have hc2:=printConst_any HSH.out 1 w2 An ⟨1,-5,0,[],nV⟩ (.mk 1 (-5) 0 [] []) (TabB.of HT.out w2 HN2.out) (rc1 0 1 (-5) 0 []) ⟨by decide,by decide,by decide,by decide,by decide,fun y hy=>by cases hy⟩ (by rw [bg_five];decide)
 rw [bg_five] at hc2
 have HC2:=Lib.hid hc2
 clear hc2
 go_wp2_with fail
 refine HC2.out.mono ?_;rintro e w3 ⟨rfl,hx⟩
 have HN3:=Lib.hid (HN2.out.trans hx)
 have HX:=Lib.hid (HX.out.trans hx)
 clear hx c0 c1 c2 HC2
 have c0:w3.cell? ⟨g+1,0,none⟩=some (.slice none 0 0):=(HB2.out.below HX.out).cell 0
 have c1:w3.cell? ⟨g+1,1,none⟩=some (.slice none 0 0):=(HB2.out.below HX.out).cell 1
 have c2:w3.cell? ⟨g+1,2,none⟩=some (.slice (some ⟨g,0,none⟩) 1 1):=(HB2.out.below HX.out).cell 2
 have hc3:=Same_any w3 ⟨nV,nV,.slice (some ⟨g,0,none⟩) 1 1⟩ ⟨nV,nV,.slice (some ⟨g,0,none⟩) 1 1⟩ bgF bgF (RFile.lasts (mvAn HX.out) HF.out) (RFile.lasts (mvAn HX.out) HF.out) bg_nd
 rw [bg_same] at hc3
 have HC3:=Lib.hid hc3
 clear hc3
 go_wp2_with fail
 refine HC3.out.mono ?_;rintro e w4 ⟨rfl,hx⟩
 have HN4:=Lib.hid (HN3.out.trans hx)
 have HX:=Lib.hid (HX.out.trans hx)
 clear hx c0 c1 c2 HC3
 have c0:w4.cell? ⟨g+1,0,none⟩=some (.slice none 0 0):=(HB2.out.below HX.out).cell 0
 have c1:w4.cell? ⟨g+1,1,none⟩=some (.slice none 0 0):=(HB2.out.below HX.out).cell 1
 have c2:w4.cell? ⟨g+1,2,none⟩=some (.slice (some ⟨g,0,none⟩) 1 1):=(HB2.out.below HX.out).cell 2
 have hc4:=Same_any w4 ⟨nV,nV,.slice (some ⟨g,0,none⟩) 1 1⟩ ⟨nV,nV,nV⟩ bgF ⟨[],[],[]⟩ (RFile.lasts (mvAn HX.out) HF.out) ⟨RepL.nil_,RepL.nil_,RepL.nil_⟩ bg_nd
 rw [bg_not] at hc4
 have HC4:=Lib.hid hc4
 clear hc4
 go_wp2_with fail
 refine HC4.out.mono ?_;rintro e w5 ⟨rfl,hx⟩
 have HN5:=Lib.hid (HN4.out.trans hx)
 clear hx c0 c1 c2 HC4
 go_wp2_with fail
 go_ret
 exact ⟨rfl,HN5.out⟩
end Go.Proofs.YtjggghfekakogaaGreatDoor
namespace Go.Proofs.YtjggghfekakogaaGreatDoor
def C7:Con:=.mk 1 7 0 [] []
def fm0:Fil:=⟨[[98]],[⟨[42],[120,46,121]⟩],[]⟩
def fm1:Fil:=⟨[],[],[⟨3,[99],[108,105,115,116,60,105,56,62],.mk 5 0 0 [] [C7,C7],[],[],[],[]⟩]⟩
def fm2:Fil:=⟨[],[],[⟨2,[69],[],con0,[],[⟨[65],false,0⟩,⟨[66],true,-3⟩],[],[]⟩]⟩
def fm3:Fil:=⟨[],[],[⟨5,[85],[],con0,[⟨true,2,2,[105,56],[97],true,C7⟩,⟨false,0,0,[98,46,67],[100],false,con0⟩],[],[],[]⟩]⟩
def fm4:Fil:=⟨[],[],[⟨7,[83],[],con0,[],[],[98,46,84],[⟨[109],true,[118,111,105,100],[],[]⟩,⟨[110],false,[105,56],[⟨true,1,0,[105,56],[97],false,con0⟩,⟨false,0,0,[105,56],[98],false,con0⟩],[⟨true,1,0,[88],[120],false,con0⟩]⟩]⟩,⟨6,[88],[],con0,[],[],[],[]⟩]⟩
def ft0:List UInt8:=[105,110,99,108,117,100,101,32,34,98,34,10,110,97,109,101,115,112,97,99,101,32,42,32,120,46,121,10]
def ft1:List UInt8:=[99,111,110,115,116,32,108,105,115,116,60,105,56,62,32,99,32,61,32,91,55,44,32,55,93,10]
def ft2:List UInt8:=[101,110,117,109,32,69,32,123,10,32,32,65,44,10,32,32,66,32,61,32,45,51,44,10,125,10]
def ft3:List UInt8:=[117,110,105,111,110,32,85,32,123,10,32,32,50,58,32,111,112,116,105,111,110,97,108,32,105,56,32,97,32,61,32,55,44,10,32,32,98,46,67,32,100,44,10,125,10]
def ft4:List UInt8:=[115,101,114,118,105,99,101,32,83,32,101,120,116,101,110,100,115,32,98,46,84,32,123,10,32,32,111,110,101,119,97,121,32,118,111,105,100,32,109,40,41,44,10,32,32,105,56,32,110,40,49,58,32,105,56,32,97,44,32,105,56,32,98,41,32,116,104,114,111,119,115,32,40,49,58,32,88,32,120,41,44,10,125,10,101,120,99,101,112,116,105,111,110,32,88,32,123,10,125,10]
theorem ten7:tenS 7=[55]:=by decide +kernel
theorem ten2:tenS 2=[50]:=by decide +kernel
theorem ten1:tenS 1=[49]:=by decide +kernel
theorem tenm3:tenS (-3)=[45,51]:=by decide +kernel
section
variable (sh:Nat→List UInt8)
theorem fp0:printF tenS sh fm0=ft0:=rfl
theorem fp1:printF tenS sh fm1=ft1:=by simp [printF,defF,fm1,constF,C7,ten7,commaF,wordD,ft1]
theorem fp2:printF tenS sh fm2=ft2:=by simp [printF,defF,fm2,memF,tenm3,wordD,ft2]
theorem fp3:printF tenS sh fm3=ft3:=by simp [printF,defF,fm3,fldL,fieldF,constF,C7,ten7,ten2,wordD,ft3]
theorem fp4:printF tenS sh fm4=ft4:=by simp [printF,defF,fm4,methodF,oneF,fieldF,fieldsF,commaF,ten1,wordD,ft4]
theorem fc0:constF tenS sh 1 (.mk 3 0 0 [97,34,98] [])=[39,97,34,98,39]:=by simp [constF]
theorem fc1:constF tenS sh 2 (.mk 6 0 0 [] [C7,C7,C7,C7])=[123,55,58,32,55,44,32,55,58,32,55,125]:=by simp [constF,C7,ten7,commaF,pairsF]
end
theorem fo0:prFil fm0:=by simp [prFil,fm0]
theorem fo1:prFil fm1:=by simp [prFil,fm1,prD,prC,C7]
theorem fo2:prFil fm2:=by simp [prFil,fm2,prD]
theorem fo3:prFil fm3:=by simp [prFil,fm3,prD,prF,prC,C7]
theorem fo4:prFil fm4:=by simp [prFil,fm4,prD,prM,prF,prC]
theorem show_one:ShowR 4607182418800017408 [49,46,48,101,48]:=by
 refine showR_of _ 0 10000000000000000 _ (by decide +kernel) (by decide) (by unfold GE10;decide +kernel) (by unfold GE10;decide +kernel) (by decide +kernel) ?_
 unfold showD
 rw [← decF_small 20 10000000000000000 (by decide)]
 decide +kernel
theorem fc2 {sh:Nat→List UInt8} (hsh:∀ B l,ShowR B l→l=sh B):constF tenS sh 1 (.mk 2 0 4607182418800017408 [] [])=[49,46,48,101,48]:=(hsh _ _ show_one).symm
end Go.Proofs.YtjggghfekakogaaGreatDoor
