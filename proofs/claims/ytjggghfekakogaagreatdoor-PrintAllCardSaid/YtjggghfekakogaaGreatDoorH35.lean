/- The document's printer: a file. Each number has one text, and how long it is. Plain. The document's printer of numbers is what its printer of constants is asked for. PrintAll: how a file is printed, and which files are the same. -/
import Derived.Test.YtjggghfekakogaaGreatDoorH34
import Derived.Test.YtjggghfekakogaaGreatDoorH06
import Derived.Test.YtjggghfekakogaaGreatDoorH23
import Derived.Test.YtjggghfekakogaaGreatDoorH09
import Derived.Test.YtjggghfekakogaaGreatDoorH29
import Derived.Test.YtjggghfekakogaaGreatDoorH02
set_option linter.unusedVariables false
set_option linter.unusedSimpArgs false
set_option linter.unnecessarySimpa false
namespace Go.Proofs.YtjggghfekakogaaGreatDoor
open Go.RowKit
set_option maxRecDepth 100000 in
set_option maxHeartbeats 6400000 in
theorem docPrint_any {tn:Int→List UInt8} {sh:Nat→List UInt8} (hN:PrN tn sh) (w:World) (P:Nat→Prop) (x:FilS) (f:Fil) (hr:RFile w P x f) (hok:okFil f)
  (hlen:((printF tn sh f).length:Int)≤1000000000) :
  Calls Tryz.prog 21 #[.agg (filA x)] w fun e w'=>e = .returned (.string ⟨(printF tn sh f).toArray⟩)∧Nx w w':=by
 obtain ⟨xi,xs,xd⟩:=x
 obtain ⟨fi,fs,fd⟩:=f
 obtain ⟨hri,hrs,hrd⟩:=hr
 obtain ⟨hil,hsl,hdl,hokd⟩:=hok
 dsimp only at hri hrs hrd hil hsl hdl hokd
 obtain ⟨F,hF⟩:∃ F,Hid (printF tn sh ⟨fi,fs,fd⟩=F):=⟨_,Lib.hid rfl⟩
 rw [hF.out] at hlen ⊢
 obtain ⟨iA,icp,iz,rfl,hizl,hizc,hizm,hird,hiall⟩:=hri.sl strA_size
 obtain ⟨sA,scp,sz,rfl,hszl,hszc,hszm,hsrd,hsall⟩:=hrs.sl spcA_size
 obtain ⟨dA,dcp,dz,rfl,hdzl,hdzc,hdzm,hdrd,hdall⟩:=hrd.sl dfnA_size
 have hF1:Hid (F=((([]++fi.flatMap incF)++fs.flatMap spcF)++fd.flatMap (defF tn sh))++[]):=by
  unfold Hid;rw [← hF.out,List.append_nil,List.nil_append];rfl
 obtain ⟨g,hg⟩:∃ g,w.heap.size=g:=⟨_,rfl⟩
 have hB:=Blk.new w #[.slice iA fi.length icp,.slice sA fs.length scp,.slice dA fd.length dcp] 27
 rw [hg] at hB
 have hn0:Nx w (w.alloc (.cells #[.slice iA fi.length icp,.slice sA fs.length scp,.slice dA fd.length dcp] 27)):=nx0 _ _
 have HB:=Lib.hid hB
 have HN0:=Lib.hid hn0
 have HLEN:=Lib.hid hlen
 have HN:=Lib.hid hN
 have HOD:=Lib.hid hokd
 have HIR:=Lib.hid hird
 have HIL:=Lib.hid hiall
 have HSR:=Lib.hid hsrd
 have HSL:=Lib.hid hsall
 have HDR:=Lib.hid hdrd
 have HDL:=Lib.hid hdall
 have HLI:=Lib.hid (show fi.length≤100000∧iz.length=fi.length from ⟨hil,hizl⟩)
 have HLS:=Lib.hid (show fs.length≤100000∧sz.length=fs.length from ⟨hsl,hszl⟩)
 have HLD:=Lib.hid (show fd.length≤100000∧dz.length=fd.length from ⟨hdl,hdzl⟩)
 have HSZ:Hid ((fi.flatMap incF).length+(fs.flatMap spcF).length+(fd.flatMap (defF tn sh)).length≤1000000000):=by
  have h:=hlen
  rw [hF1.out] at h
  simp only [List.length_append,List.length_nil] at h
  unfold Hid
  omega
 clear hlen hB hn0 hN hokd hird hiall hsrd hsall hdrd hdall hri hrs hrd hil hsl hdl hizl hszl hdzl hizc hizm hszc hszm hdzc hdzm hF
 show Calls _ _ #[.agg #[.slice iA fi.length icp,.slice sA fs.length scp,.slice dA fd.length dcp]] _ _
 go_enter Tryz.func21,Tryz.ntmps21
 go_upto_region 1 with fail
 generalize World.alloc w _=W0 at *
 clear hg
 have HT0:Hid (Tx ⟨#[]⟩ []):=(rfl:Tx ⟨#[]⟩ [])
 have HA0:Hid (([]:List UInt8).length+(fi.flatMap incF).length+(fs.flatMap spcF).length+(fd.flatMap (defF tn sh)).length≤1000000000):=by
  have:=HSZ.out;unfold Hid;simp only [List.length_nil];omega
 clear HSZ
 go_wp2_with fail
 go_loopw [3,4] (fun sv iv wr=>∃ (i:Nat) (S:ByteArray),iv = .int .i64 (i:Int)∧sv = .string S∧i≤fi.length∧Hid (Tx S ([]++(fi.take i).flatMap incF))∧Nx W0 wr) (fun _ iv _=>200000 - (intOf iv).toNat)
 case atStart=>exact ⟨0,_,rfl,rfl,Nat.zero_le _,by unfold Hid;simpa using HT0.out,Nx.refl _⟩
 case round =>
  obtain ⟨i,S,rfl,rfl,hi,HS,hn⟩:=hrel
  have HNX:=Lib.hid hn
  have hli:=HLI.out.1
  have hiI:(i:Int)≤100000:=by omega
  have k8:wr.cell? ⟨g,0,none⟩=some (.slice iA fi.length icp):=(HB.out.below hn).cell 0
  clear hn
  by_cases hlt:i<fi.length
  ·have q1:decide ((i:Int)<(fi.length:Int))=true:=decide_eq_true (by omega)
   have q2:(i:Int)<(fi.length:Int):=by omega
   have hzl:=HLI.out.2
   obtain ⟨hst,hle⟩:=flat_step incF fi i hlt
   have hlen:=HA0.out
   obtain ⟨g2,rfl,hg2,hcs⟩:=HIR.out (by omega)
   have hz:iz[i]'(by omega)=fi[i]:=HIL.out.at_ i (by omega) hlt
   obtain ⟨M,hM⟩:∃ M,fi[i]=M:=⟨_,rfl⟩
   rw [hM] at hst hz
   have hcell:∀ j,j<1→wr.cell? ⟨g2,i * 1+j,none⟩=(strA M)[j]?:=fun j hj=>by
    rw [(HN0.out.trans HNX.out).cell (p:=⟨g2,i * 1+j,none⟩) hg2,hcs i (by omega) j hj,hz]
   have e0:wr.cell? ⟨g2,i,none⟩=some (.string ⟨M.toArray⟩):=by have:=hcell 0 (by decide);rw [Nat.mul_one] at this;exact this
   have e0':wr.cell? ⟨g2,i * 1,none⟩=some (.string ⟨M.toArray⟩):=by rw [Nat.mul_one];exact e0
   have hzM:((⟨M.toArray⟩:ByteArray).size)=M.length:=(Tx.of M).size
   have hsz:S.size+9+M.length+2≤1000000000:=by
    have hm:incF M=([105,110,99,108,117,100,101,32,34]++M)++[34,10]:=rfl
    rw [hst,hm] at hle
    rw [HS.out.size]
    simp only [List.length_append,List.length_cons,List.length_nil] at hle hlen ⊢
    omega
   have HT:Hid (Tx (((S++⟨#[105,110,99,108,117,100,101,32,34]⟩)++⟨M.toArray⟩)++⟨#[34,10]⟩) ([]++(fi.take (i+1)).flatMap incF)):=by
    unfold Hid
    rw [hst]
    have hm:incF M=([105,110,99,108,117,100,101,32,34]++M)++[34,10]:=rfl
    rw [hm]
    have h:=((HS.out.cat (Tx.of [105,110,99,108,117,100,101,32,34])).cat (Tx.of M)).cat (Tx.of [34,10])
    simp only [List.append_assoc] at h ⊢
    exact h
   clear hst hle hcs hcell hM hz hlen hli hzl HLI HIR HIL HLS HLD HSR HSL HDR HDL HN HOD hF1 HA0 HT0 HLEN
   go_wp2_with fail
   go_roundw
   case rel=>exact ⟨i+1,_,by go_num,rfl,hlt,HT,HNX.out⟩
   case measure=>simp [intOf];omega
  ·obtain rfl:i=fi.length:=by omega
   have q1:decide ((fi.length:Int)<(fi.length:Int))=false:=decide_eq_false (by omega)
   have HT1:Hid (Tx S ([]++fi.flatMap incF)):=by
    have h:=HS.out
    rw [List.take_length] at h
    exact h
   obtain ⟨A1,hA⟩:∃ X,Hid ([]++fi.flatMap incF=X):=⟨_,Lib.hid rfl⟩
   rw [hA.out] at HT1 hF1
   have HA1:Hid (A1.length+(fs.flatMap spcF).length+(fd.flatMap (defF tn sh)).length≤1000000000):=by
    have h:=HA0.out
    unfold Hid
    rw [← hA.out,List.length_append]
    omega
   have HNY:=Lib.hid (HN0.out.trans HNX.out)
   have HBY:=Lib.hid (HB.out.below HNX.out)
   go_upto_region 6 with fail
   clear HN0 HB HS hA HA0 HT0 k8 q1 hi hlt hiI hli HLI HIR HIL HNX
   have HN0:=HNY
   have HB:=HBY
   clear HNY HBY
   generalize wr=W1 at *
   go_wp2_with fail
   go_loopw [3,5] (fun sv iv wr=>∃ (i:Nat) (S:ByteArray),iv = .int .i64 (i:Int)∧sv = .string S∧i≤fs.length∧Hid (Tx S (A1++(fs.take i).flatMap spcF))∧Nx W1 wr) (fun _ iv _=>200000 - (intOf iv).toNat)
   case atStart=>exact ⟨0,_,rfl,rfl,Nat.zero_le _,by unfold Hid;simpa using HT1.out,Nx.refl _⟩
   case round =>
    obtain ⟨i,S,rfl,rfl,hi,HS,hn⟩:=hrel
    have HNX:=Lib.hid hn
    have hli:=HLS.out.1
    have hiI:(i:Int)≤100000:=by omega
    have k8:wr.cell? ⟨g,1,none⟩=some (.slice sA fs.length scp):=(HB.out.below hn).cell 1
    clear hn
    by_cases hlt:i<fs.length
    ·have q1:decide ((i:Int)<(fs.length:Int))=true:=decide_eq_true (by omega)
     have q2:(i:Int)<(fs.length:Int):=by omega
     have hzl:=HLS.out.2
     obtain ⟨hst,hle⟩:=flat_step spcF fs i hlt
     have hlen:=HA1.out
     obtain ⟨g2,rfl,hg2,hcs⟩:=HSR.out (by omega)
     have hz:sz[i]'(by omega)=fs[i]:=HSL.out.at_ i (by omega) hlt
     obtain ⟨M,hM⟩:∃ M,fs[i]=M:=⟨_,rfl⟩
     rw [hM] at hst hz
     have hcell:∀ j,j<2→wr.cell? ⟨g2,i * 2+j,none⟩=(spcA M)[j]?:=fun j hj=>by
      rw [(HN0.out.trans HNX.out).cell (p:=⟨g2,i * 2+j,none⟩) hg2,hcs i (by omega) j hj,hz]
     have HCE:Hid (∀ wx,Nx wr wx→∀ j,j<2→wx.cell? ⟨g2,i * 2+j,none⟩=(spcA M)[j]?):=fun wx hx j hj=>by
      rw [((HN0.out.trans HNX.out).trans hx).cell (p:=⟨g2,i * 2+j,none⟩) hg2,hcs i (by omega) j hj,hz]
     obtain ⟨ea,eb⟩:=M
     have e0:wr.cell? ⟨g2,i * 2,none⟩=some (.string ⟨ea.toArray⟩):=hcell 0 (by decide)
     have e1:wr.cell? ⟨g2,i * 2+1,none⟩=some (.string ⟨eb.toArray⟩):=hcell 1 (by decide)
     have hza:((⟨ea.toArray⟩:ByteArray).size)=ea.length:=(Tx.of ea).size
     have hzb:((⟨eb.toArray⟩:ByteArray).size)=eb.length:=(Tx.of eb).size
     have hsz:S.size+10+ea.length+1+eb.length+1≤1000000000:=by
      have hm:spcF ⟨ea,eb⟩=((([110,97,109,101,115,112,97,99,101,32]++ea)++[32])++eb)++[10]:=rfl
      rw [hst,hm] at hle
      rw [HS.out.size]
      simp only [List.length_append,List.length_cons,List.length_nil] at hle hlen ⊢
      omega
     have HT:Hid (Tx (((((S++⟨#[110,97,109,101,115,112,97,99,101,32]⟩)++⟨ea.toArray⟩)++⟨#[32]⟩)++⟨eb.toArray⟩)++⟨#[10]⟩) (A1++(fs.take (i+1)).flatMap spcF)):=by
      unfold Hid
      rw [hst]
      have hm:spcF ⟨ea,eb⟩=((([110,97,109,101,115,112,97,99,101,32]++ea)++[32])++eb)++[10]:=rfl
      rw [hm]
      have h:=((((HS.out.cat (Tx.of [110,97,109,101,115,112,97,99,101,32])).cat (Tx.of ea)).cat (Tx.of [32])).cat (Tx.of eb)).cat (Tx.of [10])
      simp only [List.append_assoc] at h ⊢
      exact h
     clear hst hle hcs hcell hM hz hlen hli hzl HLS HLD HSR HSL HDR HDL HN HOD hF1 HA1 HT1 HLEN
     go_wp2_with fail
     have y1:¬ 9223372036854775807<S.size+10:=by omega
     have y2:¬ 9223372036854775807<S.size+10+ea.length:=by omega
     have y3:¬ 9223372036854775807<S.size+10+ea.length+1:=by omega
     have y4:¬ 9223372036854775807<S.size+10+ea.length+1+eb.length:=by omega
     have y5:¬ 9223372036854775807<S.size+10+ea.length+1+eb.length+1:=by omega
     have kg:∀ x:Gr wr,x.1.cell? ⟨g,1,none⟩=some (.slice (some ⟨g2,0,none⟩) fs.length scp):=fun x=>(HB.out.below (HNX.out.trans x.2)).cell 1
     have eg0:∀ x:Gr wr,x.1.cell? ⟨g2,i * 2,none⟩=some (.string ⟨ea.toArray⟩):=fun x=>HCE.out x.1 x.2 0 (by decide)
     have eg1:∀ x:Gr wr,x.1.cell? ⟨g2,i * 2+1,none⟩=some (.string ⟨eb.toArray⟩):=fun x=>HCE.out x.1 x.2 1 (by decide)
     refine wp_region_hyb [(0,true),(1,true),(2,true),(3,true),(4,true),(5,true),(6,true),(7,true),(8,true),(9,true),(10,true),(11,true),(12,true),(13,true),(14,true),(15,true),(16,true),(17,true),(18,true)] (by kernel_rfl) (by kernel_rfl) ?_
     iterate 19 (refine hyb_calm rfl (fun K hK=>?_);go_simp;refine hK _ ?_;clear hK K)
     refine hyb_nil (fun w8 hn8=>?_)
     go_wp2_with fail
     go_roundw
     case rel=>exact ⟨i+1,_,by go_num,rfl,hlt,HT,HNX.out.trans hn8⟩
     case measure=>simp [intOf];omega
    ·obtain rfl:i=fs.length:=by omega
     have q1:decide ((fs.length:Int)<(fs.length:Int))=false:=decide_eq_false (by omega)
     have HT2:Hid (Tx S (A1++fs.flatMap spcF)):=by
      have h:=HS.out
      rw [List.take_length] at h
      exact h
     obtain ⟨A2,hA⟩:∃ X,Hid (A1++fs.flatMap spcF=X):=⟨_,Lib.hid rfl⟩
     rw [hA.out] at HT2 hF1
     have HA2:Hid (A2.length+(fd.flatMap (defF tn sh)).length≤1000000000):=by
      have h:=HA1.out
      unfold Hid
      rw [← hA.out,List.length_append]
      omega
     have HNY:=Lib.hid (HN0.out.trans HNX.out)
     have HBY:=Lib.hid (HB.out.below HNX.out)
     go_upto_region 10 with fail
     clear HN0 HB HS hA HA1 HT1 k8 q1 hi hlt hiI hli HLS HSR HSL HNX
     have HN0:=HNY
     have HB:=HBY
     clear HNY HBY
     generalize wr=W2 at *
     go_wp2_with fail
     go_loopw [3,6] (fun sv iv wr=>∃ (i:Nat) (S:ByteArray),iv = .int .i64 (i:Int)∧sv = .string S∧i≤fd.length∧Hid (Tx S (A2++(fd.take i).flatMap (defF tn sh)))∧Nx W2 wr) (fun _ iv _=>200000 - (intOf iv).toNat)
     case atStart=>exact ⟨0,_,rfl,rfl,Nat.zero_le _,by unfold Hid;simpa using HT2.out,Nx.refl _⟩
     case round =>
      obtain ⟨i,S,rfl,rfl,hi,HS,hn⟩:=hrel
      have HNX:=Lib.hid hn
      have hli:=HLD.out.1
      have hiI:(i:Int)≤100000:=by omega
      have k8:wr.cell? ⟨g,2,none⟩=some (.slice dA fd.length dcp):=(HB.out.below hn).cell 2
      clear hn
      by_cases hlt:i<fd.length
      ·have q1:decide ((i:Int)<(fd.length:Int))=true:=decide_eq_true (by omega)
       have q2:(i:Int)<(fd.length:Int):=by omega
       have hzl:=HLD.out.2
       obtain ⟨hst,hle⟩:=flat_step (defF tn sh) fd i hlt
       have hlen:=HA2.out
       obtain ⟨g2,rfl,hg2,hcs⟩:=HDR.out (by omega)
       obtain ⟨Z,hZ⟩:∃ Z,Hid (dz[i]'(by omega)=Z):=⟨_,Lib.hid rfl⟩
       have hrc:RD wr (But P (.slice (some ⟨g2,0,none⟩) fd.length dcp)) Z fd[i]:=by
        have:=HDL.out.at_ i (by omega) hlt
        rw [hZ.out] at this
        exact this.keep (fun g' _ hl=>(HN0.out.trans HNX.out).block g' hl) (fun g' h _=>h)
       have hoki:=HOD.out _ (List.getElem_mem hlt)
       obtain ⟨E,hE⟩:∃ E,Hid (defF tn sh (fd[i]'hlt)=E):=⟨_,Lib.hid rfl⟩
       rw [hE.out] at hst
       have hsz:S.size+E.length≤1000000000:=by
        rw [hst] at hle
        rw [HS.out.size]
        simp only [List.length_append,List.length_cons,List.length_nil] at hle hlen ⊢
        omega
       have hcall:=Lib.hid (docDef_any HN.out wr _ Z fd[i] hrc hoki (by rw [hE.out];omega))
       rw [hE.out] at hcall
       obtain ⟨ek,en,et,⟨ck,cn,cd,cs,cl⟩,ef,em,ee,es⟩:=Z
       have hcell:∀ j,j<12→wr.cell? ⟨g2,i * 12+j,none⟩=(dfnA ⟨ek,en,et,⟨ck,cn,cd,cs,cl⟩,ef,em,ee,es⟩)[j]?:=fun j hj=>by
        rw [(HN0.out.trans HNX.out).cell (p:=⟨g2,i * 12+j,none⟩) hg2,hcs i (by omega) j hj,hZ.out]
       have e0:wr.cell? ⟨g2,i * 12,none⟩=some (.int .i64 (ek:Int)):=hcell 0 (by decide)
       have e1:wr.cell? ⟨g2,i * 12+1,none⟩=some (.string ⟨en.toArray⟩):=hcell 1 (by decide)
       have e2:wr.cell? ⟨g2,i * 12+2,none⟩=some (.string ⟨et.toArray⟩):=hcell 2 (by decide)
       have e3:wr.cell? ⟨g2,i * 12+3,none⟩=some (.int .i64 (ck:Int)):=hcell 3 (by decide)
       have e4:wr.cell? ⟨g2,i * 12+4,none⟩=some (.int .i64 cn):=hcell 4 (by decide)
       have e5:wr.cell? ⟨g2,i * 12+5,none⟩=some (.int .u64 (cd:Int)):=hcell 5 (by decide)
       have e6:wr.cell? ⟨g2,i * 12+6,none⟩=some (.string ⟨cs.toArray⟩):=hcell 6 (by decide)
       have e7:wr.cell? ⟨g2,i * 12+7,none⟩=some cl:=hcell 7 (by decide)
       have e8:wr.cell? ⟨g2,i * 12+8,none⟩=some ef:=hcell 8 (by decide)
       have e9:wr.cell? ⟨g2,i * 12+9,none⟩=some em:=hcell 9 (by decide)
       have e10:wr.cell? ⟨g2,i * 12+10,none⟩=some (.string ⟨ee.toArray⟩):=hcell 10 (by decide)
       have e11:wr.cell? ⟨g2,i * 12+11,none⟩=some es:=hcell 11 (by decide)
       have hzE:((⟨E.toArray⟩:ByteArray).size)=E.length:=(Tx.of E).size
       have HT:Hid (Tx (S++⟨E.toArray⟩) (A2++(fd.take (i+1)).flatMap (defF tn sh))):=by
        unfold Hid
        rw [hst,← List.append_assoc]
        exact HS.out.cat (Tx.of E)
       clear hcs hcell hrc hst hle hoki hE hZ hlen hli hzl HLD HDR HDL HOD hF1 HA2 HT2 HLEN
       go_wp2_with fail
       refine hcall.out.mono ?_;rintro e w5 ⟨rfl,hn5⟩
       go_wp2_with fail
       go_roundw
       case rel=>exact ⟨i+1,_,by go_num,rfl,hlt,HT,HNX.out.trans hn5⟩
       case measure=>simp [intOf];omega
      ·obtain rfl:i=fd.length:=by omega
       have q1:decide ((fd.length:Int)<(fd.length:Int))=false:=decide_eq_false (by omega)
       have HT3:Hid (Tx S (A2++fd.flatMap (defF tn sh))):=by
        have h:=HS.out
        rw [List.take_length] at h
        exact h
       have HR:Hid (S=⟨F.toArray⟩):=by
        have h:=HT3.out.eq
        unfold Hid
        rw [hF1.out,List.append_nil]
        exact h
       clear hlt hi
       go_wp2_with fail
       go_ret
       exact ⟨by first | rfl | (rw [HR.out];rfl),HN0.out.trans HNX.out⟩
end Go.Proofs.YtjggghfekakogaaGreatDoor
namespace Go.Proofs.YtjggghfekakogaaGreatDoor
open Go.RowKit
theorem ge10_ex (x y:Nat):∀ (n:Nat) (a:Int),GE10 x y a→¬ GE10 x y (a+(n:Int))→∃ T,a≤T∧GE10 x y T∧¬ GE10 x y (T+1)
 | 0,a,h1,h2=>absurd (by simpa using h1) h2
 | n+1,a,h1,h2=>by
  by_cases h:GE10 x y (a+1)
  ·obtain ⟨T,t1,t2,t3⟩:=ge10_ex x y n (a+1) h (by rw [show a+1+(n:Int)=a+((n+1:Nat):Int) by omega];exact h2)
   exact ⟨T,by omega,t2,t3⟩
  ·exact ⟨a,Int.le_refl _,h1,h⟩
theorem tail_len (l:List UInt8):(tailS l).length≤l.length+1:=by
 have:=trimB_len l
 unfold tailS
 split
 ·simp
 ·omega
theorem showR_ex (B:Nat):∃ l,ShowR B l∧l.length≤50:=by
 obtain ⟨b,hb⟩:∃ b,B % 9223372036854775808=b:=⟨_,rfl⟩
 have hs:(sgS B).length≤1:=by unfold sgS;split <;> simp
 unfold ShowR
 rw [hb]
 by_cases h1:LIM≤b
 ·exact ⟨[],by rw [if_pos h1],by simp⟩
 ·by_cases h2:b=0
  ·refine ⟨sgS B++[48,46,48,101,48],by rw [if_neg h1,if_pos h2],?_⟩
   rw [List.length_append];simp;omega
  ·have hlt:b<LIM:=by omega
   have hlo:=ex_lo b hlt h2
   have hhi:=ex_hi b hlt h2
   obtain ⟨T,t1,t2,t3⟩:=ge10_ex (exX b) (exY b) 800 (-400) hlo hhi
   have t4:T<400:=by
    rcases Int.lt_or_le T 400 with h | h
    ·exact h
    ·exact absurd (ge10_mono t2 h) hhi
   obtain ⟨d1,d2⟩:=digQ_b (exX b) (exY b) T (exY_pos b) t2 t3
   have hdl:=decS_len 17 (digQ (exX b) (exY b) T) (by omega)
   refine ⟨sgS B++showD T (digQ (exX b) (exY b) T),by rw [if_neg h1,if_neg h2];exact ⟨T,t2,t3,rfl⟩,?_⟩
   have htl:=tail_len ((decS (digQ (exX b) (exY b) T)).drop 1)
   have htn:=tenS_len (T+((decS (digQ (exX b) (exY b) T)).length:Nat) - 17) (by omega) (by omega)
   unfold showD
   simp only [List.length_append,List.length_cons,List.length_take]
   rw [List.length_drop] at htl
   omega
theorem tenS_len20 (v:Int) (h1 : -9223372036854775808≤v) (h2:v≤9223372036854775807):(tenS v).length≤20:=by
 unfold tenS
 split
 ·have:=decS_len 18 (-v).toNat (by omega);simp;omega
 ·have:=decS_len 18 v.toNat (by omega);omega
theorem sh_ex:∃ sh:Nat→List UInt8,(∀ B l,ShowR B l→l=sh B)∧∀ B,(sh B).length≤50 :=
 ⟨fun B=>Classical.choose (showR_ex B),fun B l h=>showR_one h (Classical.choose_spec (showR_ex B)).1,fun B=>(Classical.choose_spec (showR_ex B)).2⟩
end Go.Proofs.YtjggghfekakogaaGreatDoor
namespace Go.Proofs.YtjggghfekakogaaGreatDoor
open Go.RowKit
theorem prN_is {sh:Nat→List UInt8} (hsh:∀ B l,ShowR B l→l=sh B):PrN tenS sh where
 ten:=fun v w h1 h2=>tenText_any v w h1 h2
 sho:=fun B w hB=>(refShow_any B w hB).mono fun e w' ⟨t,l,he,ht,hs,hn⟩=>by
  subst he
  obtain rfl:=hsh B l hs.out
  exact ⟨by rw [ht.out.eq],hn⟩
end Go.Proofs.YtjggghfekakogaaGreatDoor
namespace Go.Proofs.YtjggghfekakogaaGreatDoor
open Go.RowKit
set_option maxRecDepth 100000 in
set_option maxHeartbeats 12800000 in
theorem PrintAll_walk (A:Option Addr) (xs:List UInt8) (c:Nat) (A2:Option Addr) (ys:List UInt8) (c2:Nat) (w:World) (ht:Tab w) (hr:Rd bv w A xs) (hc1:xs.length≤c) (hc2:c≤maxLen) (hr2:Rd bv w A2 ys) (hc3:ys.length≤c2) (hc4:c2≤maxLen) :
  Calls Tryz.prog 6 #[.slice A xs.length c,.slice A2 ys.length c2] w fun e w'=>e = .returned (.bool true)∧Below w.heap.size w w':=by
 obtain ⟨sh,hsh,hshl⟩:=sh_ex
 have HSH:=Lib.hid hsh
 have HSL:=Lib.hid hshl
 have HT:=Lib.hid ht
 have HR:=Lib.hid hr
 have HR2:=Lib.hid hr2
 clear hr hr2 hshl
 go_enter Tryz.func6,Tryz.ntmps6
 go_wp2_with fail
 refine (begun_any hsh w ht).mono ?_;rintro e w0 ⟨rfl,hb⟩
 have HB0:=Lib.hid hb
 clear hsh ht hb
 by_cases h1:150<xs.length
 ·have g1:decide ((xs.length:Int) > 150)=true:=decide_eq_true (by omega)
  have g2:(150:Int)<(xs.length:Int):=by omega
  clear h1 hc1 hc2 hc3 hc4
  go_wp2_with fail
  go_ret
  exact ⟨rfl,HB0.out⟩
 ·have g1:decide ((xs.length:Int) > 150)=false:=decide_eq_false (by omega)
  have g2:¬ (150:Int)<(xs.length:Int):=by omega
  have hx:xs.length≤1000:=by omega
  by_cases h2:150<ys.length
  ·have g3:decide ((ys.length:Int) > 150)=true:=decide_eq_true (by omega)
   have g4:(150:Int)<(ys.length:Int):=by omega
   clear h1 h2 hc1 hc2 hc3 hc4 hx
   go_wp2_with fail
   go_ret
   exact ⟨rfl,HB0.out⟩
  ·have g3:decide ((ys.length:Int) > 150)=false:=decide_eq_false (by omega)
   have g4:¬ (150:Int)<(ys.length:Int):=by omega
   have hy:ys.length≤1000:=by omega
   have HX:=Lib.hid hx
   have HY:=Lib.hid hy
   clear h1 h2 hc1 hc2 hc3 hc4 hx hy
   go_wp2_with fail
   refine (plMade_any A xs c w0 (HR.out.below HB0.out) HX.out).mono ?_;rintro e w1 ⟨b,rfl,hpk,hn1,hbb⟩
   have HN1:=Lib.hid hn1
   have HBB:=Lib.hid hbb
   have HPK:=Lib.hid hpk
   clear hpk hn1 hbb g1 g2 g3 g4
   go_wp2_with fail
   refine (plFiles_any b xs w1 HPK.out).mono ?_;rintro e w2 ⟨v,rfl,fls,r',hlf,hpf,-,hoth⟩
   have hL:LenN tenS sh:=⟨tenS_len20,fun B _=>HSL.out B⟩
   obtain ⟨h0,h2,hin⟩:=files_in hL hpf
   have hgood:=files_g hL hpf _ (List.getElem_mem h0)
   obtain ⟨g,fc,⟨xi,xs',xd⟩,rfl,hg,hcell,hrf⟩:=files_first hlf h0
   obtain ⟨hok,hpl⟩:=hin _ (List.getElem_mem h0)
   generalize fls[0]=f0 at hrf hok hpl hgood
   have HN2:Hid (Nx w0 w2):=hoth.to HN1.out HBB.out
   have HG:=Lib.hid hg
   have HCL:=Lib.hid hcell
   have HRF:Hid (RFile w2 An ⟨xi,xs',xd⟩ f0):=RFile.lasts ⟨fun _ _ _=>rfl,fun _ _ _=>trivial⟩ hrf
   have HOK:=Lib.hid hok
   have HPL:=Lib.hid hpl
   have HGD:=Lib.hid hgood
   have hq0:(0:Int)<(fls.length:Int):=by omega
   have HQ0:=Lib.hid hq0
   clear hlf hpf hoth hL h0 h2 hin hgood hg hcell hrf hok hpl HN1 HBB HPK hq0
   generalize fls.length=n1 at *
   go_wp2_with fail
   refine (plMade_any A2 ys c2 w2 (HR2.out.below (HB0.out.trans HN2.out)) HY.out).mono ?_;rintro e w3 ⟨b2,rfl,hpk,hn1,hbb⟩
   have HN1:=Lib.hid hn1
   have HBB:=Lib.hid hbb
   have HPK:=Lib.hid hpk
   clear hpk hn1 hbb
   go_wp2_with fail
   refine (plFiles_any b2 ys w3 HPK.out).mono ?_;rintro e w4 ⟨v,rfl,fls,r',hlf,hpf,-,hoth⟩
   have hL:LenN tenS sh:=⟨tenS_len20,fun B _=>HSL.out B⟩
   obtain ⟨h0,-,-⟩:=files_in hL hpf
   obtain ⟨g',fc',⟨yi,ys',yd⟩,rfl,hg,hcell,hrf⟩:=files_first hlf h0
   generalize fls[0]=f1 at hrf
   have HN4:Hid (Nx w2 w4):=hoth.to HN1.out HBB.out
   have HG2:=Lib.hid hg
   have HCL2:=Lib.hid hcell
   have HRF2:Hid (RFile w4 An ⟨yi,ys',yd⟩ f1):=RFile.lasts ⟨fun _ _ _=>rfl,fun _ _ _=>trivial⟩ hrf
   have hq1:(0:Int)<(fls.length:Int):=by omega
   clear hlf hpf hoth hL h0 hg hcell hrf HN1 HBB HPK
   generalize fls.length=n2 at *
   have hq0:(0:Int)<(n1:Int):=HQ0.out
   have hz0:0<n1:=by omega
   have hz1:0<n2:=by omega
   obtain ⟨F,hF⟩:∃ F,Hid (printF tenS sh f0=F):=⟨_,Lib.hid rfl⟩
   obtain ⟨R,hR⟩:∃ R,Hid (eqFil f0 f1=R):=⟨_,Lib.hid rfl⟩
   have hWN:∀ y,Nx w4 y→Nx w y:=fun y h=>((HB0.out.trans HN2.out).trans HN4.out).trans h
   have hrx:∀ y,Nx w4 y→RFile y An ⟨xi,xs',xd⟩ f0:=fun y h=>RFile.lasts (mvAn (HN4.out.trans h)) HRF.out
   have hry:∀ y,Nx w4 y→RFile y An ⟨yi,ys',yd⟩ f1:=fun y h=>RFile.lasts (mvAn h) HRF2.out
   have hp1:∀ y,Nx w4 y→Calls Tryz.prog 23 #[.agg #[xi,xs',xd]] y fun e w'=>e = .returned (.string ⟨F.toArray⟩)∧Nx y w':=fun y h=>by
    have:=print_any HSH.out y An ⟨xi,xs',xd⟩ f0 (TabB.of HT.out y (hWN y h)) (hrx y h) HGD.out.1 (by have:=HPL.out;omega)
    rw [hF.out] at this;exact this
   have hp2:∀ y,Nx w4 y→Calls Tryz.prog 21 #[.agg #[xi,xs',xd]] y fun e w'=>e = .returned (.string ⟨F.toArray⟩)∧Nx y w':=fun y h=>by
    have:=docPrint_any (prN_is HSH.out) y An ⟨xi,xs',xd⟩ f0 (hrx y h) HOK.out (by have:=HPL.out;omega)
    rw [hF.out] at this;exact this
   have hs1:∀ y,Nx w4 y→Calls Tryz.prog 24 #[.agg #[xi,xs',xd],.agg #[yi,ys',yd]] y fun e w'=>e = .returned (.bool R)∧Nx y w':=fun y h=>by
    have:=Same_any y ⟨xi,xs',xd⟩ ⟨yi,ys',yd⟩ f0 f1 (hrx y h) (hry y h) HGD.out.2.1
    rw [hR.out] at this;exact this
   have hs2:∀ y,Nx w4 y→Calls Tryz.prog 13 #[.agg #[xi,xs',xd],.agg #[yi,ys',yd]] y fun e w'=>e = .returned (.bool R)∧Nx y w':=fun y h=>by
    have:=dSame y ⟨xi,xs',xd⟩ ⟨yi,ys',yd⟩ f0 f1 (hrx y h) (hry y h) HGD.out.2.2.1
    rw [hR.out] at this;exact this
   have hs3:∀ y,Nx w4 y→Calls Tryz.prog 24 #[.agg #[xi,xs',xd],.agg #[xi,xs',xd]] y fun e w'=>e = .returned (.bool true)∧Nx y w':=fun y h=>by
    have:=Same_any y ⟨xi,xs',xd⟩ ⟨xi,xs',xd⟩ f0 f0 (hrx y h) (hrx y h) HGD.out.2.1
    rw [eqFil_refl f0 HGD.out.2.2.2] at this;exact this
   have HP1:=Lib.hid hp1
   have HP2:=Lib.hid hp2
   have HS1:=Lib.hid hs1
   have HS2:=Lib.hid hs2
   have HS3:=Lib.hid hs3
   have HWN:=Lib.hid hWN
   have e0:∀ y:Gr w4,y.1.cell? ⟨g,0,none⟩=some xi:=fun y=>((HN4.out.trans y.2).cell (p:=⟨g,0,none⟩) HG.out).trans (HCL.out 0 (by decide))
   have e1:∀ y:Gr w4,y.1.cell? ⟨g,1,none⟩=some xs':=fun y=>((HN4.out.trans y.2).cell (p:=⟨g,1,none⟩) HG.out).trans (HCL.out 1 (by decide))
   have e2:∀ y:Gr w4,y.1.cell? ⟨g,2,none⟩=some xd:=fun y=>((HN4.out.trans y.2).cell (p:=⟨g,2,none⟩) HG.out).trans (HCL.out 2 (by decide))
   have d0:∀ y:Gr w4,y.1.cell? ⟨g',0,none⟩=some yi:=fun y=>((y.2:Nx w4 y.1).cell (p:=⟨g',0,none⟩) HG2.out).trans (HCL2.out 0 (by decide))
   have d1:∀ y:Gr w4,y.1.cell? ⟨g',1,none⟩=some ys':=fun y=>((y.2:Nx w4 y.1).cell (p:=⟨g',1,none⟩) HG2.out).trans (HCL2.out 1 (by decide))
   have d2:∀ y:Gr w4,y.1.cell? ⟨g',2,none⟩=some yd:=fun y=>((y.2:Nx w4 y.1).cell (p:=⟨g',2,none⟩) HG2.out).trans (HCL2.out 2 (by decide))
   clear hp1 hp2 hs1 hs2 hs3 hWN hrx hry HRF HRF2 HCL HCL2 HG HG2 HGD HOK HPL HQ0 HN2 HN4
   go_wp2_with fail
   refine wp_region_hyb [(0,true),(1,true),(2,true),(4,true),(5,true),(6,true),(3,false),(7,false),(8,true),(9,true),(10,true),(11,true),(12,true),(13,true),(14,true),(15,true),(17,true),(18,true),(19,true),(20,true),(21,true),(22,true),(16,false),(23,false),(24,true),(25,true),(26,true),(27,true),(28,true),(29,true),(30,true),(31,true),(32,true),(33,false),(34,true),(35,true)] (by kernel_rfl) (by kernel_rfl) ?_
   iterate 6 (refine hyb_calm rfl (fun K hK=>?_);go_simp;refine hK _ ?_;clear hK K)
   refine hyb_alone rfl (fun v1 hv1 K hK=>?_)
   go_simp
   refine (HP1.out v1 hv1).mono ?_;rintro e v2 ⟨rfl,hv2⟩
   refine hK _ _ hv2 ?_
   clear hK K
   refine hyb_alone rfl (fun v3 hv3 K hK=>?_)
   go_simp
   refine (HP2.out v3 ((hv1.trans hv2).trans hv3)).mono ?_;rintro e v4 ⟨rfl,hv4⟩
   refine hK _ _ hv4 ?_
   clear hK K
   have HV4:=Lib.hid (((hv1.trans hv2).trans hv3).trans hv4)
   clear hv1 hv2 hv3 hv4
   have me0:∀ y:Gr v4,y.1.cell? ⟨g,0,none⟩=some xi:=fun y=>e0 ⟨y.1,HV4.out.trans y.2⟩
   have me1:∀ y:Gr v4,y.1.cell? ⟨g,1,none⟩=some xs':=fun y=>e1 ⟨y.1,HV4.out.trans y.2⟩
   have me2:∀ y:Gr v4,y.1.cell? ⟨g,2,none⟩=some xd:=fun y=>e2 ⟨y.1,HV4.out.trans y.2⟩
   have md0:∀ y:Gr v4,y.1.cell? ⟨g',0,none⟩=some yi:=fun y=>d0 ⟨y.1,HV4.out.trans y.2⟩
   have md1:∀ y:Gr v4,y.1.cell? ⟨g',1,none⟩=some ys':=fun y=>d1 ⟨y.1,HV4.out.trans y.2⟩
   have md2:∀ y:Gr v4,y.1.cell? ⟨g',2,none⟩=some yd:=fun y=>d2 ⟨y.1,HV4.out.trans y.2⟩
   iterate 14 (refine hyb_calm rfl (fun K hK=>?_);go_simp;refine hK _ ?_;clear hK K)
   refine hyb_alone rfl (fun v5 hv5 K hK=>?_)
   go_simp
   refine (HS1.out v5 (HV4.out.trans hv5)).mono ?_;rintro e v6 ⟨rfl,hv6⟩
   refine hK _ _ hv6 ?_
   clear hK K
   refine hyb_alone rfl (fun v7 hv7 K hK=>?_)
   go_simp
   refine (HS2.out v7 (((HV4.out.trans hv5).trans hv6).trans hv7)).mono ?_;rintro e v8 ⟨rfl,hv8⟩
   refine hK _ _ hv8 ?_
   clear hK K
   have HV8:=Lib.hid ((((HV4.out.trans hv5).trans hv6).trans hv7).trans hv8)
   clear hv5 hv6 hv7 hv8
   have ke0:∀ y:Gr v8,y.1.cell? ⟨g,0,none⟩=some xi:=fun y=>e0 ⟨y.1,HV8.out.trans y.2⟩
   have ke1:∀ y:Gr v8,y.1.cell? ⟨g,1,none⟩=some xs':=fun y=>e1 ⟨y.1,HV8.out.trans y.2⟩
   have ke2:∀ y:Gr v8,y.1.cell? ⟨g,2,none⟩=some xd:=fun y=>e2 ⟨y.1,HV8.out.trans y.2⟩
   have kd0:∀ y:Gr v8,y.1.cell? ⟨g',0,none⟩=some yi:=fun y=>d0 ⟨y.1,HV8.out.trans y.2⟩
   have kd1:∀ y:Gr v8,y.1.cell? ⟨g',1,none⟩=some ys':=fun y=>d1 ⟨y.1,HV8.out.trans y.2⟩
   have kd2:∀ y:Gr v8,y.1.cell? ⟨g',2,none⟩=some yd:=fun y=>d2 ⟨y.1,HV8.out.trans y.2⟩
   iterate 9 (refine hyb_calm rfl (fun K hK=>?_);go_simp;refine hK _ ?_;clear hK K)
   refine hyb_alone rfl (fun v9 hv9 K hK=>?_)
   go_simp
   refine (HS3.out v9 (HV8.out.trans hv9)).mono ?_;rintro e v10 ⟨rfl,hv10⟩
   refine hK _ _ hv10 ?_
   clear hK K
   iterate 2 (refine hyb_calm rfl (fun K hK=>?_);go_simp;refine hK _ ?_;clear hK K)
   refine hyb_nil (fun v11 hv11=>?_)
   have HV:=Lib.hid (((HV8.out.trans hv9).trans hv10).trans hv11)
   clear hv9 hv10 hv11 e0 e1 e2 d0 d1 d2 me0 me1 me2 md0 md1 md2 ke0 ke1 ke2 kd0 kd1 kd2
   go_wp2_with fail
   go_ret
   exact ⟨rfl,HWN.out _ HV.out⟩
end Go.Proofs.YtjggghfekakogaaGreatDoor
