/- The code's printer: blocks of lines. -/
import Derived.Test.YtjggghfekakogaaGreatDoorH26
set_option linter.unusedVariables false
set_option linter.unusedSimpArgs false
set_option linter.unnecessarySimpa false
namespace Go.Proofs.YtjggghfekakogaaGreatDoor
open Go.RowKit
set_option maxRecDepth 100000 in
set_option maxHeartbeats 6400000 in
theorem blockMem_any {sh:Nat→List UInt8} (hsh:∀ B l,ShowR B l→l=sh B) (B:Nat) (w:World) (v lv:Value) (xs hd:List UInt8) (hs:ByteArray) (l:List Mem) (hown:Ob B w v xs) (ht:TabB B w) (hh:Tx hs hd) (hr:LMm w (No v) lv l) (hll:l.length≤100000) (hok:∀ y ∈ l,-9223372036854775808≤y.n∧y.n≤9223372036854775807)
  (hlen:(xs.length:Int)+(hd.length:Int)+((l.flatMap fun y=>[32,32]++memG y++[44,10]).length:Int)≤63995) :
  Calls Tryz.prog 91 #[v,.string hs,lv,.func (.func 92) #[] #[]] w fun e w'=>∃ v',e = .returned v'∧Hid (Ob B w' v' (xs++([hd,[32,123,10]].flatten++(l.flatMap fun y=>[32,32]++memG y++[44,10])++[125,10])))∧Hid (Gw v w v' w'):=by
 obtain ⟨A,ac,zs,hlv,hzl,hzc,hzm,hrd,hall⟩:=hr.sl memA_size
 have HR:=Lib.hid hr
 subst hlv
 obtain ⟨EL,hEL⟩:∃ EL:Mem→List UInt8,Hid ((fun y=>[32,32]++memG y++[44,10])=EL):=⟨_,Lib.hid rfl⟩
 rw [hEL.out] at hlen ⊢
 obtain ⟨h0,hh0⟩:∃ h,w.heap.size=h:=⟨_,rfl⟩
 have hse:hs=⟨hd.toArray⟩:=hh.eq
 subst hse
 have hcall:=appendAll_new [hd,[32,123,10]] hown (by simp) (by simp;omega) h0 hh0
 have HC:=Lib.hid hcall
 have HOWN:=Lib.hid hown
 have HT:=Lib.hid ht
 have HOK:=Lib.hid hok
 have HLEN:=Lib.hid hlen
 have HSH:=Lib.hid hsh
 have hnI:(l.length:Int)≤100000:=by omega
 clear hown ht hok hlen hr hrd hall hzl hzc hzm hsh hh hcall
 go_enter Tryz.func91,Tryz.ntmps91
 go_wp2_with fail
 refine HC.out.mono ?_;rintro e w1 ⟨v1,rfl,HOa,HGa⟩
 obtain ⟨X,hX⟩:∃ X,Hid (xs++[hd,[32,123,10]].flatten=X):=⟨_,Lib.hid rfl⟩
 rw [hX.out] at HOa
 have HXL:Hid ((X.length:Int)+((l.flatMap EL).length:Int)≤63998):=by
  have:=HLEN.out;unfold Hid;rw [← hX.out];simp only [List.length_append,List.flatten_cons,List.flatten_nil,List.length_cons,List.length_nil];omega
 clear hh0 HC HLEN
 go_wp2_with fail
 go_loopw [0,17] (fun bv' iv wr=>∃ i:Nat,iv = .int .i64 (i:Int)∧i≤l.length∧Hid (Ob B wr bv' (X++(l.take i).flatMap EL))∧Hid (Gw v w bv' wr)) (fun _ iv _=>(200000 - intOf iv).toNat)
 case atStart=>exact ⟨0,rfl,Nat.zero_le _,Lib.hid (HOa.out.cast (by simp)),HGa⟩
 case round =>
  obtain ⟨i,rfl,hi,HO,HG⟩:=hrel
  clear HOa HGa
  have hiI:(i:Int)≤100000:=by omega
  by_cases hlt:i<l.length
  ·have q1:decide ((i:Int)<(l.length:Int))=true:=decide_eq_true (by omega)
   have q2:(i:Int)<(l.length:Int):=by omega
   have hr2:=LMm.gw HR.out HG.out
   obtain ⟨A',ac',zs,hlv,hzl,hzc,hzm,hrd,hall⟩:=hr2.sl memA_size
   injection hlv with h1 h2 h3
   subst h1 h3
   clear h2
   obtain ⟨g2,rfl,hg2,hcs⟩:=hrd (by omega)
   obtain ⟨Z,hZ⟩:∃ Z,zs[i]'(by omega)=Z:=⟨_,rfl⟩
   have hrc:Z=l[i]:=by
    have:=hall.at_ i (by omega) hlt
    rw [hZ] at this
    exact this
   obtain ⟨hst,hle⟩:=flat_step EL l i hlt
   have hte:EL l[i]=[32,32]++memG l[i]++[44,10]:=by rw [← hEL.out]
   obtain ⟨E,hE⟩:∃ E,Hid (memG l[i]=E):=⟨_,Lib.hid rfl⟩
   rw [hE.out] at hte
   rw [hte] at hst
   have HST:=Lib.hid hst
   have HSUM:Hid ((X.length:Int)+((l.take i).flatMap EL).length+E.length≤63994):=by
    have h1:=HXL.out
    rw [hst] at hle
    simp only [List.length_append,List.length_cons,List.length_nil] at hle
    unfold Hid;omega
   obtain ⟨zn,zb,zi⟩:=Z
   have hcell:∀ j,j<3→wr.cell? ⟨g2,i * 3+j,none⟩=(memA ⟨zn,zb,zi⟩)[j]?:=fun j hj=>by rw [hcs i (by omega) j hj,hZ]
   have e0:wr.cell? ⟨g2,i * 3,none⟩=some (.string ⟨zn.toArray⟩):=hcell 0 (by decide)
   have e1:wr.cell? ⟨g2,i * 3+1,none⟩=some (.bool zb):=hcell 1 (by decide)
   have e2:wr.cell? ⟨g2,i * 3+2,none⟩=some (.int .i64 zi):=hcell 2 (by decide)
   have HRC:=Lib.hid hrc
   clear hst hle hte hcs hcell hrd hall hr2 hZ hrc hzl hzc hzm
   obtain ⟨g,hg⟩:∃ g,wr.heap.size=g:=⟨_,rfl⟩
   go_upto_region 5 with fail
   have hB4:=Blk.new wr #[.string ⟨zn.toArray⟩,.bool zb,.int .i64 zi] 57
   rw [hg] at hB4
   have hn4:Nx wr (wr.alloc (.cells #[.string ⟨zn.toArray⟩,.bool zb,.int .i64 zi] 57)):=nx0 _ _
   generalize World.alloc wr _=W1 at *
   have HO1:=Lib.hid (HO.out.nx hn4)
   have HG1:=Lib.hid (HG.out.trans (Gw.nx hn4 u0))
   have hne:u0.ownBlock≠some g:=by rw [← hg];exact HO.out.new
   have HB4:=Lib.hid hB4
   have HNE:=Lib.hid hne
   have HN4:=Lib.hid hn4
   clear hB4 hn4 hne hg HO HG e0 e1 e2
   generalize hu:u0=v1 at *
   clear hu
   go_upto_region 6 with (refine wpList_apS _ rfl _ _ rfl _ (X++(l.take i).flatMap EL) rfl HO1.out ⟨#[32,32]⟩ [32,32] (Tx.of _) rfl (by have:=HSUM.out;simp only [List.length_append,List.length_cons,List.length_nil];omega) ?_;intro v5 w5 ho hg;have HO5:=Lib.hid ho;have HG5:=Lib.hid hg;clear ho hg)
   obtain ⟨hB5,-⟩:=HG5.out.blk HB4.out HNE.out
   have c0:w5.cell? ⟨g,0,none⟩=some (.string ⟨zn.toArray⟩):=hB5.cell 0
   have c1:w5.cell? ⟨g,1,none⟩=some (.bool zb):=hB5.cell 1
   have c2:w5.cell? ⟨g,2,none⟩=some (.int .i64 zi):=hB5.cell 2
   have HGe:=Lib.hid (HG1.out.trans HG5.out)
   have HT5:=Lib.hid (HT.out.on (HGe.out.below HOWN.out))
   have hcall:=appendMember_any B w5 v5 (X++(l.take i).flatMap EL++[32,32]) ⟨zn,zb,zi⟩ HO5.out HT5.out (by have:=HRC.out;rw [this];exact (HOK.out _ (List.getElem_mem hlt)).1) (by have:=HRC.out;rw [this];exact (HOK.out _ (List.getElem_mem hlt)).2) (by have:=HRC.out;rw [this,hE.out];have:=HSUM.out;simp only [List.length_append,List.length_cons,List.length_nil];omega)
   have hrcq:=HRC.out
   rw [show memG ⟨zn,zb,zi⟩=memG l[i] by rw [hrcq]] at hcall
   clear hrcq
   rw [hE.out] at hcall
   have HCALL:=Lib.hid hcall
   clear hB5 hcall HO1 HG1 HB4 HNE
   go_wp2_with fail
   refine HCALL.out.mono ?_;rintro e w6 ⟨v6,rfl,ho,hg6⟩
   have HO6:=Lib.hid ho;have HG6:=Lib.hid (HGe.out.trans hg6)
   clear ho hg6 c0 c1 c2
   go_wp2_with (refine wpList_apS _ rfl _ _ rfl _ (X++(l.take i).flatMap EL++[32,32]++E) rfl HO6.out ⟨#[44,10]⟩ [44,10] (Tx.of _) rfl (by have:=HSUM.out;simp only [List.length_append,List.length_cons,List.length_nil];omega) ?_;intro v7 w7 ho hg;have HO7:=Lib.hid ho;have HG7:=Lib.hid (HG6.out.trans hg);clear ho hg)
   go_roundw
   case rel=>exact ⟨i+1,by go_num,hlt,Lib.hid (HO7.out.cast (by rw [HST.out];simp only [List.append_assoc])),HG7⟩
   case measure=>simp [intOf];omega
  ·obtain rfl:i=l.length:=by omega
   have q1:decide ((l.length:Int)<(l.length:Int))=false:=decide_eq_false (by omega)
   rw [List.take_length] at HO
   clear hlt hi
   go_wp2_with (refine wpList_apS _ rfl _ _ rfl _ (X++l.flatMap EL) rfl HO.out ⟨#[125,10]⟩ [125,10] (Tx.of _) rfl (by have:=HXL.out;simp only [List.length_append,List.length_cons,List.length_nil];omega) ?_;intro v1 w1 ho hg;have HO3:=Lib.hid ho;have HG3:=Lib.hid (HG.out.trans hg);clear ho hg)
   go_ret
   exact ⟨_,rfl,Lib.hid (HO3.out.cast (by rw [← hX.out];simp only [List.append_assoc])),HG3⟩
set_option maxRecDepth 100000 in
set_option maxHeartbeats 6400000 in
theorem blockFld_any {sh:Nat→List UInt8} (hsh:∀ B l,ShowR B l→l=sh B) (B:Nat) (w:World) (v lv:Value) (xs hd:List UInt8) (hs:ByteArray) (l:List Fld) (hown:Ob B w v xs) (ht:TabB B w) (hh:Tx hs hd) (hr:LF w (No v) lv l) (hll:l.length≤100000) (hok:∀ y ∈ l,prF y)
  (hlen:(xs.length:Int)+(hd.length:Int)+((l.flatMap fun y=>[32,32]++fieldF tenS sh y++[44,10]).length:Int)≤63995) :
  Calls Tryz.prog 93 #[v,.string hs,lv,.func (.func 94) #[] #[]] w fun e w'=>∃ v',e = .returned v'∧Hid (Ob B w' v' (xs++([hd,[32,123,10]].flatten++(l.flatMap fun y=>[32,32]++fieldF tenS sh y++[44,10])++[125,10])))∧Hid (Gw v w v' w'):=by
 obtain ⟨A,ac,zs,hlv,hzl,hzc,hzm,hrd,hall⟩:=hr.sl fldA_size
 have HR:=Lib.hid hr
 subst hlv
 obtain ⟨EL,hEL⟩:∃ EL:Fld→List UInt8,Hid ((fun y=>[32,32]++fieldF tenS sh y++[44,10])=EL):=⟨_,Lib.hid rfl⟩
 rw [hEL.out] at hlen ⊢
 obtain ⟨h0,hh0⟩:∃ h,w.heap.size=h:=⟨_,rfl⟩
 have hse:hs=⟨hd.toArray⟩:=hh.eq
 subst hse
 have hcall:=appendAll_new [hd,[32,123,10]] hown (by simp) (by simp;omega) h0 hh0
 have HC:=Lib.hid hcall
 have HOWN:=Lib.hid hown
 have HT:=Lib.hid ht
 have HOK:=Lib.hid hok
 have HLEN:=Lib.hid hlen
 have HSH:=Lib.hid hsh
 have hnI:(l.length:Int)≤100000:=by omega
 clear hown ht hok hlen hr hrd hall hzl hzc hzm hsh hh hcall
 go_enter Tryz.func93,Tryz.ntmps93
 go_wp2_with fail
 refine HC.out.mono ?_;rintro e w1 ⟨v1,rfl,HOa,HGa⟩
 obtain ⟨X,hX⟩:∃ X,Hid (xs++[hd,[32,123,10]].flatten=X):=⟨_,Lib.hid rfl⟩
 rw [hX.out] at HOa
 have HXL:Hid ((X.length:Int)+((l.flatMap EL).length:Int)≤63998):=by
  have:=HLEN.out;unfold Hid;rw [← hX.out];simp only [List.length_append,List.flatten_cons,List.flatten_nil,List.length_cons,List.length_nil];omega
 clear hh0 HC HLEN
 go_wp2_with fail
 go_loopw [0,17] (fun bv' iv wr=>∃ i:Nat,iv = .int .i64 (i:Int)∧i≤l.length∧Hid (Ob B wr bv' (X++(l.take i).flatMap EL))∧Hid (Gw v w bv' wr)) (fun _ iv _=>(200000 - intOf iv).toNat)
 case atStart=>exact ⟨0,rfl,Nat.zero_le _,Lib.hid (HOa.out.cast (by simp)),HGa⟩
 case round =>
  obtain ⟨i,rfl,hi,HO,HG⟩:=hrel
  clear HOa HGa
  have hiI:(i:Int)≤100000:=by omega
  by_cases hlt:i<l.length
  ·have q1:decide ((i:Int)<(l.length:Int))=true:=decide_eq_true (by omega)
   have q2:(i:Int)<(l.length:Int):=by omega
   have hr2:=LF.gw HR.out HG.out
   obtain ⟨A',ac',zs,hlv,hzl,hzc,hzm,hrd,hall⟩:=hr2.sl fldA_size
   injection hlv with h1 h2 h3
   subst h1 h3
   clear h2
   obtain ⟨g2,rfl,hg2,hcs⟩:=hrd (by omega)
   obtain ⟨Z,hZ⟩:∃ Z,zs[i]'(by omega)=Z:=⟨_,rfl⟩
   have hrc:RF wr (No u0) Z l[i]:=by
    have:=hall.at_ i (by omega) hlt
    rw [hZ] at this
    exact RF.lasts ⟨fun _ _ _=>rfl,fun _ h _=>h.1⟩ this
   obtain ⟨hst,hle⟩:=flat_step EL l i hlt
   have hte:EL l[i]=[32,32]++fieldF tenS sh l[i]++[44,10]:=by rw [← hEL.out]
   obtain ⟨E,hE⟩:∃ E,Hid (fieldF tenS sh l[i]=E):=⟨_,Lib.hid rfl⟩
   rw [hE.out] at hte
   rw [hte] at hst
   have HST:=Lib.hid hst
   have HSUM:Hid ((X.length:Int)+((l.take i).flatMap EL).length+E.length≤63994):=by
    have h1:=HXL.out
    rw [hst] at hle
    simp only [List.length_append,List.length_cons,List.length_nil] at hle
    unfold Hid;omega
   obtain ⟨zh,zi,zq,zt,zn,zb,⟨ek,ei,ed,es,el⟩⟩:=Z
   obtain ⟨lA,lk,lc,hlq⟩:=hrc.2.2.2.2.2.2.slv
   dsimp only at hlq
   subst hlq
   have hcell:∀ j,j<11→wr.cell? ⟨g2,i * 11+j,none⟩=(fldA ⟨zh,zi,zq,zt,zn,zb,⟨ek,ei,ed,es,.slice lA lk lc⟩⟩)[j]?:=fun j hj=>by rw [hcs i (by omega) j hj,hZ]
   have e0:wr.cell? ⟨g2,i * 11,none⟩=some (.bool zh):=hcell 0 (by decide)
   have e1:wr.cell? ⟨g2,i * 11+1,none⟩=some (.int .i64 zi):=hcell 1 (by decide)
   have e2:wr.cell? ⟨g2,i * 11+2,none⟩=some (.int .i64 (zq:Int)):=hcell 2 (by decide)
   have e3:wr.cell? ⟨g2,i * 11+3,none⟩=some (.string ⟨zt.toArray⟩):=hcell 3 (by decide)
   have e4:wr.cell? ⟨g2,i * 11+4,none⟩=some (.string ⟨zn.toArray⟩):=hcell 4 (by decide)
   have e5:wr.cell? ⟨g2,i * 11+5,none⟩=some (.bool zb):=hcell 5 (by decide)
   have e6:wr.cell? ⟨g2,i * 11+6,none⟩=some (.int .i64 (ek:Int)):=hcell 6 (by decide)
   have e7:wr.cell? ⟨g2,i * 11+7,none⟩=some (.int .i64 ei):=hcell 7 (by decide)
   have e8:wr.cell? ⟨g2,i * 11+8,none⟩=some (.int .u64 (ed:Int)):=hcell 8 (by decide)
   have e9:wr.cell? ⟨g2,i * 11+9,none⟩=some (.string ⟨es.toArray⟩):=hcell 9 (by decide)
   have e10:wr.cell? ⟨g2,i * 11+10,none⟩=some (.slice lA lk lc):=hcell 10 (by decide)
   have HRC:=Lib.hid hrc
   clear hst hle hte hcs hcell hrd hall hr2 hZ hrc hzl hzc hzm
   obtain ⟨g,hg⟩:∃ g,wr.heap.size=g:=⟨_,rfl⟩
   go_upto_region 5 with fail
   have hB4:=Blk.new wr #[.bool zh,.int .i64 zi,.int .i64 (zq:Int),.string ⟨zt.toArray⟩,.string ⟨zn.toArray⟩,.bool zb,.int .i64 (ek:Int),.int .i64 ei,.int .u64 (ed:Int),.string ⟨es.toArray⟩,.slice lA lk lc] 59
   rw [hg] at hB4
   have hn4:Nx wr (wr.alloc (.cells #[.bool zh,.int .i64 zi,.int .i64 (zq:Int),.string ⟨zt.toArray⟩,.string ⟨zn.toArray⟩,.bool zb,.int .i64 (ek:Int),.int .i64 ei,.int .u64 (ed:Int),.string ⟨es.toArray⟩,.slice lA lk lc] 59)):=nx0 _ _
   generalize World.alloc wr _=W1 at *
   have HO1:=Lib.hid (HO.out.nx hn4)
   have HG1:=Lib.hid (HG.out.trans (Gw.nx hn4 u0))
   have hne:u0.ownBlock≠some g:=by rw [← hg];exact HO.out.new
   have HB4:=Lib.hid hB4
   have HNE:=Lib.hid hne
   have HN4:=Lib.hid hn4
   clear hB4 hn4 hne hg HO HG e0 e1 e2 e3 e4 e5 e6 e7 e8 e9 e10
   generalize hu:u0=v1 at *
   clear hu
   go_upto_region 6 with (refine wpList_apS _ rfl _ _ rfl _ (X++(l.take i).flatMap EL) rfl HO1.out ⟨#[32,32]⟩ [32,32] (Tx.of _) rfl (by have:=HSUM.out;simp only [List.length_append,List.length_cons,List.length_nil];omega) ?_;intro v5 w5 ho hg;have HO5:=Lib.hid ho;have HG5:=Lib.hid hg;clear ho hg)
   obtain ⟨hB5,-⟩:=HG5.out.blk HB4.out HNE.out
   have c0:w5.cell? ⟨g,0,none⟩=some (.bool zh):=hB5.cell 0
   have c1:w5.cell? ⟨g,1,none⟩=some (.int .i64 zi):=hB5.cell 1
   have c2:w5.cell? ⟨g,2,none⟩=some (.int .i64 (zq:Int)):=hB5.cell 2
   have c3:w5.cell? ⟨g,3,none⟩=some (.string ⟨zt.toArray⟩):=hB5.cell 3
   have c4:w5.cell? ⟨g,4,none⟩=some (.string ⟨zn.toArray⟩):=hB5.cell 4
   have c5:w5.cell? ⟨g,5,none⟩=some (.bool zb):=hB5.cell 5
   have c6:w5.cell? ⟨g,6,none⟩=some (.int .i64 (ek:Int)):=hB5.cell 6
   have c7:w5.cell? ⟨g,7,none⟩=some (.int .i64 ei):=hB5.cell 7
   have c8:w5.cell? ⟨g,8,none⟩=some (.int .u64 (ed:Int)):=hB5.cell 8
   have c9:w5.cell? ⟨g,9,none⟩=some (.string ⟨es.toArray⟩):=hB5.cell 9
   have c10:w5.cell? ⟨g,10,none⟩=some (.slice lA lk lc):=hB5.cell 10
   have HGe:=Lib.hid (HG1.out.trans HG5.out)
   have HT5:=Lib.hid (HT.out.on (HGe.out.below HOWN.out))
   have hcall:=appendField_any HSH.out B w5 v5 (X++(l.take i).flatMap EL++[32,32]) ⟨zh,zi,zq,zt,zn,zb,⟨ek,ei,ed,es,.slice lA lk lc⟩⟩ l[i] HO5.out HT5.out ((HRC.out.gw (Gw.nx HN4.out v1)).gw HG5.out) (HOK.out _ (List.getElem_mem hlt)) (by rw [hE.out];have:=HSUM.out;simp only [List.length_append,List.length_cons,List.length_nil];omega)
   rw [hE.out] at hcall
   have HCALL:=Lib.hid hcall
   clear hB5 hcall HO1 HG1 HB4 HNE
   go_wp2_with fail
   refine HCALL.out.mono ?_;rintro e w6 ⟨v6,rfl,ho,hg6⟩
   have HO6:=Lib.hid ho;have HG6:=Lib.hid (HGe.out.trans hg6)
   clear ho hg6 c0 c1 c2 c3 c4 c5 c6 c7 c8 c9 c10
   go_wp2_with (refine wpList_apS _ rfl _ _ rfl _ (X++(l.take i).flatMap EL++[32,32]++E) rfl HO6.out ⟨#[44,10]⟩ [44,10] (Tx.of _) rfl (by have:=HSUM.out;simp only [List.length_append,List.length_cons,List.length_nil];omega) ?_;intro v7 w7 ho hg;have HO7:=Lib.hid ho;have HG7:=Lib.hid (HG6.out.trans hg);clear ho hg)
   go_roundw
   case rel=>exact ⟨i+1,by go_num,hlt,Lib.hid (HO7.out.cast (by rw [HST.out];simp only [List.append_assoc])),HG7⟩
   case measure=>simp [intOf];omega
  ·obtain rfl:i=l.length:=by omega
   have q1:decide ((l.length:Int)<(l.length:Int))=false:=decide_eq_false (by omega)
   rw [List.take_length] at HO
   clear hlt hi
   go_wp2_with (refine wpList_apS _ rfl _ _ rfl _ (X++l.flatMap EL) rfl HO.out ⟨#[125,10]⟩ [125,10] (Tx.of _) rfl (by have:=HXL.out;simp only [List.length_append,List.length_cons,List.length_nil];omega) ?_;intro v1 w1 ho hg;have HO3:=Lib.hid ho;have HG3:=Lib.hid (HG.out.trans hg);clear ho hg)
   go_ret
   exact ⟨_,rfl,Lib.hid (HO3.out.cast (by rw [← hX.out];simp only [List.append_assoc])),HG3⟩
set_option maxRecDepth 100000 in
set_option maxHeartbeats 6400000 in
theorem blockMet_any {sh:Nat→List UInt8} (hsh:∀ B l,ShowR B l→l=sh B) (B:Nat) (w:World) (v lv:Value) (xs hd:List UInt8) (hs:ByteArray) (l:List Met) (hown:Ob B w v xs) (ht:TabB B w) (hh:Tx hs hd) (hr:LM w (No v) lv l) (hll:l.length≤100000) (hok:∀ y ∈ l,prM y)
  (hlen:(xs.length:Int)+(hd.length:Int)+((l.flatMap fun y=>[32,32]++methG sh y++[44,10]).length:Int)≤63995) :
  Calls Tryz.prog 95 #[v,.string hs,lv,.func (.func 96) #[] #[]] w fun e w'=>∃ v',e = .returned v'∧Hid (Ob B w' v' (xs++([hd,[32,123,10]].flatten++(l.flatMap fun y=>[32,32]++methG sh y++[44,10])++[125,10])))∧Hid (Gw v w v' w'):=by
 obtain ⟨A,ac,zs,hlv,hzl,hzc,hzm,hrd,hall⟩:=hr.sl metA_size
 have HR:=Lib.hid hr
 subst hlv
 obtain ⟨EL,hEL⟩:∃ EL:Met→List UInt8,Hid ((fun y=>[32,32]++methG sh y++[44,10])=EL):=⟨_,Lib.hid rfl⟩
 rw [hEL.out] at hlen ⊢
 obtain ⟨h0,hh0⟩:∃ h,w.heap.size=h:=⟨_,rfl⟩
 have hse:hs=⟨hd.toArray⟩:=hh.eq
 subst hse
 have hcall:=appendAll_new [hd,[32,123,10]] hown (by simp) (by simp;omega) h0 hh0
 have HC:=Lib.hid hcall
 have HOWN:=Lib.hid hown
 have HT:=Lib.hid ht
 have HOK:=Lib.hid hok
 have HLEN:=Lib.hid hlen
 have HSH:=Lib.hid hsh
 have hnI:(l.length:Int)≤100000:=by omega
 clear hown ht hok hlen hr hrd hall hzl hzc hzm hsh hh hcall
 go_enter Tryz.func95,Tryz.ntmps95
 go_wp2_with fail
 refine HC.out.mono ?_;rintro e w1 ⟨v1,rfl,HOa,HGa⟩
 obtain ⟨X,hX⟩:∃ X,Hid (xs++[hd,[32,123,10]].flatten=X):=⟨_,Lib.hid rfl⟩
 rw [hX.out] at HOa
 have HXL:Hid ((X.length:Int)+((l.flatMap EL).length:Int)≤63998):=by
  have:=HLEN.out;unfold Hid;rw [← hX.out];simp only [List.length_append,List.flatten_cons,List.flatten_nil,List.length_cons,List.length_nil];omega
 clear hh0 HC HLEN
 go_wp2_with fail
 go_loopw [0,17] (fun bv' iv wr=>∃ i:Nat,iv = .int .i64 (i:Int)∧i≤l.length∧Hid (Ob B wr bv' (X++(l.take i).flatMap EL))∧Hid (Gw v w bv' wr)) (fun _ iv _=>(200000 - intOf iv).toNat)
 case atStart=>exact ⟨0,rfl,Nat.zero_le _,Lib.hid (HOa.out.cast (by simp)),HGa⟩
 case round =>
  obtain ⟨i,rfl,hi,HO,HG⟩:=hrel
  clear HOa HGa
  have hiI:(i:Int)≤100000:=by omega
  by_cases hlt:i<l.length
  ·have q1:decide ((i:Int)<(l.length:Int))=true:=decide_eq_true (by omega)
   have q2:(i:Int)<(l.length:Int):=by omega
   have hr2:=LM.gw HR.out HG.out
   obtain ⟨A',ac',zs,hlv,hzl,hzc,hzm,hrd,hall⟩:=hr2.sl metA_size
   injection hlv with h1 h2 h3
   subst h1 h3
   clear h2
   obtain ⟨g2,rfl,hg2,hcs⟩:=hrd (by omega)
   obtain ⟨Z,hZ⟩:∃ Z,zs[i]'(by omega)=Z:=⟨_,rfl⟩
   have hrc:RM wr (No u0) Z l[i]:=by
    have:=hall.at_ i (by omega) hlt
    rw [hZ] at this
    exact RM.lasts ⟨fun _ _ _=>rfl,fun _ h _=>h.1⟩ this
   obtain ⟨hst,hle⟩:=flat_step EL l i hlt
   have hte:EL l[i]=[32,32]++methG sh l[i]++[44,10]:=by rw [← hEL.out]
   obtain ⟨E,hE⟩:∃ E,Hid (methG sh l[i]=E):=⟨_,Lib.hid rfl⟩
   rw [hE.out] at hte
   rw [hte] at hst
   have HST:=Lib.hid hst
   have HSUM:Hid ((X.length:Int)+((l.take i).flatMap EL).length+E.length≤63994):=by
    have h1:=HXL.out
    rw [hst] at hle
    simp only [List.length_append,List.length_cons,List.length_nil] at hle
    unfold Hid;omega
   obtain ⟨zn,zo,zr,za,zt⟩:=Z
   obtain ⟨aA,acc,-,hq1,-⟩:=hrc.2.2.2.1.sl fldA_size
   obtain ⟨tA,tc,-,hq2,-⟩:=hrc.2.2.2.2.sl fldA_size
   dsimp only at hq1 hq2
   obtain ⟨ak,hak⟩:∃ k,(l[i]).args.length=k:=⟨_,rfl⟩
   obtain ⟨tk,htk⟩:∃ k,(l[i]).thr.length=k:=⟨_,rfl⟩
   rw [hak] at hq1
   rw [htk] at hq2
   clear hak htk
   subst hq1 hq2
   have hcell:∀ j,j<5→wr.cell? ⟨g2,i * 5+j,none⟩=(metA ⟨zn,zo,zr,.slice aA ak acc,.slice tA tk tc⟩)[j]?:=fun j hj=>by rw [hcs i (by omega) j hj,hZ]
   have e0:wr.cell? ⟨g2,i * 5,none⟩=some (.string ⟨zn.toArray⟩):=hcell 0 (by decide)
   have e1:wr.cell? ⟨g2,i * 5+1,none⟩=some (.bool zo):=hcell 1 (by decide)
   have e2:wr.cell? ⟨g2,i * 5+2,none⟩=some (.string ⟨zr.toArray⟩):=hcell 2 (by decide)
   have e3:wr.cell? ⟨g2,i * 5+3,none⟩=some (.slice aA ak acc):=hcell 3 (by decide)
   have e4:wr.cell? ⟨g2,i * 5+4,none⟩=some (.slice tA tk tc):=hcell 4 (by decide)
   have HRC:=Lib.hid hrc
   clear hst hle hte hcs hcell hrd hall hr2 hZ hrc hzl hzc hzm
   obtain ⟨g,hg⟩:∃ g,wr.heap.size=g:=⟨_,rfl⟩
   go_upto_region 5 with fail
   have hB4:=Blk.new wr #[.string ⟨zn.toArray⟩,.bool zo,.string ⟨zr.toArray⟩,.slice aA ak acc,.slice tA tk tc] 61
   rw [hg] at hB4
   have hn4:Nx wr (wr.alloc (.cells #[.string ⟨zn.toArray⟩,.bool zo,.string ⟨zr.toArray⟩,.slice aA ak acc,.slice tA tk tc] 61)):=nx0 _ _
   generalize World.alloc wr _=W1 at *
   have HO1:=Lib.hid (HO.out.nx hn4)
   have HG1:=Lib.hid (HG.out.trans (Gw.nx hn4 u0))
   have hne:u0.ownBlock≠some g:=by rw [← hg];exact HO.out.new
   have HB4:=Lib.hid hB4
   have HNE:=Lib.hid hne
   have HN4:=Lib.hid hn4
   clear hB4 hn4 hne hg HO HG e0 e1 e2 e3 e4
   generalize hu:u0=v1 at *
   clear hu
   go_upto_region 6 with (refine wpList_apS _ rfl _ _ rfl _ (X++(l.take i).flatMap EL) rfl HO1.out ⟨#[32,32]⟩ [32,32] (Tx.of _) rfl (by have:=HSUM.out;simp only [List.length_append,List.length_cons,List.length_nil];omega) ?_;intro v5 w5 ho hg;have HO5:=Lib.hid ho;have HG5:=Lib.hid hg;clear ho hg)
   obtain ⟨hB5,-⟩:=HG5.out.blk HB4.out HNE.out
   have c0:w5.cell? ⟨g,0,none⟩=some (.string ⟨zn.toArray⟩):=hB5.cell 0
   have c1:w5.cell? ⟨g,1,none⟩=some (.bool zo):=hB5.cell 1
   have c2:w5.cell? ⟨g,2,none⟩=some (.string ⟨zr.toArray⟩):=hB5.cell 2
   have c3:w5.cell? ⟨g,3,none⟩=some (.slice aA ak acc):=hB5.cell 3
   have c4:w5.cell? ⟨g,4,none⟩=some (.slice tA tk tc):=hB5.cell 4
   have HGe:=Lib.hid (HG1.out.trans HG5.out)
   have HT5:=Lib.hid (HT.out.on (HGe.out.below HOWN.out))
   have hcall:=appendMethod_any HSH.out B w5 v5 (X++(l.take i).flatMap EL++[32,32]) ⟨zn,zo,zr,.slice aA ak acc,.slice tA tk tc⟩ l[i] HO5.out HT5.out ((HRC.out.gw (Gw.nx HN4.out v1)).gw HG5.out) (HOK.out _ (List.getElem_mem hlt)) (by rw [hE.out];have:=HSUM.out;simp only [List.length_append,List.length_cons,List.length_nil];omega)
   rw [hE.out] at hcall
   have HCALL:=Lib.hid hcall
   clear hB5 hcall HO1 HG1 HB4 HNE
   go_wp2_with fail
   refine HCALL.out.mono ?_;rintro e w6 ⟨v6,rfl,ho,hg6⟩
   have HO6:=Lib.hid ho;have HG6:=Lib.hid (HGe.out.trans hg6)
   clear ho hg6 c0 c1 c2 c3 c4
   go_wp2_with (refine wpList_apS _ rfl _ _ rfl _ (X++(l.take i).flatMap EL++[32,32]++E) rfl HO6.out ⟨#[44,10]⟩ [44,10] (Tx.of _) rfl (by have:=HSUM.out;simp only [List.length_append,List.length_cons,List.length_nil];omega) ?_;intro v7 w7 ho hg;have HO7:=Lib.hid ho;have HG7:=Lib.hid (HG6.out.trans hg);clear ho hg)
   go_roundw
   case rel=>exact ⟨i+1,by go_num,hlt,Lib.hid (HO7.out.cast (by rw [HST.out];simp only [List.append_assoc])),HG7⟩
   case measure=>simp [intOf];omega
  ·obtain rfl:i=l.length:=by omega
   have q1:decide ((l.length:Int)<(l.length:Int))=false:=decide_eq_false (by omega)
   rw [List.take_length] at HO
   clear hlt hi
   go_wp2_with (refine wpList_apS _ rfl _ _ rfl _ (X++l.flatMap EL) rfl HO.out ⟨#[125,10]⟩ [125,10] (Tx.of _) rfl (by have:=HXL.out;simp only [List.length_append,List.length_cons,List.length_nil];omega) ?_;intro v1 w1 ho hg;have HO3:=Lib.hid ho;have HG3:=Lib.hid (HG.out.trans hg);clear ho hg)
   go_ret
   exact ⟨_,rfl,Lib.hid (HO3.out.cast (by rw [← hX.out];simp only [List.append_assoc])),HG3⟩
end Go.Proofs.YtjggghfekakogaaGreatDoor
