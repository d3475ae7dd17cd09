/- The contracts of dec's cutting of texts: a sign, digits. The contracts of the library's numerals: strconv.FormatUint at ten, strconv.Itoa, over the table of tens. The contracts of dec: the number that bits are, the logarithm of 10, the digits that are shown. The library's table of tens, out of what the rows list. Texts under way: what a call that appends to one leaves. Plain lemmas. Which constants, fields, methods, definitions, files are the same: as functions. Plain. A constant's list is a slice. Plain lemma. -/
import Derived.Test.YtjggghfekakogaaGreatDoorProg
import Derived.Test.YtjggghfekakogaaGreatDoorH00
import Derived.Test.YtjggghfekakogaaGreatDoorH05
import Derived.Test.YtjggghfekakogaaGreatDoorH06
import Derived.WalkSpells
import Derived.Deep.QuietTactic
import Derived.BigQuiet
import Derived.Lib.Strings
import Derived.Test.YtjggghfekakogaaGreatDoorShelf
import Derived.Test.YtjggghfekakogaaGreatDoorH04
import Derived.Lib.ItoaMem
import Derived.Test.YtjggghfekakogaaGreatDoorRows
import Derived.Lib.LaidTab
import Derived.Stop.LaidErr
import Derived.LaidByTextLater
import Derived.Test.YtjggghfekakogaaGreatDoorH11
import Derived.Test.YtjggghfekakogaaGreatDoorH10
import Derived.Lib.AppendStr
import Derived.Maps.AppendAt
import Derived.Test.YtjggghfekakogaaGreatDoorH12
set_option linter.unusedVariables false
set_option linter.unusedSimpArgs false
set_option linter.unnecessarySimpa false
namespace Go.Proofs.YtjggghfekakogaaGreatDoor
open Go.RowKit
end Go.Proofs.YtjggghfekakogaaGreatDoor
namespace Go.Proofs.YtjggghfekakogaaGreatDoor
open Go.RowKit
open Go.Shelf Go.Sort
def Tab (w : World) : Prop := Lib.TabIs Tryz.prog w "internal/strconv.uint64pow10" .u64 Lib.pow10Tab
theorem decDigits_decS (n:Nat):Lib.decDigits n=decS n:=by
 induction n using Nat.strongRecOn with
 | _ n ih =>
  rw [Lib.decDigits]
  by_cases h:n<10
  ·rw [dif_pos h,decS_small n h,Nat.mod_eq_of_lt h]
  ·rw [dif_neg h,decS_step n (by omega),ih (n / 10) (by omega)]
theorem itoa_tenS (v:Int):Lib.itoa v=tenS v:=by
 unfold Lib.itoa tenS
 rw [decDigits_decS,decDigits_decS]
 split
 ·congr 2;omega
 ·rfl
theorem Nx.grown {w w1:World} (k:Nat) (os:Array Obj) (h:w1=grow (w.drewN k) os):Nx w w1:=by
 subst h
 refine ⟨rfl,rfl,rfl,?_,fun i hi=>?_⟩
 ·simp [grow,World.drewN]
 ·simp [grow,World.drewN]
  rw [Array.getElem?_append_left hi]
theorem itoa_any (v:Int) (w:World) (h0 : -9223372036854775808≤v) (h1:v≤9223372036854775807) (ht:Tab w) :
  Calls Tryz.prog 155 #[.int .i64 v] w fun e w'=>∃ t:ByteArray,e = .returned (.string t)∧Hid (Tx t (tenS v))∧Nx w w':=by
 refine (Tryz.strconv_Itoa v h0 h1 w ht).mono ?_
 rintro e w' ⟨rfl,k,os,hw⟩
 exact ⟨_,rfl,by rw [itoa_tenS];exact Tx.of _,Nx.grown k os hw⟩
theorem put_nx (w w1:World) (h:Nx w w1) (b off:Nat) (dk:Array UInt8) (hb:w.heap.size≤b):Nx w (putRow (fun (b:UInt8)=>Value.int .u8 (b.toNat:Int)) w1 b off dk):=by
 refine ⟨h.os,h.tape,h.output,?_,fun i hi=>?_⟩
 ·have:=h.size
  simpa [putRow,mapBlock] using this
 ·rw [← h.block i hi]
  simp only [putRow,mapBlock]
  rw [Array.getElem?_modify,if_neg (by omega)]
theorem holds0 (w:World) (T:TypeId) (nd:Nat) (hs:nd≤24):Holds (fun (b:UInt8)=>Value.int .u8 (b.toNat:Int)) (w.alloc (.cells Lib.zeros24 T)) w.heap.size 0 (Array.replicate nd (0:UInt8)):=fun j hj=>by
 rw [Array.size_replicate] at hj
 rw [World.cell?_alloc_new,World.frozen?_alloc_new,Nat.zero_add,Lib.zeros24_at j (by omega)]
 simp [hj]
set_option maxRecDepth 100000 in
set_option maxHeartbeats 800000 in
theorem formatUint_in (u:Nat) (w:World) (hu1:100≤u) (hu64:u<18446744073709551616) (htab:Tab w) :
  Calls Tryz.prog 250 #[.int .u64 u,.int .i64 10] w fun e w'=>∃ t:ByteArray,e = .returned (.string t)∧Hid (Tx t (decS u))∧Nx w w':=by
 have hnd20:Lib.nDigits u≤20:=by have:=Lib.numDigits_eq u (by omega) hu64;split at this <;> omega
 have hu2:(u:Int)≤18446744073709551615:=by omega
 have hal:Tryz.prog.arrayLen 247 = 24:=by kernel_rfl
 have hsl:∀ W:World,(Instr.sliceAt 247 (.pointer (some ⟨w.heap.size,0,none⟩)) none (some (.int .i64 (Lib.nDigits u:Int))) none).run Tryz.prog W = .ok (.slice (some ⟨w.heap.size,0,none⟩) (Lib.nDigits u) 24) W:=fun W=>by
  rw [run_sliceAt_array_h W 247 ⟨w.heap.size,0,none⟩ (by kernel_rfl) .i64 (Lib.nDigits u:Int) (by omega) (by rw [hal];omega)]
  go_simp
 have hH0:=holds0 w 247 (Lib.nDigits u) (by omega)
 have hfmt:=Tryz.internal_strconv_formatBase10 w.heap.size 0 24 u (Array.replicate (Lib.nDigits u) 0) (w.alloc (.cells Lib.zeros24 247)) hH0 (by rw [Array.size_replicate];exact Lib.lt_pow_nDigits u) hu64 (by rw [Array.size_replicate];omega)
 rw [Array.size_replicate] at hfmt
 have HH0:=Lib.hid hH0
 clear hH0 hal
 have hu3:(100:Int)≤(u:Int):=by omega
 go_enter Tryz.func250,Tryz.ntmps250
 go_wp2_with fail
 refine (Tryz.internal_strconv_numDigits u (by omega) hu64 _ (Lib.tabIs_alloc htab _)).mono ?_;rintro e w' ⟨rfl,rfl⟩
 go_wp2_with fail
 refine hfmt.mono ?_
 rintro e w' ⟨rfl,k,v',dk,rfl,hF⟩
 have hcv:(convert 34 9 (.slice (some ⟨w.heap.size,0,none⟩) (Lib.nDigits u) 24)).run Tryz.prog ((putRow (fun (b:UInt8)=>Value.int .u8 (b.toNat:Int)) (w.alloc (.cells Lib.zeros24 247)) w.heap.size 0 dk).drewN k) = .ok (.string ⟨(Lib.decDigits u).toArray⟩) ((putRow (fun (b:UInt8)=>Value.int .u8 (b.toNat:Int)) (w.alloc (.cells Lib.zeros24 247)) w.heap.size 0 dk).drewN k):=by
  have h:=run_convert_bytes_back (P:=Tryz.prog) ((putRow (fun (b:UInt8)=>Value.int .u8 (b.toNat:Int)) (w.alloc (.cells Lib.zeros24 247)) w.heap.size 0 dk).drewN k) 34 9 5 ⟨w.heap.size,0,none⟩ 24 (Lib.decDigits u) Tryz.underlying34 Tryz.underlying5 Tryz.underlying9 (fun j hj=>by
   rw [Lib.row_is_numeral hF j hj,Lib.add_plain,World.cell?_drewN]
   exact cell?_putRow (fun (b:UInt8)=>Value.int .u8 (b.toNat:Int)) _ w.heap.size 0 _ dk HH0.out (by rw [hF.size,Array.size_replicate]) j (by rw [hF.size];rw [Lib.decDigits_length] at hj;exact hj))
  rw [Lib.decDigits_length] at h
  exact h
 go_wp2_with fail
 go_ret
 refine ⟨_,rfl,by rw [decDigits_decS];exact Tx.of _,?_⟩
 exact Nx.dr (put_nx w (w.alloc (.cells Lib.zeros24 247)) (nx0 _ _) w.heap.size 0 dk (Nat.le_refl _)) k
theorem formatUint_any (u:Nat) (w:World) (hu1:100≤u) (hu64:u<18446744073709551616) (htab:Tab w) :
  Calls Tryz.prog 205 #[.int .u64 u,.int .i64 10] w fun e w'=>∃ t:ByteArray,e = .returned (.string t)∧Hid (Tx t (decS u))∧Nx w w':=by
 have hu2:(u:Int)≤18446744073709551615:=by omega
 go_enter Tryz.func205,Tryz.ntmps205
 go_wp2_with fail
 refine (formatUint_in u _ hu1 hu64 htab).mono ?_;rintro e w1 ⟨t,rfl,ht,hw⟩
 go_wp2_with fail
 go_ret
 exact ⟨t,rfl,ht,hw⟩
end Go.Proofs.YtjggghfekakogaaGreatDoor
namespace Go.Proofs.YtjggghfekakogaaGreatDoor
open Go.RowKit
theorem Tab.nx {w w':World} (h:Tab w) (hb:Nx w w'):Tab w':=by
 unfold Tab Lib.TabIs at *
 unfold World.var? at *
 cases hg : Tryz.prog.globalNamed "internal/strconv.uint64pow10" with
 | none=>rw [hg] at h;cases h
 | some g =>
  rw [hg] at h
  simp only [Option.bind_some] at h ⊢
  rcases Nat.lt_or_ge g w.heap.size with h1 | h1
  ·rw [hb.block g h1];exact h
  ·rw [Array.getElem?_eq_none h1] at h;cases h
set_option maxRecDepth 100000 in
set_option maxHeartbeats 1600000 in
theorem exact_any (b:Nat) (w:World) (hb:b<LIM) :
  Calls Tryz.prog 153 #[.int .u64 b] w fun e w'=>∃ r',e = .returned r'∧Ra w' r' (exM b * 2 ^ (exP b).toNat) (1 * 2 ^ (-exP b).toNat) (53+(exP b).natAbs)∧Nx w w':=by
 obtain ⟨m,HM,hm⟩:∃ m:Nat,(b:Int) % 4503599627370496=(m:Int)∧Hid (b % 4503599627370496=m):=⟨b % 4503599627370496,by omega,rfl⟩
 obtain ⟨x,HE,he⟩:∃ x:Nat,(b:Int) / 4503599627370496=(x:Int)∧Hid (b / 4503599627370496=x):=⟨b / 4503599627370496,by omega,rfl⟩
 have hm2:m<4503599627370496:=by rw [← hm.out];exact Nat.mod_lt _ (by decide)
 have hx2:x<2047:=by rw [← he.out];unfold LIM at hb;omega
 have hb2:(b:Int)≤18446744073709551615:=by unfold LIM at hb;omega
 have h53:m+4503599627370496<2 ^ 53:=by omega
 have h53':m<2 ^ 53:=by omega
 have HB:=Lib.hid hb
 clear hb
 obtain ⟨g,hg⟩:∃ g,w.heap.size=g:=⟨_,rfl⟩
 have hN0:Nx w (w.alloc (Obj.cells #[.slice none 0 0,.slice none 0 0] 177)):=nx0 _ _
 have hB0:Blk (w.alloc (Obj.cells #[.slice none 0 0,.slice none 0 0] 177)) g g #[.slice none 0 0,.slice none 0 0] 177:=by rw [← hg];exact Blk.new w _ _
 by_cases h0:x=0
 ·subst h0
  have hM:exM b=m:=by unfold exM;rw [he.out,if_pos rfl,hm.out]
  have hP:exP b = -1074:=by unfold exP;rw [he.out,if_pos rfl]
  rw [hM,hP]
  clear hM hP
  go_enter Tryz.func153,Tryz.ntmps153
  go_wp2_with fail
  refine (of_any m _ (by omega)).mono ?_;rintro e w1 ⟨v1,rfl,hv1,hw1⟩
  obtain ⟨A1,l1,c1,rfl⟩:=hv1.sl
  go_wp2_with fail
  refine (of_any 1 _ (by decide)).mono ?_;rintro e w2 ⟨v2,rfl,hv2,hw2⟩
  obtain ⟨A2,l2,c2,rfl⟩:=hv2.sl
  go_wp2_with fail
  refine (timesTwo_any _ m 1 53 (-1074) _ ⟨_,_,rfl,hv1.below hw2,hv2,h53',by decide⟩ (by decide) (by decide) (by decide)).mono ?_;rintro e w3 ⟨r3,rfl,hr3,hw3⟩
  obtain ⟨v3,u3,rfl,hv3,hu3,hx3,hy3⟩:=hr3
  obtain ⟨A3,l3,c3,rfl⟩:=hv3.sl
  obtain ⟨A4,l4,c4,rfl⟩:=hu3.sl
  have hN3:=Nx.trans (Nx.trans (Nx.trans hN0 hw1) hw2) hw3
  have hB3:=((hB0.below hw1).below hw2).below hw3
  have q0:w3.cell? ⟨g,0,none⟩=some (.slice none 0 0):=hB3.cell 0
  have q1:w3.cell? ⟨g,1,none⟩=some (.slice none 0 0):=hB3.cell 1
  have f0:=hB3.free 0
  have f1:=hB3.free 1
  have nu:NoU #[.slice none 0 0,.slice none 0 0]:=two_slices _ _ _ _ _ _
  have hB4:=(hB3.put 0 (.slice A3 l3 c3)).put 1 (.slice A4 l4 c4)
  have hN4:=(hN3.put' (g:=g) (by omega) 0 (.slice A3 l3 c3)).put' (g:=g) (by omega) 1 (.slice A4 l4 c4)
  have hv4:=(hv3.put hB3 nu 0 (.slice A3 l3 c3)).put (hB3.put 0 (.slice A3 l3 c3)) (two_slices _ _ _ _ _ _) 1 (.slice A4 l4 c4)
  have hu4:=(hu3.put hB3 nu 0 (.slice A3 l3 c3)).put (hB3.put 0 (.slice A3 l3 c3)) (two_slices _ _ _ _ _ _) 1 (.slice A4 l4 c4)
  go_wp2_with fail
  try simp only [Exit.inBlock,Exit.then]
  refine bodyPost_ret (results_cell_row rfl _ _ g _ _ _ _ rfl hB4.2 Tryz.underlying177 rfl (by kernel_rfl)) rfl ?_
  exact ⟨_,rfl,⟨_,_,rfl,hv4,hu4,hx3,hy3⟩,hN4⟩
 ·have hg:decide (0<(x:Int))=true:=decide_eq_true (by omega)
  have hM:exM b=m+4503599627370496:=by unfold exM;rw [he.out,if_neg h0,hm.out]
  obtain ⟨P,hP'⟩:∃ P:Int,-1074+(x:Int) - 1=P:=⟨_,rfl⟩
  have hP:exP b=P:=by unfold exP;rw [he.out,if_neg h0];omega
  rw [hM,hP]
  have hP1 : -1074≤P:=by omega
  have hP2:P≤1100:=by omega
  obtain ⟨n,hn⟩:∃ n:Nat,(m:Int)+4503599627370496=(n:Int)∧Hid (m+4503599627370496=n):=⟨m+4503599627370496,by omega,rfl⟩
  have hn1:=hn.1
  have HN:=hn.2
  rw [HN.out] at h53 ⊢
  have hnl:n<18446744073709551616:=by omega
  clear hM hP hn h0 h53'
  go_enter Tryz.func153,Tryz.ntmps153
  go_wp2_with fail
  refine (of_any n _ (by omega)).mono ?_;rintro e w1 ⟨v1,rfl,hv1,hw1⟩
  obtain ⟨A1,l1,c1,rfl⟩:=hv1.sl
  go_wp2_with fail
  refine (of_any 1 _ (by decide)).mono ?_;rintro e w2 ⟨v2,rfl,hv2,hw2⟩
  obtain ⟨A2,l2,c2,rfl⟩:=hv2.sl
  go_wp2_with fail
  refine (timesTwo_any _ n 1 53 P _ ⟨_,_,rfl,hv1.below hw2,hv2,h53,by decide⟩ (by decide) (by omega) (by omega)).mono ?_;rintro e w3 ⟨r3,rfl,hr3,hw3⟩
  obtain ⟨v3,u3,rfl,hv3,hu3,hx3,hy3⟩:=hr3
  obtain ⟨A3,l3,c3,rfl⟩:=hv3.sl
  obtain ⟨A4,l4,c4,rfl⟩:=hu3.sl
  have hN3:=Nx.trans (Nx.trans (Nx.trans hN0 hw1) hw2) hw3
  have hB3:=((hB0.below hw1).below hw2).below hw3
  have q0:w3.cell? ⟨g,0,none⟩=some (.slice none 0 0):=hB3.cell 0
  have q1:w3.cell? ⟨g,1,none⟩=some (.slice none 0 0):=hB3.cell 1
  have f0:=hB3.free 0
  have f1:=hB3.free 1
  have nu:NoU #[.slice none 0 0,.slice none 0 0]:=two_slices _ _ _ _ _ _
  have hB4:=(hB3.put 0 (.slice A3 l3 c3)).put 1 (.slice A4 l4 c4)
  have hN4:=(hN3.put' (g:=g) (by omega) 0 (.slice A3 l3 c3)).put' (g:=g) (by omega) 1 (.slice A4 l4 c4)
  have hv4:=(hv3.put hB3 nu 0 (.slice A3 l3 c3)).put (hB3.put 0 (.slice A3 l3 c3)) (two_slices _ _ _ _ _ _) 1 (.slice A4 l4 c4)
  have hu4:=(hu3.put hB3 nu 0 (.slice A3 l3 c3)).put (hB3.put 0 (.slice A3 l3 c3)) (two_slices _ _ _ _ _ _) 1 (.slice A4 l4 c4)
  go_wp2_with fail
  try simp only [Exit.inBlock,Exit.then]
  refine bodyPost_ret (results_cell_row rfl _ _ g _ _ _ _ rfl hB4.2 Tryz.underlying177 rfl (by kernel_rfl)) rfl ?_
  exact ⟨_,rfl,⟨_,_,rfl,hv4,hu4,hx3,hy3⟩,hN4⟩
set_option maxRecDepth 100000 in
set_option maxHeartbeats 1600000 in
theorem log10_any (r:Value) (x y j:Nat) (w:World) (h:Ra w r x y j) (hj:j≤2000) (hx0:x≠0) (hy0:y≠0) (hlo:GE10 x y (-400)) (hhi:¬ GE10 x y 400) :
  Calls Tryz.prog 204 #[r] w fun e w'=>∃ T:Int,e = .returned (.int .i64 T)∧Hid (GE10 x y T∧¬ GE10 x y (T+1))∧-400≤T∧T≤400∧Nx w w':=by
 have HX:=Lib.hid h
 obtain ⟨v,u,rfl,hv,hu,hx,hy⟩:=h
 obtain ⟨Av,lv,cv,rfl⟩:=hv.sl
 obtain ⟨Au,lu,cu,rfl⟩:=hu.sl
 have HLO:=Lib.hid hlo
 have HHI:=Lib.hid hhi
 clear hlo hhi
 obtain ⟨g,hg⟩:∃ g,w.heap.size=g:=⟨_,rfl⟩
 have hN:Nx w (w.alloc (Obj.cells #[.slice Av lv cv,.slice Au lu cu] 177)):=nx0 _ _
 have hB1:Blk (w.alloc (Obj.cells #[.slice Av lv cv,.slice Au lu cu] 177)) g g #[.slice Av lv cv,.slice Au lu cu] 177:=by rw [← hg];exact Blk.new w _ _
 go_enter Tryz.func204,Tryz.ntmps204
 go_wp2_with fail
 refine (log2_any _ x y j _ (HX.out.below hN) (by omega) hx0 hy0).mono ?_;rintro e w1 ⟨L,rfl,HL,hL1,hL2,hw1⟩
 have hN1:=Nx.trans hN hw1
 have hB2:=hB1.below hw1
 have hL3 : -2001≤L:=by omega
 have hL4:L≤2000:=by omega
 obtain ⟨n0,hn0⟩:∃ n0,(L * 30103).tdiv 100000=n0:=⟨_,rfl⟩
 have hnb : -700≤n0∧n0≤700:=by
  rw [← hn0]
  rcases Int.le_total 0 L with h | h
  ·rw [Int.tdiv_eq_ediv_of_nonneg (by omega)];constructor <;> omega
  ·obtain ⟨k,rfl⟩:∃ k,L = -k:=⟨-L,by omega⟩
   rw [Int.neg_mul,Int.neg_tdiv,Int.tdiv_eq_ediv_of_nonneg (by omega)];constructor <;> omega
 go_wp2_with fail
 go_loopw [3] (fun v wr=>∃ n:Int,v = .int .i64 n∧-700≤n∧n≤700∧Nx w1 wr) (fun v _=>(intOf v+1000).toNat)
 case atStart=>exact ⟨n0,rfl,hnb.1,hnb.2,Nx.refl _⟩
 case round =>
  obtain ⟨n,rfl,hn1,hn2,hb⟩:=hrel
  obtain ⟨b,HB⟩:∃ b,Hid (decide (x * 10 ^ (-n).toNat<y * 10 ^ (- -n).toNat)=b):=⟨_,rfl⟩
  have HG:Hid (b=true↔¬ GE10 x y n):=by
   unfold Hid GE10;rw [← HB.out,decide_eq_true_iff,Nat.not_le,Int.neg_neg]
  have hBr:=hB2.below hb
  have c0:wr.cell? ⟨g,0,none⟩=some (.slice Av lv cv):=hBr.cell 0
  have c1:wr.cell? ⟨g,1,none⟩=some (.slice Au lu cu):=hBr.cell 1
  have hNr:=Nx.trans hN1 hb
  go_wp2_with fail
  refine (timesTen_any _ x y j (-n) _ (HX.out.below hNr) (by omega) (by omega) (by omega)).mono ?_;rintro e w4 ⟨r4,rfl,hR4,hw4⟩
  obtain ⟨v4,u4,rfl,hv4,hu4,hx4,hy4⟩:=hR4
  have HR4:=Lib.hid (show Ra w4 (.agg #[v4,u4]) _ _ _ from ⟨v4,u4,rfl,hv4,hu4,hx4,hy4⟩)
  clear hv4 hu4 hx4 hy4
  go_wp2_with fail
  refine (below1_any _ _ _ _ _ HR4.out (by omega)).mono ?_;rintro e w5 ⟨rfl,hw5⟩
  rw [HB.out]
  have hb5:Nx w1 w5:=Nx.trans (Nx.trans hb hw4) hw5
  clear c0 c1
  cases b
  ·have hge:GE10 x y n:=by
    have:=HG.out
    apply Classical.byContradiction
    intro h;have:=this.2 h;cases this
   have HGE:=Lib.hid hge
   have hn4:n<400:=by
    rcases Int.lt_or_le n 400 with h | h
    ·exact h
    ·exact absurd (ge10_mono hge h) HHI.out
   clear hge
   go_wp2_with fail
   go_loopw [3] (fun v wr=>∃ n:Int,v = .int .i64 n∧-700≤n∧n≤400∧Hid (GE10 x y n)∧Nx w1 wr) (fun v _=>(1000 - intOf v).toNat)
   case atStart=>exact ⟨n,rfl,hn1,by omega,HGE,hb5⟩
   case round =>
    obtain ⟨n,rfl,hn1,hn2,HGE,hb⟩:=hrel
    obtain ⟨b,HB⟩:∃ b,Hid (decide (x * 10 ^ (-n - 1).toNat<y * 10 ^ (-(-n - 1)).toNat)=b):=⟨_,rfl⟩
    have HG:Hid (b=true↔¬ GE10 x y (n+1)):=by
     unfold Hid GE10;rw [← HB.out,decide_eq_true_iff,Nat.not_le,show -(-n - 1)=n+1 from by omega,show -(n+1) = -n - 1 from by omega]
    have hBr:=hB2.below hb
    have c0:wr.cell? ⟨g,0,none⟩=some (.slice Av lv cv):=hBr.cell 0
    have c1:wr.cell? ⟨g,1,none⟩=some (.slice Au lu cu):=hBr.cell 1
    have hNr:=Nx.trans hN1 hb
    go_wp2_with fail
    refine (timesTen_any _ x y j (-n - 1) _ (HX.out.below hNr) (by omega) (by omega) (by omega)).mono ?_;rintro e w4 ⟨r4,rfl,hR4,hw4⟩
    obtain ⟨v4,u4,rfl,hv4,hu4,hx4,hy4⟩:=hR4
    have HR4:=Lib.hid (show Ra w4 (.agg #[v4,u4]) _ _ _ from ⟨v4,u4,rfl,hv4,hu4,hx4,hy4⟩)
    clear hv4 hu4 hx4 hy4
    go_wp2_with fail
    refine (below1_any _ _ _ _ _ HR4.out (by omega)).mono ?_;rintro e w5 ⟨rfl,hw5⟩
    rw [HB.out]
    have hb5:Nx w1 w5:=Nx.trans (Nx.trans hb hw4) hw5
    clear c0 c1
    cases b
    ·have hge:GE10 x y (n+1):=by
      have:=HG.out
      apply Classical.byContradiction
      intro h;have:=this.2 h;cases this
     have HGE':=Lib.hid hge
     have hn4:n+1<400:=by
      rcases Int.lt_or_le (n+1) 400 with h | h
      ·exact h
      ·exact absurd (ge10_mono hge h) HHI.out
     clear hge
     go_wp2_with fail
     go_roundw
     case rel=>exact ⟨n+1,by go_num,by omega,by omega,HGE',hb5⟩
     case measure=>simp [intOf];omega
    ·have hge:¬ GE10 x y (n+1):=HG.out.1 rfl
     have hn4 : -400≤n:=by
      rcases Int.lt_or_le n (-400) with h | h
      ·exact absurd (ge10_mono HLO.out (show n+1≤-400 by omega)) hge
      ·exact h
     have HGE':=Lib.hid hge
     clear hge
     go_wp2_with fail
     go_ret
     exact ⟨n,rfl,⟨HGE.out,HGE'.out⟩,hn4,hn2,Nx.trans hN1 hb5⟩
  ·have hge:¬ GE10 x y n:=HG.out.1 rfl
   have hn4 : -400<n:=by
    rcases Int.lt_or_le (-400) n with h | h
    ·exact h
    ·exact absurd (ge10_mono HLO.out h) hge
   clear hge
   go_wp2_with fail
   go_roundw
   case rel=>exact ⟨n - 1,by go_num,by omega,by omega,hb5⟩
   case measure=>simp [intOf];omega
end Go.Proofs.YtjggghfekakogaaGreatDoor
namespace Go.Proofs.YtjggghfekakogaaGreatDoor
open Go.RowKit
theorem tab_of_laidA {W:World} (h:laidMetH Tryz.prog Rows.printAllRow.laid W):Tab W:=by
 rw [MakeChecks.laidMetH_plain _ _ _ (by kernel_rfl)] at h
 have h3 : laidMet Tryz.prog (("internal/strconv.uint64pow10", Lib.tabData .u64 Lib.pow10Tab) :: Rows.printAllRow.laid.drop 3) W := h.tail.tail
 exact Lib.tabIs_of_head (g:=2) (t:=270) (e:=45) (n:=20) (by kernel_rfl) (by kernel_rfl) Tryz.underlying270 Tryz.underlying45 (by kernel_rfl) (by kernel_rfl) h3
end Go.Proofs.YtjggghfekakogaaGreatDoor
namespace Go.Proofs.YtjggghfekakogaaGreatDoor
open Go.RowKit
structure Gw (v:Value) (w:World) (v':Value) (w':World):Prop where
 os:w'.os=w.os
 tape:w'.tape=w.tape
 output:w'.output=w.output
 size:w.heap.size≤w'.heap.size
 block:∀ k,k<w.heap.size→v.ownBlock≠some k→w'.heap[k]? = w.heap[k]?
 own:∀ k,v'.ownBlock=some k→v.ownBlock=some k∨w.heap.size≤k
theorem Gw.refl (v:Value) (w:World):Gw v w v w:=⟨rfl,rfl,rfl,Nat.le_refl _,fun _ _ _=>rfl,fun _ h=>.inl h⟩
theorem Gw.trans {v v1 v2:Value} {x y z:World} (h:Gw v x v1 y) (k:Gw v1 y v2 z):Gw v x v2 z :=
  ⟨k.os.trans h.os,k.tape.trans h.tape,k.output.trans h.output,Nat.le_trans h.size k.size,
   fun i hi hv=>(k.block i (Nat.lt_of_lt_of_le hi h.size) (fun e=>(h.own i e).elim hv (by omega))).trans (h.block i hi hv),
   fun i e=>(k.own i e).elim (h.own i) (fun h'=>.inr (Nat.le_trans h.size h'))⟩
theorem Gw.nx {w w':World} (h:Nx w w') (v:Value):Gw v w v w':=⟨h.os,h.tape,h.output,h.size,fun k hk _=>h.block k hk,fun _ h=>.inl h⟩
theorem Gw.toNx {v v':Value} {w w1 w':World} (h:Gw v w1 v' w') (hn:Nx w w1) (hv:∀ k,v.ownBlock=some k→w.heap.size≤k):Nx w w' :=
 ⟨h.os.trans hn.os,h.tape.trans hn.tape,h.output.trans hn.output,Nat.le_trans hn.size h.size,fun k hk=>(h.block k (Nat.lt_of_lt_of_le hk hn.size) (fun e=>by have:=hv k e;omega)).trans (hn.block k hk)⟩
def No (v:Value) (g:Nat):Prop:=v.ownBlock≠some g
theorem Gw.mv {v v':Value} {w w':World} (h:Gw v w v' w'):Mv (No v) (No v') w w' :=
 ⟨fun g hg hl=>h.block g hl hg,fun g hg hl e=>(h.own g e).elim hg (by omega)⟩
theorem Gw.blk {v v':Value} {w w':World} (h:Gw v w v' w') {B g:Nat} {cs:Array Value} {T:TypeId} (k:Blk w B g cs T) (hg:v.ownBlock≠some g):Blk w' B g cs T∧v'.ownBlock≠some g :=
 ⟨⟨k.1,by rw [h.block g k.lt hg];exact k.2⟩,fun e=>(h.own g e).elim hg (by have:=k.lt;omega)⟩
theorem Gw.cell {v v':Value} {w w':World} (h:Gw v w v' w') {p:Addr} (hp:p.block<w.heap.size) (hg:v.ownBlock≠some p.block):w'.cell? p=w.cell? p:=World.cell?_of_block (h.block _ hp hg)
def Ob (B:Nat) (w:World) (v:Value) (xs:List UInt8):Prop:=B≤w.heap.size∧Own bv 5 w B v xs
theorem Ob.nil_ {B:Nat} {w:World} (h:B≤w.heap.size):Ob B w (.slice none 0 0) []:=⟨h,Own.nil_⟩
section
variable {B:Nat} {w w':World} {v v':Value} {xs ys:List UInt8}
theorem Ob.own (h:Ob B w v xs) (k:Nat) (e:v.ownBlock=some k):B≤k∧k<w.heap.size:=World.ownsRow.lt h.2 k e
theorem Ob.ne (h:Ob B w v xs) {g:Nat} {cs:Array Value} {T:TypeId} {fr:Nat×Nat} (hg:w.heap[g]? = some (.cells cs T fr)) (hT:T≠5):v.ownBlock≠some g:=by
 intro e
 obtain ⟨-,-,h2⟩:=h
 rcases h2 with ⟨rfl,-⟩ | ⟨g',cap,cur,rfl,-,hh,-⟩
 ·cases e
 ·cases e
  rw [hg] at hh
  simp at hh
  exact hT hh.2.1
theorem Ob.blk (h:Ob B w v xs) {B' g:Nat} {cs:Array Value} {T:TypeId} (hg:Blk w B' g cs T) (hT:T≠5):v.ownBlock≠some g:=h.ne hg.2 hT
theorem Ob.new (h:Ob B w v xs):v.ownBlock≠some w.heap.size:=fun e=>absurd (h.own _ e).2 (Nat.lt_irrefl _)
theorem Ob.nx (h:Ob B w v xs) (hn:Nx w w'):Ob B w' v xs:=⟨Nat.le_trans h.1 hn.size,Own.below h.2 hn⟩
theorem Ob.cast (h:Ob B w v xs) (e:xs=ys):Ob B w v ys:=e ▸ h
theorem Ob.sl (h:Ob B w v xs):∃ A c,v = .slice A xs.length c∧xs.length≤c∧c≤maxLen∧Rd bv w A xs:=Own.sl h.2
theorem Gw.below (h:Gw v w v' w') (ho:Ob B w v xs):Below B w w':=⟨h.os,h.tape,h.output,h.size,fun k hk=>h.block k (Nat.lt_of_lt_of_le hk ho.1) (fun e=>by have:=(ho.own k e).1;omega)⟩
end
section
variable {P:Program} (w:World)
theorem own_string_at (t u ty e:TypeId) (i:TypeInfo) (ht:P.underlying t=some (.slice e)) (hu:P.underlying u=some .string) (hi:P.info? e=some i) (hz:i.zero=some (.int .u8 0)) (hsize:i.size=1) (hby:i.bytes=1)
  (v:Value) (n:Nat) (xs:List Value) (base:Nat) (hbase:base≤w.heap.size) (hown:w.ownsRow base e 1 v n xs) (s:ByteArray) (hbytes:n+s.size≤140737488355328) :
  ∃ v' w',(Builtin.append_ #[t,u] ty #[v,.string s]).run P w = .ok v' w'∧w'.ownsRow base e 1 v' (n+s.size) (xs++Lib.strCells s)∧w.grownBy w' v.ownBlock∧(v'.ownBlock=v.ownBlock∨v'.ownBlock=some w.heap.size):=by
 obtain ⟨v',w',hrun,ho,hg,hnil⟩:=Lib.run_append_own_string (P:=P) w base t u ty e i ht hu hi hz hsize hby v n xs hown s (by unfold maxLen;omega) hbytes hbase
 refine ⟨v',w',hrun,ho,hg,?_⟩
 rcases hown.2 with ⟨rfl,rfl⟩ | ⟨g,cap,cur,rfl,-,hc,hnc,hcm,hcs,-⟩
 ·by_cases hm:s.size=0
  ·left;rw [hnil.2 ⟨rfl,hm⟩]
  ·right
   rw [run_append_nil_string (P:=P) w t u ty e i (.int .u8 0) ht hu hi hz s (by omega) (by omega) (by rw [hby];omega)] at hrun
   injection hrun with h1 h2
   rw [← h1];rfl
 ·by_cases hroom:n+s.size≤cap
  ·left
   rw [Lib.run_append_room_string (P:=P) w t u ty e i ht hu hi hsize g n cap cur hc s hroom (by omega)] at hrun
   injection hrun with h1 h2
   rw [← h1];rfl
  ·right
   rw [Lib.run_append_grow_string (P:=P) w t u ty e i (.int .u8 0) ht hu hi hz ⟨g,0,none⟩ n cap xs (by rw [hsize];simpa using hown.1) (hown.cells (g:=g) rfl) s (by omega) (by omega) (by rw [hby];exact growslice_fits (by omega) (by omega))] at hrun
   injection hrun with h1 h2
   rw [← h1];rfl
end
theorem gw_of {w w':World} {v v':Value} (hg:w.grownBy w' v.ownBlock) (ho:v'.ownBlock=v.ownBlock∨v'.ownBlock=some w.heap.size):Gw v w v' w' :=
 ⟨hg.os,hg.tape,hg.output,hg.size,fun k hk hv=>hg.block k hk (fun e=>hv e.symm),fun k e=>by
  rcases ho with h | h
  ·exact .inl (h ▸ e)
  ·rw [h] at e;cases e;exact .inr (Nat.le_refl _)⟩
section
variable {B:Nat} (w:World) {ops:Array Oper} {rest:List Oper} {o:Oper} {a:Act} {Q:Exit→Act→World→Prop}
theorem u8_info:∃ i,Tryz.prog.info? 5 = some i∧i.zero=some (.int .u8 0)∧i.size=1∧i.bytes=1 :=
 info_parts (show (Tryz.prog.info? 5).map (fun i=>(i.zero,i.size,i.bytes))=some (some (.int .u8 0),1,1) by kernel_rfl)
theorem op_apS (s x:Operand) (ho:o.op = .call { callee:=.builtin .append,args:=#[s,x],argTypes:=#[34,9] }) (v:Value) (xs:List UInt8) (hs:a.eval s=v) (hown:Ob B w v xs)
  (y:ByteArray) (l:List UInt8) (hy:Tx y l) (hx:a.eval x = .string y) (h63:(xs.length:Int)+(l.length:Int)≤1000000000)
  {K:Act→World→Prop} {F:Exit→Act→World→Prop} (h:∀ v' w',Ob B w' v' (xs++l)→Gw v w v' w'→K (a.put o.dst v') w'):o.wp Tryz.prog a w K F:=by
 obtain ⟨i,hi,hz,h1,h2⟩:=u8_info
 obtain ⟨v',w',hrun,ho',hg,hob⟩:=own_string_at (P:=Tryz.prog) w 34 9 o.type 5 i Tryz.underlying34 Tryz.underlying9 hi hz h1 h2 v xs.length (xs.map bv) B hown.1 hown.2 y (by rw [hy.size];omega)
 have ho2:Ob B w' v' (xs++l):=by
  refine ⟨Nat.le_trans hown.1 hg.size,?_⟩
  unfold Own
  rw [List.length_append,List.map_append,← hy.size,← show y.data.toList=l from hy,← strCells_bv]
  exact ho'
 have:=h v' w' ho2 (gw_of hg hob)
 unfold Oper.wp execOp
 simp only [ho,resolve,invoke,builtin,Sem.run_bind,Sem.run_pure,Result.andThen_ok,List.map_toArray,List.map_cons,List.map_nil,hs,hx,hrun]
 exact this
theorem op_ap1 (s x:Operand) (ho:o.op = .call { callee:=.builtin .append,args:=#[s,x],argTypes:=#[34,34] }) (v:Value) (xs:List UInt8) (hs:a.eval s=v) (hown:Ob B w v xs)
  (g:Nat) (c:UInt8) (hx:a.eval x = .slice (some ⟨g,0,none⟩) 1 1) (hc:w.cell? ⟨g,0,none⟩=some (bv c)) (h63:(xs.length:Int)≤1000000000)
  {K:Act→World→Prop} {F:Exit→Act→World→Prop} (h:∀ v' w',Ob B w' v' (xs++[c])→Gw v w v' w'→K (a.put o.dst v') w'):o.wp Tryz.prog a w K F:=by
 obtain ⟨i,hi,hz,h1,h2⟩:=u8_info
 obtain ⟨v',w',hrun,ho',hg,_,hob⟩:=run_append_own_at (P:=Tryz.prog) w B 34 o.type 5 i _ 1 1 Tryz.underlying34 hi hz h1 h2 rfl (by decide) v xs.length (xs.map bv) hown.2 ⟨g,0,none⟩ 1 1 [bv c] rfl
  (by
   intro j u hu
   cases j with
   | zero=>simp at hu;subst hu;rw [Addr.add_lit];exact hc
   | succ j=>simp at hu)
  (by intro u hu;simp at hu;subst hu;rfl) (by simp [maxLen];omega) (by omega) hown.1
 have ho2:Ob B w' v' (xs++[c]):=by
  refine ⟨Nat.le_trans hown.1 hg.size,?_⟩
  unfold Own
  rw [List.length_append,List.map_append]
  exact ho'
 have:=h v' w' ho2 (gw_of hg hob)
 unfold Oper.wp execOp
 simp only [ho,resolve,invoke,builtin,Sem.run_bind,Sem.run_pure,Result.andThen_ok,List.map_toArray,List.map_cons,List.map_nil,hs,hx,hrun]
 exact this
theorem wpList_apS (hgd:o.guard=none) (s x:Operand) (ho:o.op = .call { callee:=.builtin .append,args:=#[s,x],argTypes:=#[34,9] }) (v:Value) (xs:List UInt8) (hs:a.eval s=v) (hown:Ob B w v xs)
  (y:ByteArray) (l:List UInt8) (hy:Tx y l) (hx:a.eval x = .string y) (h63:(xs.length:Int)+(l.length:Int)≤1000000000)
  (h:∀ v' w',Ob B w' v' (xs++l)→Gw v w v' w'→wpList Tryz.prog ops Q rest (a.put o.dst v') w'):wpList Tryz.prog ops Q (o :: rest) a w :=
 wpList_plain hgd fun K hK=>op_apS w s x ho v xs hs hown y l hy hx h63 fun v' w' h1 h2=>hK _ _ (h v' w' h1 h2)
theorem wpList_ap1 (hgd:o.guard=none) (s x:Operand) (ho:o.op = .call { callee:=.builtin .append,args:=#[s,x],argTypes:=#[34,34] }) (v:Value) (xs:List UInt8) (hs:a.eval s=v) (hown:Ob B w v xs)
  (g:Nat) (c:UInt8) (hx:a.eval x = .slice (some ⟨g,0,none⟩) 1 1) (hc:w.cell? ⟨g,0,none⟩=some (bv c)) (h63:(xs.length:Int)≤1000000000)
  (h:∀ v' w',Ob B w' v' (xs++[c])→Gw v w v' w'→wpList Tryz.prog ops Q rest (a.put o.dst v') w'):wpList Tryz.prog ops Q (o :: rest) a w :=
 wpList_plain hgd fun K hK=>op_ap1 w s x ho v xs hs hown g c hx hc h63 fun v' w' h1 h2=>hK _ _ (h v' w' h1 h2)
theorem op_apR (s x:Operand) (ho:o.op = .call { callee:=.builtin .append,args:=#[s,x],argTypes:=#[34,34] }) (v:Value) (xs:List UInt8) (hs:a.eval s=v) (hown:Ob B w v xs)
  (p:Addr) (c:Nat) (l:List UInt8) (hx:a.eval x = .slice (some p) l.length c) (hc:∀ j u,(l.map bv)[j]? = some u→w.cell? (p.add j)=some u) (h63:(xs.length:Int)+(l.length:Int)≤1000000000)
  {K:Act→World→Prop} {F:Exit→Act→World→Prop} (h:∀ v' w',Ob B w' v' (xs++l)→Gw v w v' w'→K (a.put o.dst v') w'):o.wp Tryz.prog a w K F:=by
 obtain ⟨i,hi,hz,h1,h2⟩:=u8_info
 obtain ⟨v',w',hrun,ho',hg,_,hob⟩:=run_append_own_at (P:=Tryz.prog) w B 34 o.type 5 i _ 1 1 Tryz.underlying34 hi hz h1 h2 rfl (by decide) v xs.length (xs.map bv) hown.2 p l.length c (l.map bv) (by simp) hc
  (by intro u hu;obtain ⟨y,-,rfl⟩:=List.mem_map.1 hu;rfl) (by simp [maxLen];omega) (by omega) hown.1
 have ho2:Ob B w' v' (xs++l):=by
  refine ⟨Nat.le_trans hown.1 hg.size,?_⟩
  unfold Own
  rw [List.length_append,List.map_append]
  exact ho'
 have:=h v' w' ho2 (gw_of hg hob)
 unfold Oper.wp execOp
 simp only [ho,resolve,invoke,builtin,Sem.run_bind,Sem.run_pure,Result.andThen_ok,List.map_toArray,List.map_cons,List.map_nil,hs,hx,hrun]
 exact this
theorem wpList_apR (hgd:o.guard=none) (s x:Operand) (ho:o.op = .call { callee:=.builtin .append,args:=#[s,x],argTypes:=#[34,34] }) (v:Value) (xs:List UInt8) (hs:a.eval s=v) (hown:Ob B w v xs)
  (p:Addr) (c:Nat) (l:List UInt8) (hx:a.eval x = .slice (some p) l.length c) (hc:∀ j u,(l.map bv)[j]? = some u→w.cell? (p.add j)=some u) (h63:(xs.length:Int)+(l.length:Int)≤1000000000)
  (h:∀ v' w',Ob B w' v' (xs++l)→Gw v w v' w'→wpList Tryz.prog ops Q rest (a.put o.dst v') w'):wpList Tryz.prog ops Q (o :: rest) a w :=
 wpList_plain hgd fun K hK=>op_apR w s x ho v xs hs hown p c l hx hc h63 fun v' w' h1 h2=>hK _ _ (h v' w' h1 h2)
end
end Go.Proofs.YtjggghfekakogaaGreatDoor
namespace Go.Proofs.YtjggghfekakogaaGreatDoor
def allEq {α:Type} (f:α→α→Bool):List α→List α→Bool
 | [],[]=>true
 | x :: xs,y :: ys=>f x y && allEq f xs ys
 | _,_=>false
theorem allEq_len {α:Type} {f:α→α→Bool}:∀ {xs ys:List α},xs.length≠ys.length→allEq f xs ys=false
 | [],[],h=>absurd rfl h
 | [],_ :: _,_=>rfl
 | _ :: _,[],_=>rfl
 | x :: xs,y :: ys,h=>by
  have:=allEq_len (f:=f) (xs:=xs) (ys:=ys) (by simpa using h)
  show (f x y && allEq f xs ys)=false
  rw [this,Bool.and_false]
theorem allEq_true {α:Type} {f:α→α→Bool}:∀ {xs ys:List α},xs.length=ys.length→(∀ i (h1:i<xs.length) (h2:i<ys.length),f xs[i] ys[i]=true)→allEq f xs ys=true
 | [],[],_,_=>rfl
 | [],_ :: _,h,_=>by simp at h
 | _ :: _,[],h,_=>by simp at h
 | x :: xs,y :: ys,h,k=>by
  have h0:=k 0 (by simp) (by simp)
  have:=allEq_true (f:=f) (xs:=xs) (ys:=ys) (by simpa using h) fun i h1 h2=>k (i+1) (by simpa using h1) (by simpa using h2)
  show (f x y && allEq f xs ys)=true
  rw [this,show f x y=true from h0];rfl
theorem allEq_false {α:Type} {f:α→α→Bool}:∀ {xs ys:List α} (i:Nat) (h1:i<xs.length) (h2:i<ys.length),f xs[i] ys[i]=false→allEq f xs ys=false
 | x :: xs,y :: ys,0,_,_,h=>by
  show (f x y && allEq f xs ys)=false
  rw [show f x y=false from h,Bool.false_and]
 | x :: xs,y :: ys,i+1,h1,h2,h=>by
  have:=allEq_false (f:=f) (xs:=xs) (ys:=ys) i (by simpa using h1) (by simpa using h2) h
  show (f x y && allEq f xs ys)=false
  rw [this,Bool.and_false]
theorem allEq_refl {α:Type} {f:α→α→Bool} (l:List α) (h:∀ x ∈ l,f x x=true):allEq f l l=true :=
 allEq_true rfl fun i h1 _=>h _ (List.getElem_mem h1)
def eqC:Nat→Con→Con→Bool
 | 0,_,_=>false
 | n+1,.mk k i d s l,.mk k' i' d' s' l'=>(k == k') && (i == i') && (d == d') && (s == s') && allEq (eqC n) l l'
def eqF (a b:Fld):Bool:=(a.hasID == b.hasID) && (a.id == b.id) && (a.req == b.req) && (a.ty == b.ty) && (a.nm == b.nm) && (a.hasIn == b.hasIn) && eqC 13 a.ini b.ini
def eqM (a b:Met):Bool:=(a.nm == b.nm) && (a.one == b.one) && (a.ret == b.ret) && allEq eqF a.args b.args && allEq eqF a.thr b.thr
def eqMm (a b:Mem):Bool:=(a.nm == b.nm) && (a.has == b.has) && (a.n == b.n)
def eqD (a b:Dfn):Bool:=(a.k == b.k) && (a.nm == b.nm) && (a.ty == b.ty) && eqC 13 a.ini b.ini && allEq eqF a.fields b.fields && allEq eqMm a.mems b.mems && (a.ext == b.ext) && allEq eqM a.mets b.mets
def eqS (a b:Spc):Bool:=(a.scope == b.scope) && (a.nm == b.nm)
def eqFil (a b:Fil):Bool:=allEq (fun x y=>x == y) a.incs b.incs && allEq eqS a.spaces b.spaces && allEq eqD a.defs b.defs
def depC:Nat→Con→Prop
 | 0,_=>False
 | n+1,.mk _ _ _ _ l=>∀ y ∈ l,depC n y
theorem eqC_refl:∀ (n:Nat) (c:Con),depC n c→eqC n c c=true
 | n+1,.mk k i d s l,h=>by
  show ((k == k) && (i == i) && (d == d) && (s == s) && allEq (eqC n) l l)=true
  rw [allEq_refl l fun x hx=>eqC_refl n x (h x hx)]
  simp
def depF (f:Fld):Prop:=depC 13 f.ini
theorem eqF_refl (f:Fld) (h:depF f):eqF f f=true:=by unfold eqF;rw [eqC_refl 13 _ h];simp
theorem eqM_refl (m:Met) (h1:∀ f ∈ m.args,depF f) (h2:∀ f ∈ m.thr,depF f):eqM m m=true:=by
 unfold eqM
 rw [allEq_refl _ fun f hf=>eqF_refl f (h1 f hf),allEq_refl _ fun f hf=>eqF_refl f (h2 f hf)]
 simp
def depD (d:Dfn):Prop:=depC 13 d.ini∧(∀ f ∈ d.fields,depF f)∧∀ m ∈ d.mets,(∀ f ∈ m.args,depF f)∧∀ f ∈ m.thr,depF f
theorem eqD_refl (d:Dfn) (h:depD d):eqD d d=true:=by
 unfold eqD
 rw [eqC_refl 13 _ h.1,allEq_refl _ fun f hf=>eqF_refl f (h.2.1 f hf),allEq_refl d.mems fun m _=>by unfold eqMm;simp,allEq_refl _ fun m hm=>eqM_refl m (h.2.2 m hm).1 (h.2.2 m hm).2]
 simp
theorem eqFil_refl (f:Fil) (h:∀ d ∈ f.defs,depD d):eqFil f f=true:=by
 unfold eqFil
 rw [allEq_refl f.incs fun x _=>by simp,allEq_refl f.spaces fun x _=>by unfold eqS;simp,allEq_refl _ fun d hd=>eqD_refl d (h d hd)]
 rfl
def nodC:Nat→Con→Nat
 | 0,_=>0
 | n+1,.mk _ _ _ _ l=>1+(l.map (nodC n)).sum
end Go.Proofs.YtjggghfekakogaaGreatDoor
namespace Go.Proofs.YtjggghfekakogaaGreatDoor
open Go.RowKit
theorem RC.slv:∀ {n:Nat} {P:Nat→Prop} {w:World} {x:ConS} {c:Con},RC n w P x c→∃ A k cap,x.l = .slice A k cap
 | 0,_,_,_,_,h=>h.elim
 | n+1,_,_,_,_,h=>by
  obtain ⟨l,-,hl⟩:=RC.of h
  obtain ⟨A,c,-,e,-⟩:=RepL.sl conA_size hl
  exact ⟨A,_,c,e⟩
end Go.Proofs.YtjggghfekakogaaGreatDoor
