/- The decimal digits that are shown: plain lemmas. The contracts of dec's cutting of texts: a sign, digits. The contracts of the library's numerals: strconv.FormatUint at ten, strconv.Itoa, over the table of tens. The contracts of dec: the number that bits are, the logarithm of 10, the digits that are shown. The library's table of tens, out of what the rows list. The words of a text: as a function of its bytes. The text of types: as a tree, and as a function of its bytes. Plain lemmas. A file of definitions, read off its words: as a function. Rows of structs that the call owns, of any type: what the call reads and appends. The library's variable; worlds that changed in one block alone. Plain lemmas. Rows of structs that the call owns last where one block alone changed. -/
import Derived.Test.YtjggghfekakogaaGreatDoorG05
import Derived.Lib.TrimByte
import Derived.Laws.Bits64b
import Derived.Test.YtjggghfekakogaaGreatDoorProg
import Derived.Test.YtjggghfekakogaaGreatDoorG00
import Derived.WalkSpells
import Derived.Deep.QuietTactic
import Derived.BigQuiet
import Derived.Lib.Strings
import Derived.Test.YtjggghfekakogaaGreatDoorShelf
import Derived.Test.YtjggghfekakogaaGreatDoorG04
import Derived.Lib.ItoaMem
import Derived.Test.YtjggghfekakogaaGreatDoorRows
import Derived.Lib.LaidTab
import Derived.Stop.LaidErr
import Derived.LaidByTextLater
import Derived.Lib.IndexMore
set_option linter.unusedVariables false
set_option linter.unusedSimpArgs false
set_option linter.unnecessarySimpa false
namespace Go.Proofs.YtjggghfekakogaaGreatDoor
open Go.RowKit
def exM (b:Nat):Nat:=if b / 4503599627370496=0 then b % 4503599627370496 else b % 4503599627370496+4503599627370496
def exP (b:Nat):Int:=if b / 4503599627370496=0 then -1074 else ((b / 4503599627370496:Nat):Int) - 1075
def GE10 (x y:Nat) (p:Int):Prop:=y * 10 ^ p.toNat≤x * 10 ^ (-p).toNat
theorem ge10_iff (x y:Nat) (p:Int) (a b:Nat) (h:(a:Int) - b=p):GE10 x y p↔y * 10 ^ a≤x * 10 ^ b:=by
 unfold GE10
 rcases Int.le_total 0 p with h0 | h0
 ·obtain ⟨n,rfl⟩:=Int.eq_ofNat_of_zero_le h0
  obtain rfl:a=b+n:=by omega
  rw [show ((n:Int)).toNat=n from by omega,show (-(n:Int)).toNat=0 from by omega,Nat.pow_zero,Nat.mul_one,Nat.pow_add,Nat.mul_comm (10 ^ b),← Nat.mul_assoc]
  exact (Nat.mul_le_mul_right_iff (Nat.pow_pos (by decide))).symm
 ·obtain ⟨n,hn⟩:=Int.eq_ofNat_of_zero_le (a:=-p) (by omega)
  obtain rfl:b=a+n:=by omega
  rw [show p.toNat=0 from by omega,show (-p).toNat=n from by omega,Nat.pow_zero,Nat.mul_one,Nat.pow_add,Nat.mul_comm (10 ^ a) (10 ^ n),← Nat.mul_assoc]
  exact (Nat.mul_le_mul_right_iff (Nat.pow_pos (by decide))).symm
theorem ge10_mono {x y:Nat} {p q:Int} (h:GE10 x y q) (hpq:p≤q):GE10 x y p:=by
 obtain ⟨b,a,a',h1,h2,h3⟩:∃ b a a':Nat,(a:Int) - b=p∧(a':Int) - b=q∧a≤a':=⟨p.natAbs+q.natAbs,(p+(p.natAbs+q.natAbs)).toNat,(q+(p.natAbs+q.natAbs)).toNat,by omega,by omega,by omega⟩
 rw [ge10_iff x y p a b h1]
 rw [ge10_iff x y q a' b h2] at h
 exact Nat.le_trans (Nat.mul_le_mul_left _ (Nat.pow_le_pow_right (by decide) h3)) h
theorem two_ten:2 ^ (3 * 400)≤10 ^ (400:Nat):=by
 obtain ⟨k,hk⟩:∃ k:Nat,k=400:=⟨_,rfl⟩
 rw [← hk,Nat.pow_mul]
 exact Nat.pow_le_pow_left (by decide) k
def exX (b:Nat):Nat:=exM b * 2 ^ (exP b).toNat
def exY (b:Nat):Nat:=1 * 2 ^ (-exP b).toNat
theorem exP_b (b:Nat) (hb:b<LIM) : -1074≤exP b∧exP b≤971:=by
 unfold exP;unfold LIM at hb;split <;> omega
theorem exM_b (b:Nat) (h0:b≠0):1≤exM b∧exM b<9007199254740992:=by
 unfold exM;split <;> omega
theorem exY_pos (b:Nat):0<exY b:=by unfold exY;rw [Nat.one_mul];exact Nat.pow_pos (by decide)
theorem exX_pos (b:Nat) (h0:b≠0):0<exX b:=Nat.mul_pos (exM_b b h0).1 (Nat.pow_pos (by decide))
theorem ex_lo (b:Nat) (hb:b<LIM) (h0:b≠0):GE10 (exX b) (exY b) (-400):=by
 have h1:=exP_b b hb
 have h2:=exX_pos b h0
 have h3:=two_ten
 unfold GE10
 rw [show ((-400:Int)).toNat=0 from rfl,Nat.pow_zero,Nat.mul_one,show (- (-400:Int)).toNat=400 from rfl]
 unfold exY
 rw [Nat.one_mul]
 calc 2 ^ (-exP b).toNat≤2 ^ (3 * 400):=Nat.pow_le_pow_right (by decide) (by omega)
  _≤10 ^ 400:=h3
  _≤exX b * 10 ^ 400:=Nat.le_mul_of_pos_left _ h2
theorem ex_hi (b:Nat) (hb:b<LIM) (h0:b≠0):¬ GE10 (exX b) (exY b) 400:=by
 have h1:=exP_b b hb
 have h2:=exM_b b h0
 have h3:=two_ten
 have h4:=exY_pos b
 unfold GE10
 rw [show (-(400:Int)).toNat=0 from rfl,Nat.pow_zero,Nat.mul_one,show ((400:Int)).toNat=400 from rfl,Nat.not_le]
 unfold exX
 calc exM b * 2 ^ (exP b).toNat<2 ^ 53 * 2 ^ (exP b).toNat:=Nat.mul_lt_mul_of_pos_right (by omega) (Nat.pow_pos (by decide))
  _=2 ^ (53+(exP b).toNat):=(Nat.pow_add ..).symm
  _≤2 ^ (3 * 400):=Nat.pow_le_pow_right (by decide) (by omega)
  _≤10 ^ 400:=h3
  _≤exY b * 10 ^ 400:=Nat.le_mul_of_pos_left _ h4
def digQ (x y:Nat) (T:Int):Nat:=rnd (x * 10 ^ (16 - T).toNat) (y * 10 ^ (-(16 - T)).toNat)
theorem digQ_b (x y:Nat) (T:Int) (hy:0<y) (h1:GE10 x y T) (h2:¬ GE10 x y (T+1)):10000000000000000≤digQ x y T∧digQ x y T≤100000000000000000:=by
 have hY:0<y * 10 ^ (-(16 - T)).toNat:=Nat.mul_pos hy (Nat.pow_pos (by decide))
 rw [ge10_iff x y T ((-(16 - T)).toNat+16) (16 - T).toNat (by omega),Nat.pow_add,← Nat.mul_assoc] at h1
 rw [ge10_iff x y (T+1) ((-(16 - T)).toNat+17) (16 - T).toNat (by omega),Nat.pow_add,← Nat.mul_assoc,Nat.not_le] at h2
 unfold digQ
 exact ⟨rnd_ge _ _ _ hY (by omega),rnd_le _ _ _ hY (by omega)⟩
def tailS (l:List UInt8):List UInt8:=if Lib.trimRightB l 48=[] then [48] else Lib.trimRightB l 48
def showD (T:Int) (D:Nat):List UInt8:=(decS D).take 1++(46 :: (tailS ((decS D).drop 1)++(101 :: tenS (T+((decS D).length:Nat) - 17))))
def sgS (B:Nat):List UInt8:=if 9223372036854775808≤B then [45] else []
def ShowR (B:Nat) (l:List UInt8):Prop :=
 if LIM≤B % 9223372036854775808 then l=[]
 else if B % 9223372036854775808=0 then l=sgS B++[48,46,48,101,48]
 else ∃ T:Int,GE10 (exX (B % 9223372036854775808)) (exY (B % 9223372036854775808)) T∧¬ GE10 (exX (B % 9223372036854775808)) (exY (B % 9223372036854775808)) (T+1) ∧
  l=sgS B++showD T (digQ (exX (B % 9223372036854775808)) (exY (B % 9223372036854775808)) T)
theorem and63 (B:Nat) (hB:B<18446744073709551616):bits .and .u64 (B:Int) (9223372036854775808:Int)=if 9223372036854775808≤B then (9223372036854775808:Int) else 0:=by
 have h1:(9223372036854775808:Int)=((9223372036854775808:Nat):Int):=rfl
 rw [h1,bits_and_u64_nat _ _ (by omega) (by omega)]
 have h2:B &&& 9223372036854775808=if 9223372036854775808≤B then 9223372036854775808 else 0:=by
  have e:(9223372036854775808:Nat)=2 ^ 63:=rfl
  rw [e]
  by_cases h:2 ^ 63≤B
  ·have hb:B.testBit 63=true:=by rw [Nat.testBit_eq_decide_div_mod_eq];simp;omega
   rw [if_pos h]
   apply Nat.eq_of_testBit_eq
   intro i
   rw [Nat.testBit_and,Nat.testBit_two_pow]
   by_cases hi:63=i
   ·subst hi;rw [hb];rfl
   ·simp [hi]
  ·rw [if_neg h]
   apply Nat.eq_of_testBit_eq
   intro i
   rw [Nat.testBit_and,Nat.testBit_two_pow]
   by_cases hi:63=i
   ·subst hi;rw [Nat.testBit_lt_two_pow (by omega)];simp
   ·simp [hi]
 rw [h2]
 split <;> rfl
theorem trimB_len (l:List UInt8):(Lib.trimRightB l 48).length≤l.length:=by
 unfold Lib.trimRightB
 rw [List.length_reverse]
 exact Nat.le_trans (List.IsSuffix.length_le (List.dropWhile_suffix _)) (by simp)
theorem Tx.app2 {s t:ByteArray} {a b:List UInt8} (h:Tx s a) (g:Tx t b):Tx (s++t) (a++b):=by
 unfold Tx at *
 rw [← h,← g]
 simp
theorem Tx.sz {s:ByteArray} {l:List UInt8} (h:Tx s l) (k:Nat) (hk:l.length≤k):s.size≤k:=by rw [h.size];exact hk
theorem tenS_len (v:Int) (h1 : -1000≤v) (h2:v≤1000):(tenS v).length≤20:=by
 unfold tenS
 split
 ·have:=decS_len 3 (-v).toNat (by omega);simp;omega
 ·have:=decS_len 3 v.toNat (by omega);omega
theorem ge10_one {x y:Nat} {T S:Int} (h1:GE10 x y T) (h2:¬ GE10 x y (T+1)) (k1:GE10 x y S) (k2:¬ GE10 x y (S+1)):T=S:=by
 rcases Int.lt_trichotomy T S with h | h | h
 ·exact absurd (ge10_mono k1 (show T+1≤S by omega)) h2
 ·exact h
 ·exact absurd (ge10_mono h1 (show S+1≤T by omega)) k2
theorem showR_one {B:Nat} {l m:List UInt8} (h:ShowR B l) (k:ShowR B m):l=m:=by
 unfold ShowR at h k
 split at h
 ·rename_i h1
  rw [if_pos h1] at k
  rw [h,k]
 ·rename_i h1
  rw [if_neg h1] at k
  split at h
  ·rename_i h2
   rw [if_pos h2] at k
   rw [h,k]
  ·rename_i h2
   rw [if_neg h2] at k
   obtain ⟨T,a1,a2,a3⟩:=h
   obtain ⟨S,b1,b2,b3⟩:=k
   obtain rfl:=ge10_one a1 a2 b1 b2
   rw [a3,b3]
theorem showR_of (B:Nat) (T:Int) (D:Nat) (l:List UInt8) (h1:B % 9223372036854775808<LIM) (h2:B % 9223372036854775808≠0)
  (h3:GE10 (exX (B % 9223372036854775808)) (exY (B % 9223372036854775808)) T) (h4:¬ GE10 (exX (B % 9223372036854775808)) (exY (B % 9223372036854775808)) (T+1))
  (h5:digQ (exX (B % 9223372036854775808)) (exY (B % 9223372036854775808)) T=D) (h6:sgS B++showD T D=l):ShowR B l:=by
 unfold ShowR
 rw [if_neg (by omega),if_neg h2]
 exact ⟨T,h3,h4,by rw [h5,h6]⟩
theorem decF_small (f n:Nat) (h:n<10 ^ (f+1)):decF f n=decS n:=by
 induction f generalizing n with
 | zero=>rw [decS_small n (by simpa using h)];rfl
 | succ f ih =>
  unfold decF
  by_cases h1:n<10
  ·rw [if_pos h1,decS_small n h1]
  ·rw [if_neg h1,decS_step n (by omega),ih (n / 10) (by rw [Nat.pow_succ] at h;omega)]
end Go.Proofs.YtjggghfekakogaaGreatDoor
namespace Go.Proofs.YtjggghfekakogaaGreatDoor
open Go.RowKit
end Go.Proofs.YtjggghfekakogaaGreatDoor
namespace Go.Proofs.YtjggghfekakogaaGreatDoor
open Go.RowKit
open Go.Shelf Go.Sort
def Tab (w : World) : Prop := Lib.TabIs Tryz.prog w "internal/strconv.uint64pow10" .u64 Lib.pow10Tab
theorem decDigits_decS (n:Nat):Lib.decDigits n=decS n:=by
 induction n using Nat.strongRecOn with
 | _ n ih =>
  rw [Lib.decDigits]
  by_cases h:n<10
  ·rw [dif_pos h,decS_small n h,Nat.mod_eq_of_lt h]
  ·rw [dif_neg h,decS_step n (by omega),ih (n / 10) (by omega)]
theorem itoa_tenS (v:Int):Lib.itoa v=tenS v:=by
 unfold Lib.itoa tenS
 rw [decDigits_decS,decDigits_decS]
 split
 ·congr 2;omega
 ·rfl
theorem Nx.grown {w w1:World} (k:Nat) (os:Array Obj) (h:w1=grow (w.drewN k) os):Nx w w1:=by
 subst h
 refine ⟨rfl,rfl,rfl,?_,fun i hi=>?_⟩
 ·simp [grow,World.drewN]
 ·simp [grow,World.drewN]
  rw [Array.getElem?_append_left hi]
theorem itoa_any (v:Int) (w:World) (h0 : -9223372036854775808≤v) (h1:v≤9223372036854775807) (ht:Tab w) :
  Calls Tryz.prog 155 #[.int .i64 v] w fun e w'=>∃ t:ByteArray,e = .returned (.string t)∧Hid (Tx t (tenS v))∧Nx w w':=by
 refine (Tryz.strconv_Itoa v h0 h1 w ht).mono ?_
 rintro e w' ⟨rfl,k,os,hw⟩
 exact ⟨_,rfl,by rw [itoa_tenS];exact Tx.of _,Nx.grown k os hw⟩
theorem put_nx (w w1:World) (h:Nx w w1) (b off:Nat) (dk:Array UInt8) (hb:w.heap.size≤b):Nx w (putRow (fun (b:UInt8)=>Value.int .u8 (b.toNat:Int)) w1 b off dk):=by
 refine ⟨h.os,h.tape,h.output,?_,fun i hi=>?_⟩
 ·have:=h.size
  simpa [putRow,mapBlock] using this
 ·rw [← h.block i hi]
  simp only [putRow,mapBlock]
  rw [Array.getElem?_modify,if_neg (by omega)]
theorem holds0 (w:World) (T:TypeId) (nd:Nat) (hs:nd≤24):Holds (fun (b:UInt8)=>Value.int .u8 (b.toNat:Int)) (w.alloc (.cells Lib.zeros24 T)) w.heap.size 0 (Array.replicate nd (0:UInt8)):=fun j hj=>by
 rw [Array.size_replicate] at hj
 rw [World.cell?_alloc_new,World.frozen?_alloc_new,Nat.zero_add,Lib.zeros24_at j (by omega)]
 simp [hj]
set_option maxRecDepth 100000 in
set_option maxHeartbeats 800000 in
theorem formatUint_in (u:Nat) (w:World) (hu1:100≤u) (hu64:u<18446744073709551616) (htab:Tab w) :
  Calls Tryz.prog 250 #[.int .u64 u,.int .i64 10] w fun e w'=>∃ t:ByteArray,e = .returned (.string t)∧Hid (Tx t (decS u))∧Nx w w':=by
 have hnd20:Lib.nDigits u≤20:=by have:=Lib.numDigits_eq u (by omega) hu64;split at this <;> omega
 have hu2:(u:Int)≤18446744073709551615:=by omega
 have hal:Tryz.prog.arrayLen 247 = 24:=by kernel_rfl
 have hsl:∀ W:World,(Instr.sliceAt 247 (.pointer (some ⟨w.heap.size,0,none⟩)) none (some (.int .i64 (Lib.nDigits u:Int))) none).run Tryz.prog W = .ok (.slice (some ⟨w.heap.size,0,none⟩) (Lib.nDigits u) 24) W:=fun W=>by
  rw [run_sliceAt_array_h W 247 ⟨w.heap.size,0,none⟩ (by kernel_rfl) .i64 (Lib.nDigits u:Int) (by omega) (by rw [hal];omega)]
  go_simp
 have hH0:=holds0 w 247 (Lib.nDigits u) (by omega)
 have hfmt:=Tryz.internal_strconv_formatBase10 w.heap.size 0 24 u (Array.replicate (Lib.nDigits u) 0) (w.alloc (.cells Lib.zeros24 247)) hH0 (by rw [Array.size_replicate];exact Lib.lt_pow_nDigits u) hu64 (by rw [Array.size_replicate];omega)
 rw [Array.size_replicate] at hfmt
 have HH0:=Lib.hid hH0
 clear hH0 hal
 have hu3:(100:Int)≤(u:Int):=by omega
 go_enter Tryz.func250,Tryz.ntmps250
 go_wp2_with fail
 refine (Tryz.internal_strconv_numDigits u (by omega) hu64 _ (Lib.tabIs_alloc htab _)).mono ?_;rintro e w' ⟨rfl,rfl⟩
 go_wp2_with fail
 refine hfmt.mono ?_
 rintro e w' ⟨rfl,k,v',dk,rfl,hF⟩
 have hcv:(convert 34 9 (.slice (some ⟨w.heap.size,0,none⟩) (Lib.nDigits u) 24)).run Tryz.prog ((putRow (fun (b:UInt8)=>Value.int .u8 (b.toNat:Int)) (w.alloc (.cells Lib.zeros24 247)) w.heap.size 0 dk).drewN k) = .ok (.string ⟨(Lib.decDigits u).toArray⟩) ((putRow (fun (b:UInt8)=>Value.int .u8 (b.toNat:Int)) (w.alloc (.cells Lib.zeros24 247)) w.heap.size 0 dk).drewN k):=by
  have h:=run_convert_bytes_back (P:=Tryz.prog) ((putRow (fun (b:UInt8)=>Value.int .u8 (b.toNat:Int)) (w.alloc (.cells Lib.zeros24 247)) w.heap.size 0 dk).drewN k) 34 9 5 ⟨w.heap.size,0,none⟩ 24 (Lib.decDigits u) Tryz.underlying34 Tryz.underlying5 Tryz.underlying9 (fun j hj=>by
   rw [Lib.row_is_numeral hF j hj,Lib.add_plain,World.cell?_drewN]
   exact cell?_putRow (fun (b:UInt8)=>Value.int .u8 (b.toNat:Int)) _ w.heap.size 0 _ dk HH0.out (by rw [hF.size,Array.size_replicate]) j (by rw [hF.size];rw [Lib.decDigits_length] at hj;exact hj))
  rw [Lib.decDigits_length] at h
  exact h
 go_wp2_with fail
 go_ret
 refine ⟨_,rfl,by rw [decDigits_decS];exact Tx.of _,?_⟩
 exact Nx.dr (put_nx w (w.alloc (.cells Lib.zeros24 247)) (nx0 _ _) w.heap.size 0 dk (Nat.le_refl _)) k
theorem formatUint_any (u:Nat) (w:World) (hu1:100≤u) (hu64:u<18446744073709551616) (htab:Tab w) :
  Calls Tryz.prog 205 #[.int .u64 u,.int .i64 10] w fun e w'=>∃ t:ByteArray,e = .returned (.string t)∧Hid (Tx t (decS u))∧Nx w w':=by
 have hu2:(u:Int)≤18446744073709551615:=by omega
 go_enter Tryz.func205,Tryz.ntmps205
 go_wp2_with fail
 refine (formatUint_in u _ hu1 hu64 htab).mono ?_;rintro e w1 ⟨t,rfl,ht,hw⟩
 go_wp2_with fail
 go_ret
 exact ⟨t,rfl,ht,hw⟩
end Go.Proofs.YtjggghfekakogaaGreatDoor
namespace Go.Proofs.YtjggghfekakogaaGreatDoor
open Go.RowKit
theorem Tab.nx {w w':World} (h:Tab w) (hb:Nx w w'):Tab w':=by
 unfold Tab Lib.TabIs at *
 unfold World.var? at *
 cases hg : Tryz.prog.globalNamed "internal/strconv.uint64pow10" with
 | none=>rw [hg] at h;cases h
 | some g =>
  rw [hg] at h
  simp only [Option.bind_some] at h ⊢
  rcases Nat.lt_or_ge g w.heap.size with h1 | h1
  ·rw [hb.block g h1];exact h
  ·rw [Array.getElem?_eq_none h1] at h;cases h
set_option maxRecDepth 100000 in
set_option maxHeartbeats 1600000 in
theorem exact_any (b:Nat) (w:World) (hb:b<LIM) :
  Calls Tryz.prog 153 #[.int .u64 b] w fun e w'=>∃ r',e = .returned r'∧Ra w' r' (exM b * 2 ^ (exP b).toNat) (1 * 2 ^ (-exP b).toNat) (53+(exP b).natAbs)∧Nx w w':=by
 obtain ⟨m,HM,hm⟩:∃ m:Nat,(b:Int) % 4503599627370496=(m:Int)∧Hid (b % 4503599627370496=m):=⟨b % 4503599627370496,by omega,rfl⟩
 obtain ⟨x,HE,he⟩:∃ x:Nat,(b:Int) / 4503599627370496=(x:Int)∧Hid (b / 4503599627370496=x):=⟨b / 4503599627370496,by omega,rfl⟩
 have hm2:m<4503599627370496:=by rw [← hm.out];exact Nat.mod_lt _ (by decide)
 have hx2:x<2047:=by rw [← he.out];unfold LIM at hb;omega
 have hb2:(b:Int)≤18446744073709551615:=by unfold LIM at hb;omega
 have h53:m+4503599627370496<2 ^ 53:=by omega
 have h53':m<2 ^ 53:=by omega
 have HB:=Lib.hid hb
 clear hb
 obtain ⟨g,hg⟩:∃ g,w.heap.size=g:=⟨_,rfl⟩
 have hN0:Nx w (w.alloc (Obj.cells #[.slice none 0 0,.slice none 0 0] 177)):=nx0 _ _
 have hB0:Blk (w.alloc (Obj.cells #[.slice none 0 0,.slice none 0 0] 177)) g g #[.slice none 0 0,.slice none 0 0] 177:=by rw [← hg];exact Blk.new w _ _
 by_cases h0:x=0
 ·subst h0
  have hM:exM b=m:=by unfold exM;rw [he.out,if_pos rfl,hm.out]
  have hP:exP b = -1074:=by unfold exP;rw [he.out,if_pos rfl]
  rw [hM,hP]
  clear hM hP
  go_enter Tryz.func153,Tryz.ntmps153
  go_wp2_with fail
  refine (of_any m _ (by omega)).mono ?_;rintro e w1 ⟨v1,rfl,hv1,hw1⟩
  obtain ⟨A1,l1,c1,rfl⟩:=hv1.sl
  go_wp2_with fail
  refine (of_any 1 _ (by decide)).mono ?_;rintro e w2 ⟨v2,rfl,hv2,hw2⟩
  obtain ⟨A2,l2,c2,rfl⟩:=hv2.sl
  go_wp2_with fail
  refine (timesTwo_any _ m 1 53 (-1074) _ ⟨_,_,rfl,hv1.below hw2,hv2,h53',by decide⟩ (by decide) (by decide) (by decide)).mono ?_;rintro e w3 ⟨r3,rfl,hr3,hw3⟩
  obtain ⟨v3,u3,rfl,hv3,hu3,hx3,hy3⟩:=hr3
  obtain ⟨A3,l3,c3,rfl⟩:=hv3.sl
  obtain ⟨A4,l4,c4,rfl⟩:=hu3.sl
  have hN3:=Nx.trans (Nx.trans (Nx.trans hN0 hw1) hw2) hw3
  have hB3:=((hB0.below hw1).below hw2).below hw3
  have q0:w3.cell? ⟨g,0,none⟩=some (.slice none 0 0):=hB3.cell 0
  have q1:w3.cell? ⟨g,1,none⟩=some (.slice none 0 0):=hB3.cell 1
  have f0:=hB3.free 0
  have f1:=hB3.free 1
  have nu:NoU #[.slice none 0 0,.slice none 0 0]:=two_slices _ _ _ _ _ _
  have hB4:=(hB3.put 0 (.slice A3 l3 c3)).put 1 (.slice A4 l4 c4)
  have hN4:=(hN3.put' (g:=g) (by omega) 0 (.slice A3 l3 c3)).put' (g:=g) (by omega) 1 (.slice A4 l4 c4)
  have hv4:=(hv3.put hB3 nu 0 (.slice A3 l3 c3)).put (hB3.put 0 (.slice A3 l3 c3)) (two_slices _ _ _ _ _ _) 1 (.slice A4 l4 c4)
  have hu4:=(hu3.put hB3 nu 0 (.slice A3 l3 c3)).put (hB3.put 0 (.slice A3 l3 c3)) (two_slices _ _ _ _ _ _) 1 (.slice A4 l4 c4)
  go_wp2_with fail
  try simp only [Exit.inBlock,Exit.then]
  refine bodyPost_ret (results_cell_row rfl _ _ g _ _ _ _ rfl hB4.2 Tryz.underlying177 rfl (by kernel_rfl)) rfl ?_
  exact ⟨_,rfl,⟨_,_,rfl,hv4,hu4,hx3,hy3⟩,hN4⟩
 ·have hg:decide (0<(x:Int))=true:=decide_eq_true (by omega)
  have hM:exM b=m+4503599627370496:=by unfold exM;rw [he.out,if_neg h0,hm.out]
  obtain ⟨P,hP'⟩:∃ P:Int,-1074+(x:Int) - 1=P:=⟨_,rfl⟩
  have hP:exP b=P:=by unfold exP;rw [he.out,if_neg h0];omega
  rw [hM,hP]
  have hP1 : -1074≤P:=by omega
  have hP2:P≤1100:=by omega
  obtain ⟨n,hn⟩:∃ n:Nat,(m:Int)+4503599627370496=(n:Int)∧Hid (m+4503599627370496=n):=⟨m+4503599627370496,by omega,rfl⟩
  have hn1:=hn.1
  have HN:=hn.2
  rw [HN.out] at h53 ⊢
  have hnl:n<18446744073709551616:=by omega
  clear hM hP hn h0 h53'
  go_enter Tryz.func153,Tryz.ntmps153
  go_wp2_with fail
  refine (of_any n _ (by omega)).mono ?_;rintro e w1 ⟨v1,rfl,hv1,hw1⟩
  obtain ⟨A1,l1,c1,rfl⟩:=hv1.sl
  go_wp2_with fail
  refine (of_any 1 _ (by decide)).mono ?_;rintro e w2 ⟨v2,rfl,hv2,hw2⟩
  obtain ⟨A2,l2,c2,rfl⟩:=hv2.sl
  go_wp2_with fail
  refine (timesTwo_any _ n 1 53 P _ ⟨_,_,rfl,hv1.below hw2,hv2,h53,by decide⟩ (by decide) (by omega) (by omega)).mono ?_;rintro e w3 ⟨r3,rfl,hr3,hw3⟩
  obtain ⟨v3,u3,rfl,hv3,hu3,hx3,hy3⟩:=hr3
  obtain ⟨A3,l3,c3,rfl⟩:=hv3.sl
  obtain ⟨A4,l4,c4,rfl⟩:=hu3.sl
  have hN3:=Nx.trans (Nx.trans (Nx.trans hN0 hw1) hw2) hw3
  have hB3:=((hB0.below hw1).below hw2).below hw3
  have q0:w3.cell? ⟨g,0,none⟩=some (.slice none 0 0):=hB3.cell 0
  have q1:w3.cell? ⟨g,1,none⟩=some (.slice none 0 0):=hB3.cell 1
  have f0:=hB3.free 0
  have f1:=hB3.free 1
  have nu:NoU #[.slice none 0 0,.slice none 0 0]:=two_slices _ _ _ _ _ _
  have hB4:=(hB3.put 0 (.slice A3 l3 c3)).put 1 (.slice A4 l4 c4)
  have hN4:=(hN3.put' (g:=g) (by omega) 0 (.slice A3 l3 c3)).put' (g:=g) (by omega) 1 (.slice A4 l4 c4)
  have hv4:=(hv3.put hB3 nu 0 (.slice A3 l3 c3)).put (hB3.put 0 (.slice A3 l3 c3)) (two_slices _ _ _ _ _ _) 1 (.slice A4 l4 c4)
  have hu4:=(hu3.put hB3 nu 0 (.slice A3 l3 c3)).put (hB3.put 0 (.slice A3 l3 c3)) (two_slices _ _ _ _ _ _) 1 (.slice A4 l4 c4)
  go_wp2_with fail
  try simp only [Exit.inBlock,Exit.then]
  refine bodyPost_ret (results_cell_row rfl _ _ g _ _ _ _ rfl hB4.2 Tryz.underlying177 rfl (by kernel_rfl)) rfl ?_
  exact ⟨_,rfl,⟨_,_,rfl,hv4,hu4,hx3,hy3⟩,hN4⟩
set_option maxRecDepth 100000 in
set_option maxHeartbeats 1600000 in
theorem log10_any (r:Value) (x y j:Nat) (w:World) (h:Ra w r x y j) (hj:j≤2000) (hx0:x≠0) (hy0:y≠0) (hlo:GE10 x y (-400)) (hhi:¬ GE10 x y 400) :
  Calls Tryz.prog 204 #[r] w fun e w'=>∃ T:Int,e = .returned (.int .i64 T)∧Hid (GE10 x y T∧¬ GE10 x y (T+1))∧-400≤T∧T≤400∧Nx w w':=by
 have HX:=Lib.hid h
 obtain ⟨v,u,rfl,hv,hu,hx,hy⟩:=h
 obtain ⟨Av,lv,cv,rfl⟩:=hv.sl
 obtain ⟨Au,lu,cu,rfl⟩:=hu.sl
 have HLO:=Lib.hid hlo
 have HHI:=Lib.hid hhi
 clear hlo hhi
 obtain ⟨g,hg⟩:∃ g,w.heap.size=g:=⟨_,rfl⟩
 have hN:Nx w (w.alloc (Obj.cells #[.slice Av lv cv,.slice Au lu cu] 177)):=nx0 _ _
 have hB1:Blk (w.alloc (Obj.cells #[.slice Av lv cv,.slice Au lu cu] 177)) g g #[.slice Av lv cv,.slice Au lu cu] 177:=by rw [← hg];exact Blk.new w _ _
 go_enter Tryz.func204,Tryz.ntmps204
 go_wp2_with fail
 refine (log2_any _ x y j _ (HX.out.below hN) (by omega) hx0 hy0).mono ?_;rintro e w1 ⟨L,rfl,HL,hL1,hL2,hw1⟩
 have hN1:=Nx.trans hN hw1
 have hB2:=hB1.below hw1
 have hL3 : -2001≤L:=by omega
 have hL4:L≤2000:=by omega
 obtain ⟨n0,hn0⟩:∃ n0,(L * 30103).tdiv 100000=n0:=⟨_,rfl⟩
 have hnb : -700≤n0∧n0≤700:=by
  rw [← hn0]
  rcases Int.le_total 0 L with h | h
  ·rw [Int.tdiv_eq_ediv_of_nonneg (by omega)];constructor <;> omega
  ·obtain ⟨k,rfl⟩:∃ k,L = -k:=⟨-L,by omega⟩
   rw [Int.neg_mul,Int.neg_tdiv,Int.tdiv_eq_ediv_of_nonneg (by omega)];constructor <;> omega
 go_wp2_with fail
 go_loopw [3] (fun v wr=>∃ n:Int,v = .int .i64 n∧-700≤n∧n≤700∧Nx w1 wr) (fun v _=>(intOf v+1000).toNat)
 case atStart=>exact ⟨n0,rfl,hnb.1,hnb.2,Nx.refl _⟩
 case round =>
  obtain ⟨n,rfl,hn1,hn2,hb⟩:=hrel
  obtain ⟨b,HB⟩:∃ b,Hid (decide (x * 10 ^ (-n).toNat<y * 10 ^ (- -n).toNat)=b):=⟨_,rfl⟩
  have HG:Hid (b=true↔¬ GE10 x y n):=by
   unfold Hid GE10;rw [← HB.out,decide_eq_true_iff,Nat.not_le,Int.neg_neg]
  have hBr:=hB2.below hb
  have c0:wr.cell? ⟨g,0,none⟩=some (.slice Av lv cv):=hBr.cell 0
  have c1:wr.cell? ⟨g,1,none⟩=some (.slice Au lu cu):=hBr.cell 1
  have hNr:=Nx.trans hN1 hb
  go_wp2_with fail
  refine (timesTen_any _ x y j (-n) _ (HX.out.below hNr) (by omega) (by omega) (by omega)).mono ?_;rintro e w4 ⟨r4,rfl,hR4,hw4⟩
  obtain ⟨v4,u4,rfl,hv4,hu4,hx4,hy4⟩:=hR4
  have HR4:=Lib.hid (show Ra w4 (.agg #[v4,u4]) _ _ _ from ⟨v4,u4,rfl,hv4,hu4,hx4,hy4⟩)
  clear hv4 hu4 hx4 hy4
  go_wp2_with fail
  refine (below1_any _ _ _ _ _ HR4.out (by omega)).mono ?_;rintro e w5 ⟨rfl,hw5⟩
  rw [HB.out]
  have hb5:Nx w1 w5:=Nx.trans (Nx.trans hb hw4) hw5
  clear c0 c1
  cases b
  ·have hge:GE10 x y n:=by
    have:=HG.out
    apply Classical.byContradiction
    intro h;have:=this.2 h;cases this
   have HGE:=Lib.hid hge
   have hn4:n<400:=by
    rcases Int.lt_or_le n 400 with h | h
    ·exact h
    ·exact absurd (ge10_mono hge h) HHI.out
   clear hge
   go_wp2_with fail
   go_loopw [3] (fun v wr=>∃ n:Int,v = .int .i64 n∧-700≤n∧n≤400∧Hid (GE10 x y n)∧Nx w1 wr) (fun v _=>(1000 - intOf v).toNat)
   case atStart=>exact ⟨n,rfl,hn1,by omega,HGE,hb5⟩
   case round =>
    obtain ⟨n,rfl,hn1,hn2,HGE,hb⟩:=hrel
    obtain ⟨b,HB⟩:∃ b,Hid (decide (x * 10 ^ (-n - 1).toNat<y * 10 ^ (-(-n - 1)).toNat)=b):=⟨_,rfl⟩
    have HG:Hid (b=true↔¬ GE10 x y (n+1)):=by
     unfold Hid GE10;rw [← HB.out,decide_eq_true_iff,Nat.not_le,show -(-n - 1)=n+1 from by omega,show -(n+1) = -n - 1 from by omega]
    have hBr:=hB2.below hb
    have c0:wr.cell? ⟨g,0,none⟩=some (.slice Av lv cv):=hBr.cell 0
    have c1:wr.cell? ⟨g,1,none⟩=some (.slice Au lu cu):=hBr.cell 1
    have hNr:=Nx.trans hN1 hb
    go_wp2_with fail
    refine (timesTen_any _ x y j (-n - 1) _ (HX.out.below hNr) (by omega) (by omega) (by omega)).mono ?_;rintro e w4 ⟨r4,rfl,hR4,hw4⟩
    obtain ⟨v4,u4,rfl,hv4,hu4,hx4,hy4⟩:=hR4
    have HR4:=Lib.hid (show Ra w4 (.agg #[v4,u4]) _ _ _ from ⟨v4,u4,rfl,hv4,hu4,hx4,hy4⟩)
    clear hv4 hu4 hx4 hy4
    go_wp2_with fail
    refine (below1_any _ _ _ _ _ HR4.out (by omega)).mono ?_;rintro e w5 ⟨rfl,hw5⟩
    rw [HB.out]
    have hb5:Nx w1 w5:=Nx.trans (Nx.trans hb hw4) hw5
    clear c0 c1
    cases b
    ·have hge:GE10 x y (n+1):=by
      have:=HG.out
      apply Classical.byContradiction
      intro h;have:=this.2 h;cases this
     have HGE':=Lib.hid hge
     have hn4:n+1<400:=by
      rcases Int.lt_or_le (n+1) 400 with h | h
      ·exact h
      ·exact absurd (ge10_mono hge h) HHI.out
     clear hge
     go_wp2_with fail
     go_roundw
     case rel=>exact ⟨n+1,by go_num,by omega,by omega,HGE',hb5⟩
     case measure=>simp [intOf];omega
    ·have hge:¬ GE10 x y (n+1):=HG.out.1 rfl
     have hn4 : -400≤n:=by
      rcases Int.lt_or_le n (-400) with h | h
      ·exact absurd (ge10_mono HLO.out (show n+1≤-400 by omega)) hge
      ·exact h
     have HGE':=Lib.hid hge
     clear hge
     go_wp2_with fail
     go_ret
     exact ⟨n,rfl,⟨HGE.out,HGE'.out⟩,hn4,hn2,Nx.trans hN1 hb5⟩
  ·have hge:¬ GE10 x y n:=HG.out.1 rfl
   have hn4 : -400<n:=by
    rcases Int.lt_or_le (-400) n with h | h
    ·exact h
    ·exact absurd (ge10_mono HLO.out h) hge
   clear hge
   go_wp2_with fail
   go_roundw
   case rel=>exact ⟨n - 1,by go_num,by omega,by omega,hb5⟩
   case measure=>simp [intOf];omega
end Go.Proofs.YtjggghfekakogaaGreatDoor
namespace Go.Proofs.YtjggghfekakogaaGreatDoor
open Go.RowKit
theorem tab_of_laid8 {W:World} (h:laidMetH Tryz.prog Rows.printFormsRow.laid W):Tab W:=by
 rw [MakeChecks.laidMetH_plain _ _ _ (by kernel_rfl)] at h
 have h3 : laidMet Tryz.prog (("internal/strconv.uint64pow10", Lib.tabData .u64 Lib.pow10Tab) :: Rows.printFormsRow.laid.drop 3) W := h.tail.tail
 exact Lib.tabIs_of_head (g:=2) (t:=270) (e:=45) (n:=20) (by kernel_rfl) (by kernel_rfl) Tryz.underlying270 Tryz.underlying45 (by kernel_rfl) (by kernel_rfl) h3
end Go.Proofs.YtjggghfekakogaaGreatDoor
namespace Go.Proofs.YtjggghfekakogaaGreatDoor
open Go.RowKit
structure TokV where
 k:Nat
 t:List UInt8
 n:Int
 d:Nat
 p:Nat
end Go.Proofs.YtjggghfekakogaaGreatDoor
namespace Go.Proofs.YtjggghfekakogaaGreatDoor
inductive Ty where
 | nm (s:List UInt8)
 | bs (k:Nat)
 | l1 (k:Nat) (a:Ty)
 | mp (a b:Ty)
end Go.Proofs.YtjggghfekakogaaGreatDoor
namespace Go.Proofs.YtjggghfekakogaaGreatDoor
inductive Con where
 | mk (k:Nat) (n:Int) (d:Nat) (s:List UInt8) (l:List Con)
def con0:Con:=.mk 0 0 0 [] []
structure Fld where
 hasID:Bool
 id:Int
 req:Nat
 ty:List UInt8
 nm:List UInt8
 hasIn:Bool
 ini:Con
structure Mem where
 nm:List UInt8
 has:Bool
 n:Int
structure Met where
 nm:List UInt8
 one:Bool
 ret:List UInt8
 args:List Fld
 thr:List Fld
structure Dfn where
 k:Nat
 nm:List UInt8
 ty:List UInt8
 ini:Con
 fields:List Fld
 mems:List Mem
 ext:List UInt8
 mets:List Met
structure Spc where
 scope:List UInt8
 nm:List UInt8
structure Fil where
 incs:List (List UInt8)
 spaces:List Spc
 defs:List Dfn
structure PSt where
 i:Nat
 e:Nat
section
variable (ws:List TokV)
end
end Go.Proofs.YtjggghfekakogaaGreatDoor
namespace Go.Proofs.YtjggghfekakogaaGreatDoor
open Go.RowKit
section
variable {α:Type} {f:α→Array Value} {k:Nat} {T:TypeId}
def rowL (f:α→Array Value) (xs:List α):List Value:=xs.flatMap fun x=>(f x).toList
theorem rowL_length (hf:∀ x,(f x).size=k) (xs:List α):(rowL f xs).length=xs.length * k:=by
 induction xs with
 | nil=>simp [rowL]
 | cons x xs ih =>
  have:rowL f (x :: xs)=(f x).toList++rowL f xs:=rfl
  rw [this,List.length_append,ih,Array.length_toList,hf,List.length_cons,Nat.succ_mul,Nat.add_comm]
theorem rowL_get (hf:∀ x,(f x).size=k) (xs:List α) (i:Nat) (hi:i<xs.length) (j:Nat) (hj:j<k):(rowL f xs)[i * k+j]? = (f xs[i])[j]?:=by
 induction xs generalizing i with
 | nil=>simp at hi
 | cons x xs ih =>
  have e:rowL f (x :: xs)=(f x).toList++rowL f xs:=rfl
  have e5:(f x).toList.length=k:=by rw [Array.length_toList];exact hf x
  rw [e]
  cases i with
  | zero =>
   rw [List.getElem?_append_left (by rw [e5];omega),Nat.zero_mul,Nat.zero_add]
   simp
  | succ i =>
   have e6:(i+1) * k=i * k+k:=Nat.succ_mul i k
   rw [List.getElem?_append_right (by rw [e5];omega),e5]
   have:(i+1) * k+j - k=i * k+j:=by omega
   rw [this,ih i (by simpa using hi)]
   simp
def OwnS (f:α→Array Value) (k:Nat) (T:TypeId) (w:World) (B:Nat) (v:Value) (xs:List α):Prop:=w.ownsRow B T k v xs.length (rowL f xs)
def RdS (f:α→Array Value) (k:Nat) (w:World) (A:Option Addr) (xs:List α):Prop :=
 0<xs.length→∃ g,A=some ⟨g,0,none⟩∧g<w.heap.size∧∀ i (h:i<xs.length) j,j<k→w.cell? ⟨g,i * k+j,none⟩=(f xs[i])[j]?
theorem OwnS.nil_ (w:World) (B:Nat):OwnS f k T w B (.slice none 0 0) []:=World.ownsRow_nil w B _ _
theorem OwnS.alloc {w:World} {B:Nat} {v:Value} {xs:List α} (h:OwnS f k T w B v xs) (o:Obj):OwnS f k T (w.alloc o) B v xs:=World.ownsRow.alloc h o
theorem OwnS.nx {w w':World} {B:Nat} {v:Value} {xs:List α} (h:OwnS f k T w B v xs) (ho:Nx w w'):OwnS f k T w' B v xs:=by
 obtain ⟨h1,h2⟩:=h
 refine ⟨h1,?_⟩
 rcases h2 with h2 | ⟨g,cap,cur,hv,hg,hh,r⟩
 ·exact .inl h2
 ·refine .inr ⟨g,cap,cur,hv,hg,?_,r⟩
  rw [ho.block g ?_];exact hh
  rcases Nat.lt_or_ge g w.heap.size with h | h
  ·exact h
  ·rw [Array.getElem?_eq_none h] at hh;cases hh
theorem OwnS.sl (hf:∀ x,(f x).size=k) {w:World} {B:Nat} {v:Value} {xs:List α} (h:OwnS f k T w B v xs):∃ A c,v = .slice A xs.length c∧xs.length≤c∧c≤maxLen∧RdS f k w A xs:=by
 obtain ⟨h1,h2⟩:=h
 rcases h2 with ⟨rfl,h0⟩ | ⟨g,cap,cur,rfl,hg,hh,hn,hm,hs,ht⟩
 ·have:xs=[]:=List.eq_nil_of_length_eq_zero h0
  subst this
  exact ⟨none,0,rfl,Nat.le_refl _,Nat.zero_le _,fun h=>by simp at h⟩
 ·refine ⟨_,cap,rfl,hn,hm,fun _=>⟨g,rfl,?_,fun i hi j hj=>?_⟩⟩
  ·rcases Nat.lt_or_ge g w.heap.size with h | h
   ·exact h
   ·rw [Array.getElem?_eq_none h] at hh;cases hh
  ·have hlt:i * k+j<xs.length * k:=by
    have h1:(i+1) * k≤xs.length * k:=Nat.mul_le_mul_right k hi
    have h2:(i+1) * k=i * k+k:=Nat.succ_mul i k
    omega
   rw [cell_of_row w g (i * k+j) cur _ (0,0) hh,← rowL_get hf xs i hi j hj,← ht,List.getElem?_take,if_pos (by simpa using hlt)]
   simp
theorem RdS.nx {w w':World} {A:Option Addr} {xs:List α} (h:RdS f k w A xs) (hn:Nx w w'):RdS f k w' A xs:=fun h0=>by
 obtain ⟨g,e,hg,hc⟩:=h h0
 refine ⟨g,e,Nat.lt_of_lt_of_le hg hn.size,fun i hi j hj=>?_⟩
 rw [← hc i hi j hj]
 unfold World.cell?
 simp only
 rw [hn.block g hg]
end
section
variable (w:World) {ops:Array Oper} {rest:List Oper} {o:Oper} {a:Act} {Q:Exit→Act→World→Prop} {α:Type} {f:α→Array Value} {k sz:Nat} {T T2:TypeId} {z:Value}
end
end Go.Proofs.YtjggghfekakogaaGreatDoor
namespace Go.Proofs.YtjggghfekakogaaGreatDoor
open Go.RowKit
def MaxC (w:World):Prop:=∃ m,w.cell? ⟨0,0,none⟩=some (.int .i64 m)
theorem MaxC.nx {w w':World} (h:MaxC w) (hn:Nx w w'):MaxC w':=by
 obtain ⟨m,hm⟩:=h
 exact ⟨m,(hn.cell (World.block_lt_of_cell? w _ hm)).trans hm⟩
structure Oth (b:Nat) (w w':World):Prop where
 os:w'.os=w.os
 tape:w'.tape=w.tape
 output:w'.output=w.output
 size:w.heap.size≤w'.heap.size
 block:∀ k,k<w.heap.size→k≠b→w'.heap[k]? = w.heap[k]?
theorem Oth.refl (b:Nat) (w:World):Oth b w w:=⟨rfl,rfl,rfl,Nat.le_refl _,fun _ _ _=>rfl⟩
theorem Oth.trans {b:Nat} {x y z:World} (h:Oth b x y) (k:Oth b y z):Oth b x z :=
 ⟨k.os.trans h.os,k.tape.trans h.tape,k.output.trans h.output,Nat.le_trans h.size k.size,fun i hi hb=>(k.block i (Nat.lt_of_lt_of_le hi h.size) hb).trans (h.block i hi hb)⟩
theorem Oth.nx {b:Nat} {w w':World} (h:Nx w w'):Oth b w w':=⟨h.os,h.tape,h.output,h.size,fun k hk _=>h.block k hk⟩
theorem Oth.set (w:World) (b i:Nat) (v:Value):Oth b w (w.setCell ⟨b,i,none⟩ v) :=
 ⟨rfl,rfl,rfl,by simp [World.setCell],fun k _ hk=>by simp only [World.setCell];rw [Array.getElem?_modify,if_neg (fun e=>hk e.symm)]⟩
theorem Oth.to {w w1 w':World} {b:Nat} (h:Oth b w1 w') (hn:Nx w w1) (hb:w.heap.size≤b):Nx w w' :=
 ⟨h.os.trans hn.os,h.tape.trans hn.tape,h.output.trans hn.output,Nat.le_trans hn.size h.size,fun k hk=>(h.block k (Nat.lt_of_lt_of_le hk hn.size) (by omega)).trans (hn.block k hk)⟩
theorem Oth.blk {w w':World} {b B g:Nat} {cs:Array Value} {T:TypeId} (h:Oth b w w') (k:Blk w B g cs T) (hg:g≠b):Blk w' B g cs T :=
 ⟨k.1,by rw [h.block g k.lt hg];exact k.2⟩
theorem Oth.mono {w w1 w':World} {b:Nat} (h:Oth b w1 w') (hn:Nx w w1):Oth b w w':=(Oth.nx hn).trans h
theorem Oth.put {w w':World} {b g:Nat} (h:Oth b w w') (hg:w.heap.size≤g) (i:Nat) (v:Value):Oth b w (w'.setCell ⟨g,i,none⟩ v) :=
 ⟨h.os,h.tape,h.output,by simp [World.setCell];exact h.size,fun k hk hb=>by simp only [World.setCell];rw [Array.getElem?_modify,if_neg (by omega)];exact h.block k hk hb⟩
theorem Oth.own {w w':World} {b i:Nat} {v:Value} (h:Oth b w w'):Oth b w (w'.setCell ⟨b,i,none⟩ v):=h.trans (Oth.set _ _ _ _)
end Go.Proofs.YtjggghfekakogaaGreatDoor
namespace Go.Proofs.YtjggghfekakogaaGreatDoor
open Go.RowKit
section
variable {α:Type} {f:α→Array Value} {k:Nat} {T:TypeId}
theorem OwnS.oth {w w':World} {B b:Nat} {v:Value} {xs:List α} (h:OwnS f k T w B v xs) (ho:Oth b w w') (hb:b<B):OwnS f k T w' B v xs:=by
 obtain ⟨h1,h2⟩:=h
 refine ⟨h1,?_⟩
 rcases h2 with h2 | ⟨g,cap,cur,hv,hg,hh,r⟩
 ·exact .inl h2
 ·refine .inr ⟨g,cap,cur,hv,hg,?_,r⟩
  rw [ho.block g ?_ (by omega)];exact hh
  rcases Nat.lt_or_ge g w.heap.size with h | h
  ·exact h
  ·rw [Array.getElem?_eq_none h] at hh;cases hh
end
end Go.Proofs.YtjggghfekakogaaGreatDoor
