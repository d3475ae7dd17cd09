/- ParseMost: the law returns true and leaves memory as it was: arm 4. ParseMost: the law returns true and leaves memory as it was: arm 5. ParseMost: the law returns true and leaves memory as it was. -/
import Derived.Test.YtbblfkdmkpkmcaaGreatDoorG28
import Derived.Test.YtbblfkdmkpkmcaaGreatDoorG45
set_option linter.unusedVariables false
set_option linter.unusedSimpArgs false
set_option linter.unnecessarySimpa false
namespace Go.Proofs.YtbblfkdmkpkmcaaGreatDoor
open Go.RowKit
theorem txApp4 {a b:ByteArray} {la lb:List UInt8} (h:Tx a la) (g:Tx b lb):Tx (a++b) (la++lb):=by
 unfold Tx at *
 rw [← h,← g]
 simp [ByteArray.data_append]
set_option maxRecDepth 100000 in
set_option maxHeartbeats 6400000 in
theorem most_walk4 (n which:Int) (w:World) (ht:TabK w) (hm:MaxC w) (hn0:0≤n) (hn1:n≤255) (hw0:0≤which) (hw1:which≤255) (hq:which % 6=4) :
  Calls Tryz.prog 6 #[.int .u8 n,.int .u8 which] w fun e w'=>e = .returned (.bool true)∧Nx w w':=by
 obtain ⟨k,hk,hk2⟩:∃ k:Nat,n % 45=(k:Int)∧k<45:=⟨(n % 45).toNat,by omega,by omega⟩
 have hkI:(k:Int)<45:=by omega
 obtain ⟨T,hT⟩:∃ T,(if k=0 then [99,111,110,115,116,32,105,56,32,99,32,61,32,49] else moR [99,111,110,115,116,32,105,56,32,99,32,61,32] [91] k)++moR [] [93] k=T:=⟨_,rfl⟩
 have hTl:T.length≤200:=by
  rw [← hT,List.length_append,moR_len]
  split
  ·simp only [List.length_cons,List.length_nil];omega
  ·rw [moR_len];simp only [List.length_cons,List.length_nil];omega
 obtain ⟨er,pl,dn,HP,hgood⟩:∃ er pl dn:Nat,Hid (∀ s,Tx s T→∀ w,TabK w→MaxC w→Calls Tryz.prog 11 #[.string s] w fun e w'=>∃ (iA:Option Addr) (im ic:Nat) (sA:Option Addr) (sm sc:Nat) (dA:Option Addr) (dc:Nat),e = .returned (.tuple #[.agg #[.slice iA im ic,.slice sA sm sc,.slice dA dn dc],.int .i64 (er:Int),.int .i64 (pl:Int)])∧Nx w w')∧Hid (if 12<k then er=4∨er=6 else er=0∧dn=1):=by
  refine ⟨(parseF T).2.1,(parseF T).2.2,(parseF T).1.defs.length,?_,?_⟩
  ·intro s hs w ht hm
   refine (pgen w s T hs (by omega) ht hm).mono ?_
   rintro e w' ⟨iA,ic,sA,sc,dA,dc,rfl,hr,hn⟩
   exact ⟨iA,_,ic,sA,_,sc,dA,dc,rfl,hn⟩
  ·have h:=mo_4 k hk2
   unfold good4 at h
   rw [hT] at h
   unfold Hid
   by_cases h3:12<k
   ·rw [if_pos h3]
    simpa [h3] using h
   ·rw [if_neg h3]
    simpa [h3] using h
 have HTT:=Lib.hid hT
 have HT:=Lib.hid ht
 have HM:=Lib.hid hm
 clear ht hm hT hTl
 go_enter Tryz.func6,Tryz.ntmps6
 go_wp2_with fail
 refine (pbegun_any w HT.out HM.out).mono ?_;rintro e w1 ⟨rfl,hb⟩
 have HB:=Lib.hid hb
 clear hb
 go_wp2_with fail
 go_loopw [6,8,13] (fun sv zv iv wr=>∃ (i:Nat) (s z:ByteArray),sv = .string s∧zv = .string z∧iv = .int .i64 (i:Int)∧i≤k∧Hid (Tx s (moR [99,111,110,115,116,32,105,56,32,99,32,61,32] [91] i))∧Hid (Tx z (moR [] [93] i))∧wr=w1) (fun _ _ iv _=>45 - (intOf iv).toNat)
 case atStart=>exact ⟨0,_,_,rfl,rfl,rfl,Nat.zero_le _,rfl,rfl,rfl⟩
 case round =>
  obtain ⟨i,s,z,rfl,rfl,rfl,hi,HS,HZ,hwr⟩:=hrel
  subst hwr
  have hsl:s.size≤1000:=by
   rw [HS.out.size,moR_len]
   simp only [List.length_cons,List.length_nil]
   omega
  have hzl:z.size≤1000:=by
   rw [HZ.out.size,moR_len]
   simp only [List.length_cons,List.length_nil]
   omega
  by_cases hlt:i<k
  ·have hkd:decide ((i:Int)<(k:Int))=true:=decide_eq_true (by omega)
   have hiI:(i:Int)<(k:Int):=by omega
   go_wp2_with fail
   go_roundw
   case rel=>exact ⟨i+1,_,_,rfl,rfl,by go_num,hlt,txApp4 HS.out (Tx.of [91]),txApp4 HZ.out (Tx.of [93]),by trivial⟩
   case measure=>simp [intOf];omega
  ·obtain rfl:i=k:=by omega
   clear hlt hi
   by_cases h0:i=0
   ·subst h0
    have HTX:Tx (s++⟨#[49]⟩++z) T:=by
     rw [← HTT.out]
     exact txApp4 (txApp4 HS.out (Tx.of [49])) HZ.out
    have HTX:=Lib.hid HTX
    rw [if_neg (by decide)] at hgood
    obtain ⟨rfl,rfl⟩:=hgood.out
    go_wp2_with fail
    refine (HP.out _ HTX.out _ (HT.out.nx HB.out) (HM.out.nx HB.out)).mono ?_;rintro e w9 ⟨iA,im,ic,sA,sm,sc,dA,dc,rfl,hw9⟩
    obtain ⟨g,hg⟩:∃ g,w9.heap.size=g:=⟨_,rfl⟩
    have hB:=Blk.new w9 #[.slice iA im ic,.slice sA sm sc,.slice dA 1 dc] 27
    rw [hg] at hB
    have HBk:=Lib.hid hB
    have hn10:Nx w9 _:=nx0 w9 (.cells #[.slice iA im ic,.slice sA sm sc,.slice dA 1 dc] 27)
    have HN10:Hid (Nx w _):=Nx.trans HB.out (Nx.trans hw9 hn10)
    clear hn10 hw9 hB
    go_upto_region 44 with (fail)
    generalize World.alloc w9 _=w10 at *
    clear hg
    have c2:w10.cell? ⟨g,2,none⟩=some (.slice dA 1 dc):=HBk.out.cell 2
    go_wp2_with fail
    go_ret
    exact ⟨rfl,HN10.out⟩
   ·have HTX:Tx (s++z) T:=by
     rw [← HTT.out,if_neg h0]
     exact txApp4 HS.out HZ.out
    have HTX:=Lib.hid HTX
    have h0I:¬ (i:Int)=0:=by omega
    have h0d:((i:Int) == 0)=false:=by simp;omega
    go_wp2_with fail
    refine (HP.out _ HTX.out _ (HT.out.nx HB.out) (HM.out.nx HB.out)).mono ?_;rintro e w9 ⟨iA,im,ic,sA,sm,sc,dA,dc,rfl,hw9⟩
    obtain ⟨g,hg⟩:∃ g,w9.heap.size=g:=⟨_,rfl⟩
    have hB:=Blk.new w9 #[.slice iA im ic,.slice sA sm sc,.slice dA dn dc] 27
    rw [hg] at hB
    have HBk:=Lib.hid hB
    have hn10:Nx w9 _:=nx0 w9 (.cells #[.slice iA im ic,.slice sA sm sc,.slice dA dn dc] 27)
    have HN10:Hid (Nx w _):=Nx.trans HB.out (Nx.trans hw9 hn10)
    clear hn10 hw9 hB
    go_upto_region 44 with (fail)
    generalize World.alloc w9 _=w10 at *
    clear hg
    have c2:w10.cell? ⟨g,2,none⟩=some (.slice dA dn dc):=HBk.out.cell 2
    have hG:=hgood.out
    by_cases h3:12<i
    ·rw [if_pos h3] at hG
     have h3I:(12:Int)<(i:Int):=by omega
     have h3d:decide ((12:Int)<(i:Int))=true:=decide_eq_true h3I
     rcases hG with rfl | rfl
     ·go_wp2_with fail
      go_ret
      exact ⟨rfl,HN10.out⟩
     ·go_wp2_with fail
      go_ret
      exact ⟨rfl,HN10.out⟩
    ·rw [if_neg h3] at hG
     obtain ⟨rfl,rfl⟩:=hG
     have h3I:¬ (12:Int)<(i:Int):=by omega
     have h3d:decide ((12:Int)<(i:Int))=false:=decide_eq_false h3I
     go_wp2_with fail
     go_ret
     exact ⟨rfl,HN10.out⟩
end Go.Proofs.YtbblfkdmkpkmcaaGreatDoor
namespace Go.Proofs.YtbblfkdmkpkmcaaGreatDoor
open Go.RowKit
theorem txApp5 {a b:ByteArray} {la lb:List UInt8} (h:Tx a la) (g:Tx b lb):Tx (a++b) (la++lb):=by
 unfold Tx at *
 rw [← h,← g]
 simp [ByteArray.data_append]
set_option maxRecDepth 100000 in
set_option maxHeartbeats 6400000 in
theorem most_walk5 (n which:Int) (w:World) (ht:TabK w) (hm:MaxC w) (hn0:0≤n) (hn1:n≤255) (hw0:0≤which) (hw1:which≤255) (hq:which % 6=5) :
  Calls Tryz.prog 6 #[.int .u8 n,.int .u8 which] w fun e w'=>e = .returned (.bool true)∧Nx w w':=by
 obtain ⟨k,hk,hk2⟩:∃ k:Nat,n % 45=(k:Int)∧k<45:=⟨(n % 45).toNat,by omega,by omega⟩
 have hkI:(k:Int)<45:=by omega
 obtain ⟨er,pl,dn,HP,hgood⟩:∃ er pl dn:Nat,Hid (∀ s,Tx s (moR [115,101,114,118,105,99,101,32,83,32,123] [118,111,105,100,32,97,40,41] k)→∀ w,TabK w→MaxC w→Calls Tryz.prog 11 #[.string (s++⟨#[125]⟩)] w fun e w'=>∃ (iA:Option Addr) (im ic:Nat) (sA:Option Addr) (sm sc:Nat) (dA:Option Addr) (dc:Nat),e = .returned (.tuple #[.agg #[.slice iA im ic,.slice sA sm sc,.slice dA dn dc],.int .i64 (er:Int),.int .i64 (pl:Int)])∧Nx w w')∧Hid (if 30<k then er=4 else er=0∧dn=1):=by
  refine ⟨(parseF (moR [115,101,114,118,105,99,101,32,83,32,123] [118,111,105,100,32,97,40,41] k++[125])).2.1,(parseF (moR [115,101,114,118,105,99,101,32,83,32,123] [118,111,105,100,32,97,40,41] k++[125])).2.2,(parseF (moR [115,101,114,118,105,99,101,32,83,32,123] [118,111,105,100,32,97,40,41] k++[125])).1.defs.length,?_,?_⟩
  ·intro s hs w ht hm
   have hl:((moR [115,101,114,118,105,99,101,32,83,32,123] [118,111,105,100,32,97,40,41] k++[125]).length:Int)≤140737488355328:=by
    rw [List.length_append,moR_len]
    simp only [List.length_cons,List.length_nil]
    omega
   refine (pgen w (s++⟨#[125]⟩) (moR [115,101,114,118,105,99,101,32,83,32,123] [118,111,105,100,32,97,40,41] k++[125]) (txApp5 hs (Tx.of [125])) hl ht hm).mono ?_
   rintro e w' ⟨iA,ic,sA,sc,dA,dc,rfl,hr,hn⟩
   exact ⟨iA,_,ic,sA,_,sc,dA,dc,rfl,hn⟩
  ·have h:=mo_5 k hk2
   unfold goodR at h
   unfold Hid
   simp only [] at h ⊢
   by_cases h3:30<k
   ·rw [if_pos h3] at h ⊢
    simpa using h
   ·rw [if_neg h3] at h ⊢
    simpa using h
 have HT:=Lib.hid ht
 have HM:=Lib.hid hm
 clear ht hm
 go_enter Tryz.func6,Tryz.ntmps6
 go_wp2_with fail
 refine (pbegun_any w HT.out HM.out).mono ?_;rintro e w1 ⟨rfl,hb⟩
 have HB:=Lib.hid hb
 clear hb
 go_wp2_with fail
 go_loopw [6,14] (fun sv iv wr=>∃ (i:Nat) (s:ByteArray),sv = .string s∧iv = .int .i64 (i:Int)∧i≤k∧Hid (Tx s (moR [115,101,114,118,105,99,101,32,83,32,123] [118,111,105,100,32,97,40,41] i))∧wr=w1) (fun _ iv _=>45 - (intOf iv).toNat)
 case atStart=>exact ⟨0,_,rfl,rfl,Nat.zero_le _,rfl,rfl⟩
 case round =>
  obtain ⟨i,s,rfl,rfl,hi,HS,hwr⟩:=hrel
  subst hwr
  have hsl:s.size≤1000:=by
   rw [HS.out.size,moR_len]
   simp only [List.length_cons,List.length_nil]
   omega
  by_cases hlt:i<k
  ·have hkd:decide ((i:Int)<(k:Int))=true:=decide_eq_true (by omega)
   have hiI:(i:Int)<(k:Int):=by omega
   go_wp2_with fail
   go_roundw
   case rel=>exact ⟨i+1,_,rfl,by go_num,hlt,txApp5 HS.out (Tx.of [118,111,105,100,32,97,40,41]),by trivial⟩
   case measure=>simp [intOf];omega
  ·obtain rfl:i=k:=by omega
   clear hlt hi
   go_wp2_with fail
   refine (HP.out s HS.out _ (HT.out.nx HB.out) (HM.out.nx HB.out)).mono ?_;rintro e w9 ⟨iA,im,ic,sA,sm,sc,dA,dc,rfl,hw9⟩
   obtain ⟨g,hg⟩:∃ g,w9.heap.size=g:=⟨_,rfl⟩
   have hB:=Blk.new w9 #[.slice iA im ic,.slice sA sm sc,.slice dA dn dc] 27
   rw [hg] at hB
   have HBk:=Lib.hid hB
   have hn10:Nx w9 _:=nx0 w9 (.cells #[.slice iA im ic,.slice sA sm sc,.slice dA dn dc] 27)
   have HN10:Hid (Nx w _):=Nx.trans HB.out (Nx.trans hw9 hn10)
   clear hn10 hw9 hB
   go_upto_region 44 with (fail)
   generalize World.alloc w9 _=w10 at *
   clear hg
   have c2:w10.cell? ⟨g,2,none⟩=some (.slice dA dn dc):=HBk.out.cell 2
   have hG:=hgood.out
   by_cases h3:30<i
   ·rw [if_pos h3] at hG
    subst hG
    have h3I:(30:Int)<(i:Int):=by omega
    have h3d:decide ((30:Int)<(i:Int))=true:=decide_eq_true h3I
    go_wp2_with fail
    go_ret
    exact ⟨rfl,HN10.out⟩
   ·rw [if_neg h3] at hG
    obtain ⟨rfl,rfl⟩:=hG
    have h3I:¬ (30:Int)<(i:Int):=by omega
    have h3d:decide ((30:Int)<(i:Int))=false:=decide_eq_false h3I
    go_wp2_with fail
    go_ret
    exact ⟨rfl,HN10.out⟩
end Go.Proofs.YtbblfkdmkpkmcaaGreatDoor
namespace Go.Proofs.YtbblfkdmkpkmcaaGreatDoor
open Go.RowKit
theorem ParseMost_walk (n which:Int) (w:World) (ht:TabK w) (hm:MaxC w) (hn0:0≤n) (hn1:n≤255) (hw0:0≤which) (hw1:which≤255) :
  Calls Tryz.prog 6 #[.int .u8 n,.int .u8 which] w fun e w'=>e = .returned (.bool true)∧Nx w w':=by
 rcases (show which % 6=0∨which % 6=1∨which % 6=2∨which % 6=3∨which % 6=4∨which % 6=5 by omega) with h | h | h | h | h | h
 ·exact most_walk0 n which w ht hm hn0 hn1 hw0 hw1 h
 ·exact most_walk1 n which w ht hm hn0 hn1 hw0 hw1 h
 ·exact most_walk2 n which w ht hm hn0 hn1 hw0 hw1 h
 ·exact most_walk3 n which w ht hm hn0 hn1 hw0 hw1 h
 ·exact most_walk4 n which w ht hm hn0 hn1 hw0 hw1 h
 ·exact most_walk5 n which w ht hm hn0 hn1 hw0 hw1 h
end Go.Proofs.YtbblfkdmkpkmcaaGreatDoor
