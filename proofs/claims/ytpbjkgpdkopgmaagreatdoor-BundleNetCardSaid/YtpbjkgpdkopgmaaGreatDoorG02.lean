/- The contracts of token's small functions. The contracts of token's gaps, signs, digits. The contracts of token's numbers' lengths. The contracts of token's numbers' values. Digits as numbers. Plain lemmas. -/
import Derived.Test.YtpbjkgpdkopgmaaGreatDoorProg
import Derived.Test.YtpbjkgpdkopgmaaGreatDoorShelf
import Derived.Test.YtpbjkgpdkopgmaaGreatDoorG00
import Derived.Test.YtpbjkgpdkopgmaaGreatDoorG01
import Derived.Laws.Rows
import Derived.Laws.ResultCell
import Derived.Lib.Strings
set_option linter.unusedVariables false
set_option linter.unusedSimpArgs false
set_option linter.unnecessarySimpa false
namespace Go.Proofs.YtpbjkgpdkopgmaaGreatDoor
open Go.RowKit
set_option maxRecDepth 100000 in
set_option maxHeartbeats 800000 in
theorem isWhite_any (c:UInt8) (w:World) :
  Calls Tryz.prog 185 #[.int .u8 (c.toNat:Int)] w fun e w'=>e = .returned (.bool (isWhS c))∧w'=w:=by
 go_enter Tryz.func185,Tryz.ntmps185
 go_wp2_with fail
 all_goals
  go_ret
  refine ⟨congrArg (fun b=>Ending.returned (Value.bool b)) ?_,rfl⟩
  rw [Bool.eq_iff_iff]
  simp [isWhS]
  omega
set_option maxRecDepth 100000 in
set_option maxHeartbeats 800000 in
theorem isLetter_any (c:UInt8) (w:World) :
  Calls Tryz.prog 135 #[.int .u8 (c.toNat:Int)] w fun e w'=>e = .returned (.bool (isLetS c))∧w'=w:=by
 go_enter Tryz.func135,Tryz.ntmps135
 go_wp2_with fail
 all_goals
  go_ret
  refine ⟨congrArg (fun b=>Ending.returned (Value.bool b)) ?_,rfl⟩
  rw [Bool.eq_iff_iff]
  simp [isLetS]
  omega
set_option maxRecDepth 100000 in
set_option maxHeartbeats 800000 in
theorem isDigit_any (c:UInt8) (w:World) :
  Calls Tryz.prog 137 #[.int .u8 (c.toNat:Int)] w fun e w'=>e = .returned (.bool (isDig c))∧w'=w:=by
 go_enter Tryz.func137,Tryz.ntmps137
 go_wp2_with fail
 all_goals
  go_ret
  refine ⟨congrArg (fun b=>Ending.returned (Value.bool b)) ?_,rfl⟩
  rw [Bool.eq_iff_iff]
  simp [isDig]
  omega
set_option maxRecDepth 100000 in
set_option maxHeartbeats 1600000 in
theorem isOfName_any (c:UInt8) (w:World) :
  Calls Tryz.prog 142 #[.int .u8 (c.toNat:Int)] w fun e w'=>e = .returned (.bool (isNmS c))∧w'=w:=by
 go_enter Tryz.func142,Tryz.ntmps142
 go_wp2_with fail
 refine (isLetter_any c w).mono ?_;rintro e w' ⟨rfl,rfl⟩
 obtain ⟨L,HL⟩:∃ L,Hid (isLetS c=L):=⟨_,rfl⟩
 rw [HL.out]
 cases L
 ·go_wp2_with fail
  refine (isDigit_any c _).mono ?_;rintro e w' ⟨rfl,rfl⟩
  obtain ⟨D,HD⟩:∃ D,Hid (isDig c=D):=⟨_,rfl⟩
  rw [HD.out]
  cases D
  ·go_wp2_with fail
   all_goals
    go_ret
    refine ⟨congrArg (fun b=>Ending.returned (Value.bool b)) ?_,rfl⟩
    rw [Bool.eq_iff_iff]
    simp [isNmS,HL.out,HD.out]
    omega
  ·go_wp2_with fail
   go_ret
   refine ⟨congrArg (fun b=>Ending.returned (Value.bool b)) ?_,rfl⟩
   simp [isNmS,HL.out,HD.out]
 ·go_wp2_with fail
  go_ret
  refine ⟨congrArg (fun b=>Ending.returned (Value.bool b)) ?_,rfl⟩
  simp [isNmS,HL.out]
set_option maxRecDepth 100000 in
set_option maxHeartbeats 1600000 in
theorem isHexDigit_any (c:UInt8) (w:World) :
  Calls Tryz.prog 218 #[.int .u8 (c.toNat:Int)] w fun e w'=>e = .returned (.bool (isHexS c))∧w'=w:=by
 go_enter Tryz.func218,Tryz.ntmps218
 go_wp2_with fail
 refine (isDigit_any c w).mono ?_;rintro e w' ⟨rfl,rfl⟩
 obtain ⟨D,HD⟩:∃ D,Hid (isDig c=D):=⟨_,rfl⟩
 rw [HD.out]
 cases D
 ·go_wp2_with fail
  all_goals
   go_ret
   refine ⟨congrArg (fun b=>Ending.returned (Value.bool b)) ?_,rfl⟩
   rw [Bool.eq_iff_iff]
   simp [isHexS,HD.out]
   omega
 ·go_wp2_with fail
  go_ret
  refine ⟨congrArg (fun b=>Ending.returned (Value.bool b)) ?_,rfl⟩
  simp [isHexS,HD.out]
structure Such (F:Nat) (p:UInt8→Bool):Prop where
 enter:∀ args w,(callFunc F args).run Tryz.prog w = .ok (.enter F args) w
 calls:∀ (c:UInt8) (w:World),Calls Tryz.prog F #[.int .u8 (c.toNat:Int)] w fun e w'=>e = .returned (.bool (p c))∧w'=w
set_option maxRecDepth 100000 in
set_option maxHeartbeats 1600000 in
theorem span_any (F:Nat) (p:UInt8→Bool) (hF:Such F p) (s:ByteArray) (l:List UInt8) (w:World) (hl:Tx s l) (hs:(l.length:Int)≤140737488355328) :
  Calls Tryz.prog 184 #[.string s,.func (.func F) #[] #[]] w fun e w'=>e = .returned (.int .i64 (spanN p l:Nat))∧w'=w:=by
 have HL:=Lib.hid hl
 have hz:(s.size:Int)≤140737488355328:=by rw [hl.size];exact hs
 have hz2:s.size=l.length:=hl.size
 have eF:=hF.enter
 clear hl
 go_enter Tryz.func184,Tryz.ntmps184
 go_wp2_with fail
 go_loopw [5] (fun v wr=>∃ (n:Nat),v = .int .i64 n∧n≤l.length∧Hid (∀ c ∈ l.take n,p c=true)∧wr=w) (fun v _=>(140737488355328 - intOf v).toNat)
 case atStart=>exact ⟨0,rfl,Nat.zero_le _,by unfold Hid;simp,rfl⟩
 case round =>
  obtain ⟨n,rfl,hn,HA,rfl⟩:=hrel
  by_cases hlt:n<l.length
  ·obtain ⟨hp,e0⟩:=HL.out.idx n hlt
   obtain ⟨c,hc⟩:∃ c,l[n]=c:=⟨_,rfl⟩
   rw [hc] at e0
   have g1:decide ((n:Int)<(s.size:Int))=true:=decide_eq_true (by omega)
   have HTK:Hid (l.take (n+1)=l.take n++[c]):=by unfold Hid;rw [← hc];exact (List.take_append_getElem hlt).symm
   have HDR:Hid (l.drop n=c :: l.drop (n+1)):=by unfold Hid;rw [← hc];exact List.drop_eq_getElem_cons hlt
   obtain ⟨P,HP⟩:∃ P,Hid (p c=P):=⟨_,rfl⟩
   clear hc
   go_wp2_with fail
   refine (hF.calls c _).mono ?_;rintro e w' ⟨rfl,rfl⟩
   rw [HP.out]
   cases P
   ·go_wp2_with fail
    go_ret
    rw [spanN_is p l n (by omega) HA.out (.inr ⟨c,_,HDR.out,HP.out⟩)]
    exact ⟨rfl,rfl⟩
   ·go_wp2_with fail
    go_roundw
    case rel =>
     refine ⟨n+1,by go_num,hlt,?_,by first | rfl | trivial⟩
     unfold Hid
     intro d hd
     rw [HTK.out] at hd
     rcases List.mem_append.1 hd with h | h
     ·exact HA.out d h
     ·rw [List.mem_singleton.1 h];exact HP.out
    case measure=>simp [intOf];omega
  ·have g1:decide ((n:Int)<(s.size:Int))=false:=decide_eq_false (by omega)
   have HDR:Hid (l.drop n=[]):=by unfold Hid;rw [List.drop_eq_nil_iff];omega
   go_wp2_with fail
   go_ret
   rw [spanN_is p l n (by omega) HA.out (.inl HDR.out)]
   exact ⟨rfl,rfl⟩
theorem such_white:Such 185 isWhS:=⟨enters_of Tryz.func185 (by kernel_rfl) rfl,isWhite_any⟩
theorem such_digit:Such 137 isDig:=⟨enters_of Tryz.func137 (by kernel_rfl) rfl,isDigit_any⟩
theorem such_name:Such 142 isNmS:=⟨enters_of Tryz.func142 (by kernel_rfl) rfl,isOfName_any⟩
theorem such_hex:Such 218 isHexS:=⟨enters_of Tryz.func218 (by kernel_rfl) rfl,isHexDigit_any⟩
end Go.Proofs.YtpbjkgpdkopgmaaGreatDoor
namespace Go.Proofs.YtpbjkgpdkopgmaaGreatDoor
open Go.RowKit
theorem index_other (l:List UInt8) (q:UInt8):Lib.indexByte l q=if spanN (fun c=>decide (c≠q)) l<l.length then ((spanN (fun c=>decide (c≠q)) l:Nat):Int) else -1:=by
 induction l with
 | nil=>rfl
 | cons c l ih =>
  unfold Lib.indexByte spanN
  by_cases h:c=q
  ·subst h;simp
  ·have h1:(c == q)=false:=by simpa using h
   have h2:decide (c≠q)=true:=by simpa using h
   rw [h1,if_pos h2,ih]
   generalize spanN (fun c=>decide (c≠q)) l=N
   simp only [List.length_cons,Bool.false_eq_true,if_false]
   by_cases hl:N<l.length
   ·have:(((N:Nat):Int) == -1)=false:=by rw [beq_eq_false_iff_ne];omega
    rw [if_pos hl,this,if_pos (show N+1<l.length+1 by omega)]
    simp
   ·rw [if_neg hl,if_neg (show ¬ N+1<l.length+1 by omega)]
    rfl
theorem index_note (l:List UInt8):Lib.index l [42,47]=match noteN l with
  | none=>-1
  | some n=>(n:Int):=by
 induction l with
 | nil=>rfl
 | cons c l ih =>
  unfold Lib.index noteN
  have hp:List.isPrefixOf [42,47] (c :: l)=decide (c=42∧l.head? = some 47):=by
   rw [Bool.eq_iff_iff]
   cases l with
   | nil=>simp [List.isPrefixOf]
   | cons d l=>simp [List.isPrefixOf];exact ⟨fun h=>⟨h.1.symm,h.2.symm⟩,fun h=>⟨h.1.symm,h.2.symm⟩⟩
  rw [hp,ih]
  by_cases h:c=42∧l.head? = some 47
  ·simp [h]
  ·rw [if_neg (by simpa using h),if_neg h]
   cases noteN l with
   | none=>rfl
   | some n =>
    have:(((n:Nat):Int) == -1)=false:=by rw [beq_eq_false_iff_ne];omega
    dsimp only [Option.map]
    rw [this]
    simp
theorem pre35 (l:List UInt8):Lib.hasPrefix l [35]=decide (l.head? = some 35):=by
 unfold Lib.hasPrefix
 rw [Bool.eq_iff_iff]
 cases l with
 | nil=>simp [List.isPrefixOf]
 | cons c l=>simp [List.isPrefixOf];exact ⟨Eq.symm,Eq.symm⟩
theorem pre47 (l:List UInt8) (q:UInt8):Lib.hasPrefix l [47,q]=decide (l.head? = some 47∧(l.drop 1).head? = some q):=by
 unfold Lib.hasPrefix
 rw [Bool.eq_iff_iff]
 cases l with
 | nil=>simp [List.isPrefixOf]
 | cons c l=>cases l with
  | nil=>simp [List.isPrefixOf]
  | cons d l=>simp [List.isPrefixOf];exact ⟨fun h=>⟨h.1.symm,h.2.symm⟩,fun h=>⟨h.1.symm,h.2.symm⟩⟩
theorem gap_is (l:List UInt8):gapS l=if (Lib.hasPrefix l [35] || Lib.hasPrefix l [47,47]) then (lineN l,true)
  else if Lib.hasPrefix l [47,42] then (match noteN (l.drop 2) with | none=>(0,false) | some n=>(n+4,true)) else (spanN isWhS l,true):=by
 rw [pre35,pre47,pre47]
 cases l with
 | nil=>rfl
 | cons c r =>
  unfold gapS
  simp only [List.drop_one,List.head?_cons,Option.some.injEq,List.drop_succ_cons,List.drop_zero,Bool.decide_and,Bool.or_eq_true,decide_eq_true_eq,Bool.and_eq_true]
  all_goals split
  all_goals (try rfl)
  all_goals split
  all_goals (first | rfl | (cases noteN r.tail <;> rfl))
set_option maxRecDepth 100000 in
set_option maxHeartbeats 800000 in
theorem lineLength_any (s:ByteArray) (l:List UInt8) (w:World) (hl:Tx s l) (hs:(l.length:Int)≤100000) :
  Calls Tryz.prog 183 #[.string s] w fun e w'=>e = .returned (.int .i64 (lineN l:Nat))∧w'=w:=by
 have HL:=Lib.hid hl
 have hz:s.size=l.length:=hl.size
 have HI:Hid (Lib.indexByte s.data.toList (10:Int).toNat.toUInt8=if lineN l<l.length then ((lineN l:Nat):Int) else -1):=by
  unfold Hid;rw [show s.data.toList=l from hl];exact index_other l 10
 obtain ⟨N,hN⟩:∃ N,lineN l=N:=⟨_,rfl⟩
 have hle:N≤l.length:=by rw [← hN];exact spanN_le _ _
 rw [hN] at HI ⊢
 clear hl hN
 go_enter Tryz.func183,Tryz.ntmps183
 go_wp2_with fail
 refine (Tryz.strings_IndexByte s 10 w).mono ?_;rintro e w' ⟨rfl,rfl⟩
 rw [HI.out]
 by_cases hlt:N<l.length
 ·rw [if_pos hlt]
  go_wp2_with fail
  go_ret
  exact ⟨rfl,rfl⟩
 ·rw [if_neg hlt]
  have hE:(s.size:Int)=(N:Int):=by omega
  go_wp2_with fail
  go_ret
  exact ⟨congrArg (fun z=>Ending.returned (Value.int .i64 z)) (by omega),rfl⟩
set_option maxRecDepth 100000 in
set_option maxHeartbeats 800000 in
theorem gap_any (s:ByteArray) (l:List UInt8) (w:World) (hl:Tx s l) (hs:(l.length:Int)≤100000) (hm:MaxC w) :
  Calls Tryz.prog 134 #[.string s] w fun e w'=>e = .returned (.tuple #[.int .i64 ((gapS l).1:Nat),.bool (gapS l).2])∧w'=w:=by
 have HL:=Lib.hid hl
 have HZ:=Lib.hid hl.size
 have hz:(s.size:Int)≤100000:=by rw [hl.size];exact hs
 have HD:Hid (s.data.toList=l):=hl
 have HG:=Lib.hid (gap_is l)
 have HM:=Lib.hid hm
 obtain ⟨b1,hb1⟩:∃ b,Lib.hasPrefix l [35]=b:=⟨_,rfl⟩
 obtain ⟨b2,hb2⟩:∃ b,Lib.hasPrefix l [47,47]=b:=⟨_,rfl⟩
 obtain ⟨b3,hb3⟩:∃ b,Lib.hasPrefix l [47,42]=b:=⟨_,rfl⟩
 rw [hb1,hb2,hb3] at HG
 have h2:b3=true→(2:Int)≤s.size:=by
  intro h
  rw [h] at hb3
  rw [pre47] at hb3
  have:=of_decide_eq_true hb3
  cases l with
  | nil=>simp at this
  | cons c l=>cases l with
   | nil=>simp at this
   | cons d l=>rw [HZ.out];simp;omega
 have H1:=Lib.hid hb1
 have H2:=Lib.hid hb2
 have H3:=Lib.hid hb3
 clear hl hm hb1 hb2 hb3
 go_enter Tryz.func134,Tryz.ntmps134
 go_wp2_with fail
 refine (Tryz.strings_HasPrefix s ⟨#[35]⟩ w).mono ?_;rintro e w' ⟨rfl,rfl⟩
 rw [HD.out,show (ByteArray.mk #[35]).data.toList=[35] from rfl,H1.out]
 have hg:=HG.out
 cases b1
 ·go_wp2_with fail
  refine (Tryz.strings_HasPrefix s ⟨#[47,47]⟩ w').mono ?_;rintro e w' ⟨rfl,rfl⟩
  rw [HD.out,show (ByteArray.mk #[47,47]).data.toList=[47,47] from rfl,H2.out]
  cases b2
  ·go_wp2_with fail
   refine (Tryz.strings_HasPrefix s ⟨#[47,42]⟩ w').mono ?_;rintro e w' ⟨rfl,rfl⟩
   rw [HD.out,show (ByteArray.mk #[47,42]).data.toList=[47,42] from rfl,H3.out]
   rw [if_neg (by decide)] at hg
   cases b3
   ·rw [if_neg (by decide)] at hg
    have HG2:=Lib.hid hg
    clear hg HG h2
    go_wp2_with fail
    refine (span_any _ isWhS such_white s l _ HL.out (by omega)).mono ?_;rintro e w' ⟨rfl,rfl⟩
    obtain ⟨N,HN⟩:∃ N,Hid (spanN isWhS l=N):=⟨_,rfl⟩
    rw [HN.out]
    go_wp2_with fail
    go_ret2
    rw [HG2.out,HN.out]
    exact ⟨rfl,rfl⟩
   ·rw [if_pos rfl] at hg
    have h2':=h2 rfl
    have HG2:=Lib.hid hg
    obtain ⟨u,hu,HU⟩:=HL.out.from_ 2
    clear hg HG h2
    go_wp2_with fail
    obtain ⟨m,hmm⟩:=HM.out
    refine (Tryz.strings_Index u ⟨#[42,47]⟩ m _ (by rw [HU.out.size];simp;omega) hmm).mono ?_;rintro e w' ⟨rfl,rfl⟩
    have hI:=index_note (l.drop 2)
    rw [show u.data.toList=l.drop 2 from HU.out,show (ByteArray.mk #[42,47]).data.toList=[42,47] from rfl,hI]
    clear hI
    cases hn:noteN (l.drop 2) with
    | none =>
     rw [hn] at HG2
     dsimp only
     go_wp2_with fail
     go_ret2
     rw [HG2.out]
     exact ⟨rfl,rfl⟩
    | some n =>
     rw [hn] at HG2
     have hnl:(n:Int)≤100000:=by
      have:=noteN_lt _ _ hn
      simp at this;omega
     have HN:=Lib.hid hn
     clear hn
     dsimp only
     go_wp2_with fail
     go_ret2
     rw [HG2.out]
     exact ⟨rfl,rfl⟩
  ·rw [if_pos (by decide)] at hg
   have HG2:=Lib.hid hg
   clear hg HG h2
   go_wp2_with fail
   refine (lineLength_any s l _ HL.out hs).mono ?_;rintro e w' ⟨rfl,rfl⟩
   obtain ⟨N,HN⟩:∃ N,Hid (lineN l=N):=⟨_,rfl⟩
   rw [HN.out]
   go_wp2_with fail
   go_ret2
   rw [HG2.out,HN.out]
   exact ⟨rfl,rfl⟩
 ·rw [if_pos (by simp)] at hg
  have HG2:=Lib.hid hg
  clear hg HG h2
  go_wp2_with fail
  refine (lineLength_any s l _ HL.out hs).mono ?_;rintro e w' ⟨rfl,rfl⟩
  obtain ⟨N,HN⟩:∃ N,Hid (lineN l=N):=⟨_,rfl⟩
  rw [HN.out]
  go_wp2_with fail
  go_ret2
  rw [HG2.out,HN.out]
  exact ⟨rfl,rfl⟩
end Go.Proofs.YtpbjkgpdkopgmaaGreatDoor
namespace Go.Proofs.YtpbjkgpdkopgmaaGreatDoor
open Go.RowKit
theorem sgnN_le (l:List UInt8):sgnN l≤l.length∧sgnN l≤1:=by
 cases l with
 | nil=>exact ⟨Nat.le_refl _,Nat.zero_le _⟩
 | cons c l=>unfold sgnN;dsimp only;split <;> simp
theorem digN_le (l:List UInt8):digN l≤l.length:=spanN_le _ _
theorem frac_is (l:List UInt8):fracN l=if Lib.hasPrefix l [46]=true∧digN (Lib.trimPrefix l [46])≠0 then 1+digN (Lib.trimPrefix l [46]) else 0:=by
 cases l with
 | nil=>rfl
 | cons c r =>
  by_cases h:c=46
  ·subst h
   have h1:Lib.hasPrefix (46 :: r) [46]=true:=by simp [Lib.hasPrefix,List.isPrefixOf]
   have h2:Lib.trimPrefix (46 :: r) [46]=r:=by unfold Lib.trimPrefix;rw [h1];rfl
   rw [h1,h2]
   unfold fracN
   dsimp only
   by_cases h0:digN r=0
   ·simp [h0]
   ·rw [if_pos ⟨rfl,h0⟩,if_pos ⟨rfl,h0⟩];omega
  ·have h1:Lib.hasPrefix (c :: r) [46]=false:=by
    simp [Lib.hasPrefix,List.isPrefixOf];exact fun e=>h e.symm
   have h3:¬ c.toNat=46:=fun e=>h (UInt8.toNat_inj.1 (by rw [e];rfl))
   rw [h1]
   unfold fracN
   simp [h3]
theorem hex_is (l:List UInt8):hexN l=if Lib.hasPrefix l [48,120]=true∧spanN isHexS (Lib.trimPrefix l [48,120])≠0 then 2+spanN isHexS (Lib.trimPrefix l [48,120]) else 0:=by
 cases l with
 | nil=>rfl
 | cons c r=>cases r with
  | nil=>simp [hexN,Lib.hasPrefix,List.isPrefixOf]
  | cons d r =>
   by_cases h:c=48∧d=120
   ·obtain ⟨rfl,rfl⟩:=h
    have h1:Lib.hasPrefix (48 :: 120 :: r) [48,120]=true:=by simp [Lib.hasPrefix,List.isPrefixOf]
    have h2:Lib.trimPrefix (48 :: 120 :: r) [48,120]=r:=by unfold Lib.trimPrefix;rw [h1];rfl
    rw [h1,h2]
    unfold hexN
    simp
   ·have h1:Lib.hasPrefix (c :: d :: r) [48,120]=false:=by
     simp [Lib.hasPrefix,List.isPrefixOf]
     intro h1 h2
     exact h ⟨h1.symm,h2.symm⟩
    rw [h1]
    unfold hexN
    simp
    intro h1 h2
    exact absurd ⟨h1,h2⟩ h
set_option maxRecDepth 100000 in
set_option maxHeartbeats 800000 in
theorem signLength_any (s:ByteArray) (l:List UInt8) (w:World) (hl:Tx s l) :
  Calls Tryz.prog 220 #[.string s] w fun e w'=>e = .returned (.int .i64 (sgnN l:Nat))∧w'=w:=by
 cases l with
 | nil =>
  have e1:=hl.nil.1
  clear hl
  go_enter Tryz.func220,Tryz.ntmps220
  go_wp2_with fail
  go_ret
  exact ⟨rfl,rfl⟩
 | cons c l =>
  obtain ⟨hp,t,e0,e1,ht,e2,e3⟩:=hl.cons
  clear ht hl
  have HC:Hid (sgnN (c :: l)=if c.toNat=43∨c.toNat=45 then 1 else 0):=rfl
  by_cases c43:c.toNat=43
  ·have b1:((c.toNat:Int) == 43)=true:=by rw [beq_iff_eq];omega
   have HC2:Hid (sgnN (c :: l)=1):=by unfold Hid;rw [HC.out,if_pos (.inl c43)]
   clear c43
   go_enter Tryz.func220,Tryz.ntmps220
   go_wp2_with fail
   go_ret
   rw [HC2.out]
   exact ⟨rfl,rfl⟩
  ·have b1:((c.toNat:Int) == 43)=false:=by rw [beq_eq_false_iff_ne];omega
   by_cases c45:c.toNat=45
   ·have b2:((c.toNat:Int) == 45)=true:=by rw [beq_iff_eq];omega
    have HC2:Hid (sgnN (c :: l)=1):=by unfold Hid;rw [HC.out,if_pos (.inr c45)]
    clear c43 c45
    go_enter Tryz.func220,Tryz.ntmps220
    go_wp2_with fail
    go_ret
    rw [HC2.out]
    exact ⟨rfl,rfl⟩
   ·have b2:((c.toNat:Int) == 45)=false:=by rw [beq_eq_false_iff_ne];omega
    have HC2:Hid (sgnN (c :: l)=0):=by unfold Hid;rw [HC.out,if_neg (by omega)]
    clear c43 c45
    go_enter Tryz.func220,Tryz.ntmps220
    go_wp2_with fail
    go_ret
    rw [HC2.out]
    exact ⟨rfl,rfl⟩
set_option maxRecDepth 100000 in
set_option maxHeartbeats 800000 in
theorem fractionLength_any (s:ByteArray) (l:List UInt8) (w:World) (hl:Tx s l) (hs:(l.length:Int)≤100000) :
  Calls Tryz.prog 221 #[.string s] w fun e w'=>e = .returned (.int .i64 (fracN l:Nat))∧w'=w:=by
 have HD:Hid (s.data.toList=l):=hl
 have HF:=Lib.hid (frac_is l)
 obtain ⟨b,hb⟩:∃ b,Hid (Lib.hasPrefix l [46]=b):=⟨_,rfl⟩
 obtain ⟨r,hr⟩:∃ r,Hid (Lib.trimPrefix l [46]=r):=⟨_,rfl⟩
 have hrl:(r.length:Int)≤100000:=by rw [← hr.out];unfold Lib.trimPrefix;split;(simp;omega);omega
 rw [hb.out,hr.out] at HF
 clear hl
 go_enter Tryz.func221,Tryz.ntmps221
 go_wp2_with fail
 refine (Tryz.strings_CutPrefix s ⟨#[46]⟩ w).mono ?_;rintro e w' ⟨rfl,rfl⟩
 rw [HD.out,show (ByteArray.mk #[46]).data.toList=[46] from rfl,hb.out,hr.out]
 go_wp2_with fail
 refine (span_any _ isDig such_digit _ r _ (Tx.of r) (by omega)).mono ?_;rintro e w' ⟨rfl,rfl⟩
 have HF2:Hid (fracN l=if b=true∧spanN isDig r≠0 then 1+spanN isDig r else 0):=HF
 obtain ⟨N,hN⟩:∃ N,spanN isDig r=N:=⟨_,rfl⟩
 have hle:(N:Int)≤100000:=by have:=spanN_le isDig r;omega
 rw [hN] at HF2 ⊢
 clear hN HF
 cases b
 ·go_wp2_with fail
  go_ret
  rw [HF2.out]
  exact ⟨rfl,rfl⟩
 ·by_cases h0:N=0
  ·subst h0
   go_wp2_with fail
   go_ret
   rw [HF2.out]
   exact ⟨rfl,rfl⟩
  ·have b1:((N:Int) == 0)=false:=by rw [beq_eq_false_iff_ne];omega
   have HF3:Hid (fracN l=1+N):=by unfold Hid;rw [HF2.out,if_pos ⟨rfl,h0⟩]
   clear h0
   go_wp2_with fail
   go_ret
   rw [HF3.out]
   exact ⟨by go_num,rfl⟩
set_option maxRecDepth 100000 in
set_option maxHeartbeats 800000 in
theorem hexLength_any (s:ByteArray) (l:List UInt8) (w:World) (hl:Tx s l) (hs:(l.length:Int)≤100000) :
  Calls Tryz.prog 187 #[.string s] w fun e w'=>e = .returned (.int .i64 (hexN l:Nat))∧w'=w:=by
 have HD:Hid (s.data.toList=l):=hl
 have HF:=Lib.hid (hex_is l)
 obtain ⟨b,hb⟩:∃ b,Hid (Lib.hasPrefix l [48,120]=b):=⟨_,rfl⟩
 obtain ⟨r,hr⟩:∃ r,Hid (Lib.trimPrefix l [48,120]=r):=⟨_,rfl⟩
 have hrl:(r.length:Int)≤100000:=by rw [← hr.out];unfold Lib.trimPrefix;split;(simp;omega);omega
 rw [hb.out,hr.out] at HF
 clear hl
 go_enter Tryz.func187,Tryz.ntmps187
 go_wp2_with fail
 refine (Tryz.strings_CutPrefix s ⟨#[48,120]⟩ w).mono ?_;rintro e w' ⟨rfl,rfl⟩
 rw [HD.out,show (ByteArray.mk #[48,120]).data.toList=[48,120] from rfl,hb.out,hr.out]
 go_wp2_with fail
 refine (span_any _ isHexS such_hex _ r _ (Tx.of r) (by omega)).mono ?_;rintro e w' ⟨rfl,rfl⟩
 have HF2:Hid (hexN l=if b=true∧spanN isHexS r≠0 then 2+spanN isHexS r else 0):=HF
 obtain ⟨N,hN⟩:∃ N,spanN isHexS r=N:=⟨_,rfl⟩
 have hle:(N:Int)≤100000:=by have:=spanN_le isHexS r;omega
 rw [hN] at HF2 ⊢
 clear hN HF
 cases b
 ·go_wp2_with fail
  go_ret
  rw [HF2.out]
  exact ⟨rfl,rfl⟩
 ·by_cases h0:N=0
  ·subst h0
   go_wp2_with fail
   go_ret
   rw [HF2.out]
   exact ⟨rfl,rfl⟩
  ·have b1:((N:Int) == 0)=false:=by rw [beq_eq_false_iff_ne];omega
   have HF3:Hid (hexN l=2+N):=by unfold Hid;rw [HF2.out,if_pos ⟨rfl,h0⟩]
   clear h0
   go_wp2_with fail
   go_ret
   rw [HF3.out]
   exact ⟨by go_num,rfl⟩
set_option maxRecDepth 100000 in
set_option maxHeartbeats 1600000 in
theorem exponentLength_any (s:ByteArray) (l:List UInt8) (w:World) (hl:Tx s l) (hs:(l.length:Int)≤100000) :
  Calls Tryz.prog 222 #[.string s] w fun e w'=>e = .returned (.int .i64 (expN l:Nat))∧w'=w:=by
 cases l with
 | nil =>
  have e1:=hl.nil.1
  clear hl
  go_enter Tryz.func222,Tryz.ntmps222
  go_wp2_with fail
  go_ret
  exact ⟨rfl,rfl⟩
 | cons c l =>
  have HL:=Lib.hid hl
  obtain ⟨hp,t,e0,e1,ht,e2,e3⟩:=hl.cons
  have HT:=Lib.hid ht
  have hll:(l.length:Int)≤100000:=by simp at hs;omega
  have hz:(s.size:Int)=(l.length:Int)+1:=by rw [hl.size];simp
  clear ht hl hs
  obtain ⟨M,hM⟩:∃ M,sgnN l=M:=⟨_,rfl⟩
  obtain ⟨hM1,hM2⟩:=sgnN_le l
  obtain ⟨K,hK⟩:∃ K,digN (l.drop M)=K:=⟨_,rfl⟩
  have hK1:K≤l.length:=by rw [← hK];have:=digN_le (l.drop M);simp at this;omega
  have HC:Hid (expN (c :: l)=if (c.toNat=101∨c.toNat=69)∧K≠0 then 1+M+K else 0):=by
   unfold Hid expN;dsimp only;rw [hM,hK]
  rw [hM] at hM1 hM2
  have HM:=Lib.hid hM
  have HK:=Lib.hid hK
  obtain ⟨u,hu,HU⟩:=HL.out.from_ (1+M)
  have HU2:Hid (Tx u (l.drop M)):=by
   have:(c :: l).drop (1+M)=l.drop M:=by rw [Nat.add_comm];rfl
   rw [← this];exact HU
  have hu2:s.extract (M+1) s.size=u:=by rw [Nat.add_comm];exact hu
  have hM0:(M:Int)≤1:=by omega
  have hK2:(K:Int)≤100000:=by omega
  have hM3:(M:Int)≤(l.length:Int):=by omega
  clear hM hK HU hM1 hM2 hK1
  by_cases hE:c.toNat=101∨c.toNat=69
  ·have ht1:((c.toNat:Int) != 101)=false∨((c.toNat:Int) != 101)=true∧((c.toNat:Int) != 69)=false:=by
    rcases hE with h | h
    ·left;simp;omega
    ·right;simp;omega
   have HC2:Hid (expN (c :: l)=if K≠0 then 1+M+K else 0):=by unfold Hid;rw [HC.out];simp [hE]
   clear hE HC
   rcases ht1 with b1 | ⟨b1,b2⟩
   all_goals
    go_enter Tryz.func222,Tryz.ntmps222
    go_wp2_with fail
    refine (signLength_any t l w HT.out).mono ?_;rintro e w' ⟨rfl,rfl⟩
    rw [HM.out]
    go_wp2_with fail
    refine (span_any _ isDig such_digit u (l.drop M) _ HU2.out (by simp;omega)).mono ?_;rintro e w' ⟨rfl,rfl⟩
    rw [show spanN isDig (l.drop M)=K from HK.out]
    by_cases h0:K=0
    ·subst h0
     go_wp2_with fail
     go_ret
     rw [HC2.out]
     exact ⟨rfl,rfl⟩
    ·have b1:((K:Int) == 0)=false:=by rw [beq_eq_false_iff_ne];omega
     have HF3:Hid (expN (c :: l)=1+M+K):=by unfold Hid;rw [HC2.out,if_pos h0]
     clear h0
     go_wp2_with fail
     go_ret
     rw [HF3.out]
     exact ⟨by go_num,rfl⟩
  ·have b1:((c.toNat:Int) != 101)=true:=by simp;omega
   have b2:((c.toNat:Int) != 69)=true:=by simp;omega
   have HC2:Hid (expN (c :: l)=0):=by unfold Hid;rw [HC.out];simp [hE]
   clear hE HC
   go_enter Tryz.func222,Tryz.ntmps222
   go_wp2_with fail
   go_ret
   rw [HC2.out]
   exact ⟨rfl,rfl⟩
end Go.Proofs.YtpbjkgpdkopgmaaGreatDoor
namespace Go.Proofs.YtpbjkgpdkopgmaaGreatDoor
open Go.RowKit
theorem fracN_le (l:List UInt8):fracN l≤l.length:=by
 cases l with
 | nil=>exact Nat.le_refl _
 | cons c r =>
  unfold fracN;dsimp only
  have:=digN_le r
  split
  ·simp;omega
  ·simp
theorem expN_le (l:List UInt8):expN l≤l.length:=by
 cases l with
 | nil=>exact Nat.le_refl _
 | cons c r =>
  unfold expN;dsimp only
  have h1:=digN_le (r.drop (sgnN r))
  have h2:=(sgnN_le r).1
  split
  ·simp at h1 ⊢;omega
  ·simp
set_option maxRecDepth 100000 in
set_option maxHeartbeats 1600000 in
theorem decimalLength_any (s:ByteArray) (l:List UInt8) (w:World) (hl:Tx s l) (hs:(l.length:Int)≤100000) :
  Calls Tryz.prog 189 #[.string s] w fun e w'=>e = .returned (.int .i64 (decN l:Nat))∧w'=w:=by
 have HL:=Lib.hid hl
 have hz:(s.size:Int)=(l.length:Int):=by rw [hl.size]
 clear hl
 obtain ⟨M,hM⟩:∃ M,sgnN l=M:=⟨_,rfl⟩
 obtain ⟨hM1,hM2⟩:=sgnN_le l
 obtain ⟨K,hK⟩:∃ K,digN (l.drop M)=K:=⟨_,rfl⟩
 have hK1:M+K≤l.length:=by rw [← hK,← hM];have:=digN_le (l.drop (sgnN l));simp at this;omega
 obtain ⟨F,hF⟩:∃ F,fracN (l.drop (M+K))=F:=⟨_,rfl⟩
 have hF1:M+K+F≤l.length:=by rw [← hF];have:=fracN_le (l.drop (M+K));simp at this;omega
 obtain ⟨D,hD⟩:∃ D,K+F=D:=⟨_,rfl⟩
 obtain ⟨E,hE⟩:∃ E,expN (l.drop (M+D))=E:=⟨_,rfl⟩
 have hE1:M+D+E≤l.length:=by rw [← hE];have:=expN_le (l.drop (M+D));simp at this;omega
 have HC:Hid (decN l=if D=0 then 0 else M+D+E):=by
  unfold Hid decN;dsimp only;rw [hM,hK,hF,hD,hE]
 have HM:=Lib.hid hM
 have HK:=Lib.hid hK
 have HF:=Lib.hid hF
 have HE:=Lib.hid hE
 obtain ⟨u1,hu1,HU1⟩:=HL.out.from_ M
 obtain ⟨u2,hu2,HU2⟩:=HL.out.from_ (M+K)
 obtain ⟨u3,hu3,HU3⟩:=HL.out.from_ (M+D)
 have i1:(M:Int)≤(l.length:Int):=by omega
 have i2:(M:Int)+(K:Int)≤(l.length:Int):=by omega
 have i3:(M:Int)+(D:Int)≤(l.length:Int):=by omega
 have i4:(M:Int)+(D:Int)+(E:Int)≤(l.length:Int):=by omega
 have hDI:(K:Int)+(F:Int)=(D:Int):=by omega
 rw [hM] at hM1 hM2
 clear hM hK hF hE hM1 hM2 hK1 hF1 hE1 hD
 go_enter Tryz.func189,Tryz.ntmps189
 go_wp2_with fail
 refine (signLength_any s l w HL.out).mono ?_;rintro e w' ⟨rfl,rfl⟩
 rw [HM.out]
 go_wp2_with fail
 refine (span_any _ isDig such_digit u1 _ _ HU1.out (by simp;omega)).mono ?_;rintro e w' ⟨rfl,rfl⟩
 rw [show spanN isDig (l.drop M)=K from HK.out]
 go_wp2_with fail
 refine (fractionLength_any u2 _ _ HU2.out (by simp;omega)).mono ?_;rintro e w' ⟨rfl,rfl⟩
 rw [HF.out]
 by_cases h0:D=0
 ·have b1:((D:Int) == 0)=true:=by rw [beq_iff_eq];omega
  have HC2:Hid (decN l=0):=by unfold Hid;rw [HC.out,if_pos h0]
  clear h0
  go_wp2_with fail
  go_ret
  rw [HC2.out]
  exact ⟨rfl,rfl⟩
 ·have b1:((D:Int) == 0)=false:=by rw [beq_eq_false_iff_ne];omega
  have HC2:Hid (decN l=M+D+E):=by unfold Hid;rw [HC.out,if_neg h0]
  clear h0
  go_wp2_with fail
  refine (exponentLength_any u3 _ _ HU3.out (by simp;omega)).mono ?_;rintro e w' ⟨rfl,rfl⟩
  rw [HE.out]
  go_wp2_with fail
  go_ret
  rw [HC2.out]
  exact ⟨by go_num,rfl⟩
set_option maxRecDepth 100000 in
set_option maxHeartbeats 1600000 in
theorem isWhole_any (s:ByteArray) (l:List UInt8) (w:World) (hl:Tx s l) (hs:(l.length:Int)≤100000) :
  Calls Tryz.prog 190 #[.string s] w fun e w'=>e = .returned (.bool (wholeB l))∧w'=w:=by
 have HL:=Lib.hid hl
 have hz:(s.size:Int)=(l.length:Int):=by rw [hl.size]
 clear hl
 obtain ⟨M,hM⟩:∃ M,sgnN l=M:=⟨_,rfl⟩
 obtain ⟨hM1,hM2⟩:=sgnN_le l
 obtain ⟨K,hK⟩:∃ K,digN (l.drop M)=K:=⟨_,rfl⟩
 have hK1:M+K≤l.length:=by rw [← hK,← hM];have:=digN_le (l.drop (sgnN l));simp at this;omega
 have HC:Hid (wholeB l=decide (M+K=l.length)):=by unfold Hid wholeB;rw [hM,hK]
 have HM:=Lib.hid hM
 have HK:=Lib.hid hK
 obtain ⟨u1,hu1,HU1⟩:=HL.out.from_ M
 have i1:(M:Int)≤(l.length:Int):=by omega
 have i2:(M:Int)+(K:Int)≤(l.length:Int):=by omega
 rw [hM] at hM1 hM2
 clear hM hK hM1 hM2 hK1
 go_enter Tryz.func190,Tryz.ntmps190
 go_wp2_with fail
 refine (signLength_any s l w HL.out).mono ?_;rintro e w' ⟨rfl,rfl⟩
 rw [HM.out]
 go_wp2_with fail
 refine (span_any _ isDig such_digit u1 _ _ HU1.out (by simp;omega)).mono ?_;rintro e w' ⟨rfl,rfl⟩
 rw [show spanN isDig (l.drop M)=K from HK.out]
 go_wp2_with fail
 go_ret
 refine ⟨congrArg (fun b=>Ending.returned (Value.bool b)) ?_,rfl⟩
 rw [HC.out,Bool.eq_iff_iff]
 simp
 omega
theorem isHex_iff (c:UInt8):isHexS c=true↔(48≤c.toNat∧c.toNat≤57)∨(97≤c.toNat∧c.toNat≤102)∨(65≤c.toNat∧c.toNat≤70):=by
 unfold isHexS isDig;simp;omega
theorem hexV_lt (c:UInt8) (h:isHexS c=true):hexV c≤15:=by
 have:=(isHex_iff c).1 h
 unfold hexV;split
 ·omega
 ·split <;> omega
set_option maxRecDepth 100000 in
set_option maxHeartbeats 1600000 in
theorem digitValue_any (c:UInt8) (w:World) (hc:isHexS c=true) :
  Calls Tryz.prog 245 #[.int .u8 (c.toNat:Int)] w fun e w'=>e = .returned (.int .u64 (hexV c:Nat))∧w'=w:=by
 have h:=(isHex_iff c).1 hc
 obtain ⟨H,hH⟩:∃ H,Hid (hexV c=H):=⟨_,rfl⟩
 rw [hH.out]
 by_cases c1:97≤c.toNat
 ·obtain ⟨R,hR⟩:∃ R:Nat,(c.toNat:Int) - 97=(R:Int):=⟨c.toNat - 97,by omega⟩
  have hR2:H=R+10:=by rw [← hH.out];unfold hexV;rw [if_pos (by omega)];omega
  have b1:decide ((97:Int)≤(c.toNat:Int))=true:=decide_eq_true (by omega)
  have b2:decide ((c.toNat:Int)≤102)=true:=decide_eq_true (by omega)
  have i1:(97:Int)≤(c.toNat:Int):=by omega
  have i2:(c.toNat:Int)≤102:=by omega
  have i3:(R:Int)≤5:=by omega
  subst hR2
  clear h c1
  go_enter Tryz.func245,Tryz.ntmps245
  go_wp2_with fail
  go_ret
  exact ⟨by go_num,rfl⟩
 ·have b1:decide ((97:Int)≤(c.toNat:Int))=false:=decide_eq_false (by omega)
  by_cases c2:65≤c.toNat
  ·obtain ⟨R,hR⟩:∃ R:Nat,(c.toNat:Int) - 65=(R:Int):=⟨c.toNat - 65,by omega⟩
   have hR2:H=R+10:=by rw [← hH.out];unfold hexV;rw [if_neg (by omega),if_pos (by omega)];omega
   have b3:decide ((65:Int)≤(c.toNat:Int))=true:=decide_eq_true (by omega)
   have b4:decide ((c.toNat:Int)≤70)=true:=decide_eq_true (by omega)
   have i1:(65:Int)≤(c.toNat:Int):=by omega
   have i2:(c.toNat:Int)≤70:=by omega
   have i3:(R:Int)≤5:=by omega
   subst hR2
   clear h c1 c2
   go_enter Tryz.func245,Tryz.ntmps245
   go_wp2_with fail
   go_ret
   exact ⟨by go_num,rfl⟩
  ·obtain ⟨R,hR⟩:∃ R:Nat,(c.toNat:Int) - 48=(R:Int):=⟨c.toNat - 48,by omega⟩
   have hR2:H=R:=by rw [← hH.out];unfold hexV;rw [if_neg (by omega),if_neg (by omega)];omega
   have b3:decide ((65:Int)≤(c.toNat:Int))=false:=decide_eq_false (by omega)
   have i1:(48:Int)≤(c.toNat:Int):=by omega
   have i2:(c.toNat:Int)≤57:=by omega
   have i3:(R:Int)≤9:=by omega
   subst hR2
   clear h c1 c2
   go_enter Tryz.func245,Tryz.ntmps245
   go_wp2_with fail
   go_ret
   exact ⟨by go_num,rfl⟩
end Go.Proofs.YtpbjkgpdkopgmaaGreatDoor
namespace Go.Proofs.YtpbjkgpdkopgmaaGreatDoor
open Go.RowKit
theorem natB_snoc (b:Nat) (l:List UInt8) (c:UInt8):natB b (l++[c])=b * natB b l+hexV c:=by
 unfold natB;rw [List.foldl_append];rfl
theorem natB_take (b:Nat) (l:List UInt8) (n:Nat) (h:n<l.length):natB b (l.take (n+1))=b * natB b (l.take n)+hexV l[n]:=by
 rw [List.take_append_getElem h |>.symm,natB_snoc]
theorem natB_mono (b:Nat) (hb:1≤b) (l m:List UInt8):natB b l≤natB b (l++m):=by
 induction m generalizing l with
 | nil=>simp
 | cons c m ih =>
  have h1:=ih (l++[c])
  rw [natB_snoc,List.append_assoc] at h1
  have:natB b l≤b * natB b l:=Nat.le_mul_of_pos_left _ hb
  simp at h1 ⊢
  omega
end Go.Proofs.YtpbjkgpdkopgmaaGreatDoor
