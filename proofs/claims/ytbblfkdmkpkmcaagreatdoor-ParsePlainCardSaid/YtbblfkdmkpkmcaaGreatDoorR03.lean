/- The contract of the document's answer for dec: an exponent. The contracts of the document's answers for big: entries, lists without noughts behind, order, sums. The contracts of the document's answers for big: sums, differences. -/
import Derived.Test.YtbblfkdmkpkmcaaGreatDoorG19
import Derived.Test.YtbblfkdmkpkmcaaGreatDoorG02
import Derived.OwnWalk
import Derived.Test.YtbblfkdmkpkmcaaGreatDoorG21
set_option linter.unusedVariables false
set_option linter.unusedSimpArgs false
set_option linter.unnecessarySimpa false
namespace Go.Proofs.YtbblfkdmkpkmcaaGreatDoor
open Go.RowKit
def expT (l:List UInt8):Int×Bool×Nat:=match expS l with
 | none=>(0,false,2)
 | some (v,big)=>(v,big,0)
theorem expDigits_step (c:UInt8) (l:List UInt8) (m:Nat) (h:isDig c=true):expDigits (c :: l) m=expDigits l (min (m * 10+digV c) 100000):=by rw [expDigits,if_pos h]
theorem expDigits_stop (c:UInt8) (l:List UInt8) (m:Nat) (h:isDig c=false):expDigits (c :: l) m=none:=by rw [expDigits,if_neg (by rw [h];decide)]
set_option maxRecDepth 100000 in
set_option maxHeartbeats 3200000 in
theorem refExponent_any (s:ByteArray) (l:List UInt8) (w:World) (hl:Tx s l) (hs:(l.length:Int)≤8000) :
  Calls Tryz.prog 173 #[.string s] w fun e w'=>e = .returned (.tuple #[.int .i64 (expT l).1,.bool (expT l).2.1,.int .i64 ((expT l).2.2:Nat)])∧Nx w w':=by
 cases l with
 | nil =>
  have e1:=hl.nil.1
  have e2:=hl.nil.2
  have HX:Hid (expT []=(0,false,0)):=rfl
  clear hl
  go_enter Tryz.func173,Tryz.ntmps173
  go_wp2_with fail
  go_ret3
  rw [HX.out]
  exact ⟨rfl,Nx.refl _⟩
 | cons c l =>
  obtain ⟨hp,t,e0,e1,ht,e2,e3⟩:=hl.cons
  have hz:(s.size:Int)≤8001:=by rw [hl.size];simp at hs ⊢;omega
  have zs:((s.size:Int) == 0)=false:=by rw [beq_eq_false_iff_ne];omega
  by_cases hc:c.toNat=101∨c.toNat=69
  ·have hsplit:(((c.toNat:Int) != 101)=false)∨(((c.toNat:Int) != 101)=true∧((c.toNat:Int) != 69)=false):=by
    by_cases h:c.toNat=101
    ·exact .inl (by simp [h])
    ·refine .inr ⟨?_,?_⟩
     ·rw [bne_iff_ne];omega
     ·rw [show c.toNat=69 from by omega];rfl
   have HX:Hid (expT (c :: l)=if (signS l).2=[] then (0,false,2) else match expDigits (signS l).2 0 with
     | none=>(0,false,2)
     | some v=>(if (signS l).1 then -(v:Int) else (v:Int),decide (400<v),0)):=by
    unfold Hid expT
    simp only [expS,if_pos hc]
    by_cases h:(signS l).2=[]
    ·rw [if_pos h,if_pos h]
    ·rw [if_neg h,if_neg h]
     cases expDigits (signS l).2 0 <;> rfl
   clear hc hl
   cases l with
   | nil =>
    have d1:=ht.nil.1
    have d2:=ht.nil.2
    have hx:=HX.out
    rw [if_pos (show (signS []).2=[] from rfl)] at hx
    rw [hx]
    clear ht HX
    rcases hsplit with n1 | ⟨n1,n2⟩
    all_goals
     go_enter Tryz.func173,Tryz.ntmps173
     go_wp2_with fail
     go_ret3
     exact ⟨rfl,Nx.refl _⟩
   | cons c2 l2 =>
    obtain ⟨hp2,t2,e20,e21,ht2,e22,e23⟩:=ht.cons
    by_cases c43:c2.toNat=43
    ·have b1:((c2.toNat:Int) == 43)=true:=by rw [beq_iff_eq];omega
     have b2:((c2.toNat:Int) == 45)=false:=by rw [beq_eq_false_iff_ne];omega
     have HC:Hid (signS (c2 :: l2)=(false,l2)):=by unfold Hid;simp [signS,c43]
     have hx:=HX.out
     rw [HC.out] at hx
     have HT:=Lib.hid ht2
     have zt:((t.size:Int) == 0)=false:=by rw [beq_eq_false_iff_ne];omega
     have hzr:(t2.size:Int)≤8001:=by rw [ht2.size];simp at hs ⊢;omega
     clear ht ht2 HX c43
     cases l2 with
     | nil =>
      have d1:=HT.out.nil.1
      have d2:=HT.out.nil.2
      dsimp only at hx
      rw [if_pos rfl] at hx
      rw [hx]
      rcases hsplit with n1 | ⟨n1,n2⟩
      all_goals
       go_enter Tryz.func173,Tryz.ntmps173
       go_wp2_with fail
       go_ret3
       exact ⟨rfl,Nx.refl _⟩
     | cons c3 l3 =>
      have zr:((t2.size:Int) == 0)=false:=by rw [beq_eq_false_iff_ne,HT.out.size];simp;omega
      dsimp only at hx
      rw [if_neg (show ¬ (c3 :: l3)=[] by simp)] at hx
      obtain ⟨X,hX⟩:∃ X,expT (c :: c2 :: c3 :: l3)=X:=⟨_,rfl⟩
      rw [hX] at hx ⊢
      obtain ⟨R,hR⟩:∃ R,(c3 :: l3)=R:=⟨_,rfl⟩
      rw [hR] at hx HT
      clear hR hX
      have HX:=Lib.hid hx
      clear hx
      rcases hsplit with n1 | ⟨n1,n2⟩
      all_goals
       go_enter Tryz.func173,Tryz.ntmps173
       go_wp2_with fail
       go_loopw [6,7] (fun a v wr=>∃ (n m:Nat),v = .int .i64 n∧a = .int .i64 m∧n≤R.length∧m≤100000∧Hid (expDigits R 0=expDigits (R.drop n) m)∧Nx w wr) (fun _ v _=>(10000 - intOf v).toNat)
       case atStart=>exact ⟨0,0,rfl,rfl,Nat.zero_le _,by decide,by unfold Hid;rfl,Nx.refl _⟩
       case round =>
        obtain ⟨n,m,rfl,rfl,hn,hm,HM,hb⟩:=hrel
        by_cases hlt:n<R.length
        ·obtain ⟨hpn,e0n⟩:=HT.out.idx n hlt
         obtain ⟨d,hd⟩:∃ d,R[n]=d:=⟨_,rfl⟩
         rw [hd] at e0n
         have hdr:R.drop n=d :: R.drop (n+1):=by rw [← hd];exact List.drop_eq_getElem_cons hlt
         by_cases h48:48≤d.toNat
         ·by_cases h57:d.toNat≤57
          ·have g2:decide ((d.toNat:Int)<48)=false:=decide_eq_false (by omega)
           have g3:decide ((57:Int)<(d.toNat:Int))=false:=decide_eq_false (by omega)
           have hd1:(48:Int)≤(d.toNat:Int):=by omega
           have hd2:(d.toNat:Int)≤57:=by omega
           obtain ⟨M,hM,hM2⟩:∃ M:Nat,min ((m:Int) * 10+((d.toNat:Int) - 48)) 100000=(M:Int)∧M=min (m * 10+digV d) 100000:=by
            refine ⟨_,?_,rfl⟩
            unfold digV
            omega
           have HN:Hid (expDigits R 0=expDigits (R.drop (n+1)) M):=by
            unfold Hid
            rw [HM.out,hdr,expDigits_step _ _ _ ((isDig_iff d).2 ⟨h48,h57⟩),hM2]
           have hM3:M≤100000:=by omega
           clear hM2 h48 h57 hdr hd
           go_wp2_with fail
           go_roundw
           case rel=>exact ⟨n+1,M,by go_num,rfl,hlt,hM3,HN,hb⟩
           case measure=>simp [intOf];omega
          ·have g2:decide ((d.toNat:Int)<48)=false:=decide_eq_false (by omega)
           have g3:decide ((57:Int)<(d.toNat:Int))=true:=decide_eq_true (by omega)
           have hx:=HX.out
           rw [HM.out,hdr,expDigits_stop _ _ _ (by rw [← Bool.not_eq_true,isDig_iff];omega)] at hx
           have HF:=Lib.hid hx
           clear hdr hd h48 h57 hx
           go_wp2_with fail
           go_ret3
           rw [HF.out]
           exact ⟨rfl,hb⟩
         ·have g2:decide ((d.toNat:Int)<48)=true:=decide_eq_true (by omega)
          have hx:=HX.out
          rw [HM.out,hdr,expDigits_stop _ _ _ (by rw [← Bool.not_eq_true,isDig_iff];omega)] at hx
          have HF:=Lib.hid hx
          clear hdr hd h48 hx
          go_wp2_with fail
          go_ret3
          rw [HF.out]
          exact ⟨rfl,hb⟩
        ·have g1:¬ n<t2.size:=by rw [HT.out.size];omega
         have hx:=HX.out
         rw [HM.out,List.drop_of_length_le (by omega)] at hx
         dsimp only [expDigits] at hx
         have HF:=Lib.hid hx
         have HD:Hid (decide ((400:Int)<(m:Int))=decide (400<m)):=by unfold Hid;congr 1;simp;omega
         clear hx
         go_wp2_with fail
         go_ret3
         rw [HF.out]
         refine ⟨?_,hb⟩
         rw [← HD.out]
         rfl
    ·by_cases c45:c2.toNat=45
     ·have b1:((c2.toNat:Int) == 43)=false:=by rw [beq_eq_false_iff_ne];omega
      have b2:((c2.toNat:Int) == 45)=true:=by rw [beq_iff_eq];omega
      have HC:Hid (signS (c2 :: l2)=(true,l2)):=by unfold Hid;simp [signS,c45]
      have hx:=HX.out
      rw [HC.out] at hx
      have HT:=Lib.hid ht2
      have zt:((t.size:Int) == 0)=false:=by rw [beq_eq_false_iff_ne];omega
      have hzr:(t2.size:Int)≤8001:=by rw [ht2.size];simp at hs ⊢;omega
      clear ht ht2 HX c45
      cases l2 with
      | nil =>
       have d1:=HT.out.nil.1
       have d2:=HT.out.nil.2
       dsimp only at hx
       rw [if_pos rfl] at hx
       have HF:=Lib.hid hx
       rcases hsplit with n1 | ⟨n1,n2⟩
       all_goals
        go_enter Tryz.func173,Tryz.ntmps173
        go_wp2_with fail
        go_ret3
        rw [HF.out]
        exact ⟨rfl,Nx.refl _⟩
      | cons c3 l3 =>
       have zr:((t2.size:Int) == 0)=false:=by rw [beq_eq_false_iff_ne,HT.out.size];simp;omega
       dsimp only at hx
       rw [if_neg (show ¬ (c3 :: l3)=[] by simp)] at hx
       obtain ⟨X,hX⟩:∃ X,expT (c :: c2 :: c3 :: l3)=X:=⟨_,rfl⟩
       rw [hX] at hx ⊢
       obtain ⟨R,hR⟩:∃ R,(c3 :: l3)=R:=⟨_,rfl⟩
       rw [hR] at hx HT
       clear hR hX
       have HX:=Lib.hid hx
       clear hx
       rcases hsplit with n1 | ⟨n1,n2⟩
       all_goals
        go_enter Tryz.func173,Tryz.ntmps173
        go_wp2_with fail
        go_loopw [6,7] (fun a v wr=>∃ (n m:Nat),v = .int .i64 n∧a = .int .i64 m∧n≤R.length∧m≤100000∧Hid (expDigits R 0=expDigits (R.drop n) m)∧Nx w wr) (fun _ v _=>(10000 - intOf v).toNat)
        case atStart=>exact ⟨0,0,rfl,rfl,Nat.zero_le _,by decide,by unfold Hid;rfl,Nx.refl _⟩
        case round =>
         obtain ⟨n,m,rfl,rfl,hn,hm,HM,hb⟩:=hrel
         by_cases hlt:n<R.length
         ·obtain ⟨hpn,e0n⟩:=HT.out.idx n hlt
          obtain ⟨d,hd⟩:∃ d,R[n]=d:=⟨_,rfl⟩
          rw [hd] at e0n
          have hdr:R.drop n=d :: R.drop (n+1):=by rw [← hd];exact List.drop_eq_getElem_cons hlt
          by_cases h48:48≤d.toNat
          ·by_cases h57:d.toNat≤57
           ·have g2:decide ((d.toNat:Int)<48)=false:=decide_eq_false (by omega)
            have g3:decide ((57:Int)<(d.toNat:Int))=false:=decide_eq_false (by omega)
            have hd1:(48:Int)≤(d.toNat:Int):=by omega
            have hd2:(d.toNat:Int)≤57:=by omega
            obtain ⟨M,hM,hM2⟩:∃ M:Nat,min ((m:Int) * 10+((d.toNat:Int) - 48)) 100000=(M:Int)∧M=min (m * 10+digV d) 100000:=by
             refine ⟨_,?_,rfl⟩
             unfold digV
             omega
            have HN:Hid (expDigits R 0=expDigits (R.drop (n+1)) M):=by
             unfold Hid
             rw [HM.out,hdr,expDigits_step _ _ _ ((isDig_iff d).2 ⟨h48,h57⟩),hM2]
            have hM3:M≤100000:=by omega
            clear hM2 h48 h57 hdr hd
            go_wp2_with fail
            go_roundw
            case rel=>exact ⟨n+1,M,by go_num,rfl,hlt,hM3,HN,hb⟩
            case measure=>simp [intOf];omega
           ·have g2:decide ((d.toNat:Int)<48)=false:=decide_eq_false (by omega)
            have g3:decide ((57:Int)<(d.toNat:Int))=true:=decide_eq_true (by omega)
            have hx:=HX.out
            rw [HM.out,hdr,expDigits_stop _ _ _ (by rw [← Bool.not_eq_true,isDig_iff];omega)] at hx
            have HF:=Lib.hid hx
            clear hdr hd h48 h57 hx
            go_wp2_with fail
            go_ret3
            rw [HF.out]
            exact ⟨rfl,hb⟩
          ·have g2:decide ((d.toNat:Int)<48)=true:=decide_eq_true (by omega)
           have hx:=HX.out
           rw [HM.out,hdr,expDigits_stop _ _ _ (by rw [← Bool.not_eq_true,isDig_iff];omega)] at hx
           have HF:=Lib.hid hx
           clear hdr hd h48 hx
           go_wp2_with fail
           go_ret3
           rw [HF.out]
           exact ⟨rfl,hb⟩
         ·have g1:¬ n<t2.size:=by rw [HT.out.size];omega
          have hx:=HX.out
          rw [HM.out,List.drop_of_length_le (by omega)] at hx
          dsimp only [expDigits] at hx
          have HF:=Lib.hid hx
          have HD:Hid (decide ((400:Int)<(m:Int))=decide (400<m)):=by unfold Hid;congr 1;simp;omega
          clear hx
          go_wp2_with fail
          go_ret3
          rw [HF.out]
          refine ⟨?_,hb⟩
          rw [← HD.out]
          rfl
     ·have b1:((c2.toNat:Int) == 43)=false:=by rw [beq_eq_false_iff_ne];omega
      have b2:((c2.toNat:Int) == 45)=false:=by rw [beq_eq_false_iff_ne];omega
      have HC:Hid (signS (c2 :: l2)=(false,c2 :: l2)):=by unfold Hid;simp [signS,c43,c45]
      have hx:=HX.out
      rw [HC.out] at hx
      have HT:=Lib.hid ht
      have zt:((t.size:Int) == 0)=false:=by rw [beq_eq_false_iff_ne];omega
      have hzr:(t.size:Int)≤8001:=by rw [ht.size];simp at hs ⊢;omega
      clear ht ht2 HX c43 c45
      dsimp only at hx
      rw [if_neg (show ¬ (c2 :: l2)=[] by simp)] at hx
      obtain ⟨X,hX⟩:∃ X,expT (c :: c2 :: l2)=X:=⟨_,rfl⟩
      rw [hX] at hx ⊢
      obtain ⟨R,hR⟩:∃ R,(c2 :: l2)=R:=⟨_,rfl⟩
      rw [hR] at hx HT
      clear hR hX
      have HX:=Lib.hid hx
      clear hx
      rcases hsplit with n1 | ⟨n1,n2⟩
      all_goals
       go_enter Tryz.func173,Tryz.ntmps173
       go_wp2_with fail
       go_loopw [6,7] (fun a v wr=>∃ (n m:Nat),v = .int .i64 n∧a = .int .i64 m∧n≤R.length∧m≤100000∧Hid (expDigits R 0=expDigits (R.drop n) m)∧Nx w wr) (fun _ v _=>(10000 - intOf v).toNat)
       case atStart=>exact ⟨0,0,rfl,rfl,Nat.zero_le _,by decide,by unfold Hid;rfl,Nx.refl _⟩
       case round =>
        obtain ⟨n,m,rfl,rfl,hn,hm,HM,hb⟩:=hrel
        by_cases hlt:n<R.length
        ·obtain ⟨hpn,e0n⟩:=HT.out.idx n hlt
         obtain ⟨d,hd⟩:∃ d,R[n]=d:=⟨_,rfl⟩
         rw [hd] at e0n
         have hdr:R.drop n=d :: R.drop (n+1):=by rw [← hd];exact List.drop_eq_getElem_cons hlt
         by_cases h48:48≤d.toNat
         ·by_cases h57:d.toNat≤57
          ·have g2:decide ((d.toNat:Int)<48)=false:=decide_eq_false (by omega)
           have g3:decide ((57:Int)<(d.toNat:Int))=false:=decide_eq_false (by omega)
           have hd1:(48:Int)≤(d.toNat:Int):=by omega
           have hd2:(d.toNat:Int)≤57:=by omega
           obtain ⟨M,hM,hM2⟩:∃ M:Nat,min ((m:Int) * 10+((d.toNat:Int) - 48)) 100000=(M:Int)∧M=min (m * 10+digV d) 100000:=by
            refine ⟨_,?_,rfl⟩
            unfold digV
            omega
           have HN:Hid (expDigits R 0=expDigits (R.drop (n+1)) M):=by
            unfold Hid
            rw [HM.out,hdr,expDigits_step _ _ _ ((isDig_iff d).2 ⟨h48,h57⟩),hM2]
           have hM3:M≤100000:=by omega
           clear hM2 h48 h57 hdr hd
           go_wp2_with fail
           go_roundw
           case rel=>exact ⟨n+1,M,by go_num,rfl,hlt,hM3,HN,hb⟩
           case measure=>simp [intOf];omega
          ·have g2:decide ((d.toNat:Int)<48)=false:=decide_eq_false (by omega)
           have g3:decide ((57:Int)<(d.toNat:Int))=true:=decide_eq_true (by omega)
           have hx:=HX.out
           rw [HM.out,hdr,expDigits_stop _ _ _ (by rw [← Bool.not_eq_true,isDig_iff];omega)] at hx
           have HF:=Lib.hid hx
           clear hdr hd h48 h57 hx
           go_wp2_with fail
           go_ret3
           rw [HF.out]
           exact ⟨rfl,hb⟩
         ·have g2:decide ((d.toNat:Int)<48)=true:=decide_eq_true (by omega)
          have hx:=HX.out
          rw [HM.out,hdr,expDigits_stop _ _ _ (by rw [← Bool.not_eq_true,isDig_iff];omega)] at hx
          have HF:=Lib.hid hx
          clear hdr hd h48 hx
          go_wp2_with fail
          go_ret3
          rw [HF.out]
          exact ⟨rfl,hb⟩
        ·have g1:¬ n<t.size:=by rw [HT.out.size];omega
         have hx:=HX.out
         rw [HM.out,List.drop_of_length_le (by omega)] at hx
         dsimp only [expDigits] at hx
         have HF:=Lib.hid hx
         have HD:Hid (decide ((400:Int)<(m:Int))=decide (400<m)):=by unfold Hid;congr 1;simp;omega
         clear hx
         go_wp2_with fail
         go_ret3
         rw [HF.out]
         refine ⟨?_,hb⟩
         rw [← HD.out]
         rfl
  ·have n1:((c.toNat:Int) != 101)=true:=by rw [bne_iff_ne];omega
   have n2:((c.toNat:Int) != 69)=true:=by rw [bne_iff_ne];omega
   have HX:Hid (expT (c :: l)=(0,false,2)):=by
    unfold Hid expT
    simp only [expS,if_neg hc]
   rw [HX.out]
   clear hc hl ht
   go_enter Tryz.func173,Tryz.ntmps173
   go_wp2_with fail
   go_ret3
   exact ⟨rfl,Nx.refl _⟩
end Go.Proofs.YtbblfkdmkpkmcaaGreatDoor
namespace Go.Proofs.YtbblfkdmkpkmcaaGreatDoor
open Go.RowKit
set_option maxHeartbeats 400000 in
theorem refAt_any (A:Option Addr) (xs:List UInt32) (c:Nat) (i:Nat) (w:World) (hr:Rd uv w A xs) (hc:xs.length≤c) (hl:(xs.length:Int)≤1000000) (hi:(i:Int)≤1000000000) :
  Calls Tryz.prog 201 #[.slice A xs.length c,.int .i64 i] w fun e w'=>e = .returned (.int .u64 (ent xs i:Nat))∧w=w':=by
 by_cases hlt:i<xs.length
 ·obtain ⟨b,off,rfl,hb,hcell⟩:=hr.at_ (k:=i) hlt
  unfold uv at hcell
  have he:Hid (ent xs i=xs[i].toNat):=by unfold Hid ent;rw [List.getD,List.getElem?_eq_getElem hlt];rfl
  have hx:(xs[i].toNat:Int)≤4294967295:=by have:=xs[i].toNat_lt;omega
  have hd:decide (i<xs.length)=true:=decide_eq_true hlt
  go_enter Tryz.func201,Tryz.ntmps201
  go_wp2
  go_ret
  refine ⟨?_,rfl⟩
  rw [he.out]
  rfl
 ·have he:Hid (ent xs i=0):=by unfold Hid ent;rw [List.getD,List.getElem?_eq_none (by omega)];rfl
  have hd:decide (i<xs.length)=false:=decide_eq_false hlt
  go_enter Tryz.func201,Tryz.ntmps201
  go_wp2
  go_ret
  refine ⟨?_,rfl⟩
  rw [he.out]
  rfl
set_option maxHeartbeats 800000 in
theorem refNorm_any (A:Option Addr) (xs:List UInt32) (c:Nat) (w:World) (hr:Rd uv w A xs) (hc:xs.length≤c) (hm:c≤maxLen) (hl:(xs.length:Int)≤1000000) :
  Calls Tryz.prog 198 #[.slice A xs.length c] w fun e w'=>∃ v',e = .returned v'∧Own uv 186 w' w.heap.size v' (limbs (val xs))∧Below w.heap.size w w':=by
 unfold maxLen at hm
 go_enter Tryz.func198,Tryz.ntmps198
 go_wp2_with fail
 go_loop [3] (fun v=>∃ n:Nat,v = .int .i64 n∧n≤xs.length∧Hid (∀ j,n≤j→xs.getD j 0=0)) (fun v=>(intOf v).toNat)
 case atStart=>exact ⟨xs.length,rfl,Nat.le_refl _,fun j hj=>by rw [List.getD,List.getElem?_eq_none hj];rfl⟩
 case round =>
  obtain ⟨n,rfl,hn,HZ⟩:=hrel
  have fin:∀ (P:Prop),(Hid (xs.take n=limbs (val xs))→P)→(n=0∨xs.getD (n - 1) 0≠0)→P:=fun P h h'=>h (take_limbs xs n hn HZ.out h')
  by_cases h0:n=0
  ·subst h0
   have hz:=fin _ id (.inl rfl)
   go_wp2_with (first
    | (refine wpList_sl (f:=uv) _ uT rfl _ _ _ rfl A xs c rfl (hr.alloc _) hc 0 0 (.inl ⟨rfl,rfl⟩) (.inr ⟨_,_,rfl,rfl⟩) (by omega) (by omega) (by omega) ?_;intro A1 ys c1 hcut hc1 hc2;obtain ⟨hr1,HY,hlo,hhi⟩:=hcut)
    | (at_builtin;go_must (refine wpList_app (f:=uv) _ uT rfl _ _ rfl uv_one w.heap.size _ [] ys rfl (Own.empty w) _ _ rfl hr1 (by simp [maxLen];omega) (by simp;omega) (by simp) ?_;intro v1 w1 hown1 hbel1)))
   go_ret
   refine ⟨_,rfl,hown1.cast ?_,(nx0 w _).trans hbel1⟩
   rw [HY.out,← hz.out];simp
  ·obtain ⟨m,rfl⟩:∃ m,n=m+1:=⟨n - 1,by omega⟩
   obtain ⟨b,off,rfl,hb,hcell⟩:=hr.at_ (k:=m) (by omega)
   unfold uv at hcell
   have hg:xs.getD m 0=xs[m]:=by rw [List.getD,List.getElem?_eq_getElem (by omega)];rfl
   have HG:=Lib.hid hg
   clear hg
   by_cases hx:xs[m]=0
   ·have hb0:((xs[m].toNat:Int) == 0)=true:=by rw [hx];rfl
    have HX:=Lib.hid hx
    clear hx fin
    go_wp2_with fail
    go_round
    case rel =>
     refine ⟨m,by go_num,by omega,fun j hj=>?_⟩
     by_cases hjm:j=m
     ·subst hjm;rw [HG.out,HX.out]
     ·exact HZ.out j (by omega)
    case measure=>simp [intOf]
   ·have hb0:((xs[m].toNat:Int) == 0)=false:=by
     rw [beq_eq_false_iff_ne]
     intro h
     exact hx (UInt32.toNat_inj.1 (by simpa using h))
    have hz:=fin _ id (.inr (by rw [Nat.add_sub_cancel,HG.out];exact hx))
    have HX:=Lib.hid hx
    clear hx fin
    go_wp2_with (first
     | (refine wpList_sl (f:=uv) _ uT rfl _ _ _ rfl _ xs c rfl (hr.alloc _) hc 0 ((m:Int)+1) (.inl ⟨rfl,rfl⟩) (.inr ⟨_,_,rfl,rfl⟩) (by omega) (by omega) (by omega) ?_;intro A1 ys c1 hcut hc1 hc2;obtain ⟨hr1,HY,hlo,hhi⟩:=hcut)
     | (at_builtin;go_must (refine wpList_app (f:=uv) _ uT rfl _ _ rfl uv_one w.heap.size _ [] ys rfl (Own.empty w) _ _ rfl hr1 (by simp [maxLen];omega) (by simp;omega) (by simp) ?_;intro v1 w1 hown1 hbel1)))
    go_ret
    refine ⟨_,rfl,hown1.cast ?_,(nx0 w _).trans hbel1⟩
    have e:((m:Int)+1).toNat=m+1:=by omega
    rw [HY.out,← hz.out,e];simp
set_option maxHeartbeats 400000 in
theorem refOf_any (n:Nat) (w:World) (hn:(n:Int)≤18446744073709551615) :
  Calls Tryz.prog 163 #[.int .u64 n] w fun e w'=>∃ v',e = .returned v'∧Own uv 186 w' w.heap.size v' (limbs n)∧Below w.heap.size w w':=by
 have hv:Hid (val [UInt32.ofNat n,UInt32.ofNat (n / 4294967296)]=n):=by
  unfold Hid
  simp only [val,UInt32.toNat_ofNat']
  omega
 have h1:Hid (Value.int .u32 ((n:Int) % 4294967296)=uv (UInt32.ofNat n)):=uv_ofNat _ _ (by omega)
 have h2:Hid (Value.int .u32 ((n:Int) / 4294967296)=uv (UInt32.ofNat (n / 4294967296))):=uv_ofNat _ _ (by omega)
 go_enter Tryz.func163,Tryz.ntmps163
 go_wp2_with fail
 refine (refNorm_any (some ⟨w.heap.size,0,none⟩) [UInt32.ofNat n,UInt32.ofNat (n / 4294967296)] 2 _ ?_ (by simp) (by simp [maxLen]) (by simp)).mono ?_
 ·rw [h1.out,h2.out]
  exact Rd.litsU [UInt32.ofNat n,UInt32.ofNat (n / 4294967296)] rfl
 rintro e w1 ⟨v1,rfl,hown1,hb1⟩
 rw [hv.out] at hown1
 go_wp2_with fail
 go_ret
 exact ⟨_,rfl,hown1.less (by simp),nx (nx0 w _) hb1⟩
set_option maxHeartbeats 400000 in
theorem refLow_any (A:Option Addr) (xs:List UInt32) (c:Nat) (w:World) (hr:Rd uv w A xs) (hc:xs.length≤c) (hl:(xs.length:Int)≤1000000) :
  Calls Tryz.prog 172 #[.slice A xs.length c] w fun e w'=>e = .returned (.int .u64 (val xs % 18446744073709551616:Nat))∧w=w':=by
 go_enter Tryz.func172,Tryz.ntmps172
 go_wp2_with fail
 refine (refAt_any A xs c 0 _ hr hc hl (by omega)).mono ?_;rintro e w' ⟨rfl,rfl⟩
 have l0:=ent_le xs 0
 go_wp2_with fail
 refine (refAt_any A xs c 1 _ hr hc hl (by omega)).mono ?_;rintro e w' ⟨rfl,rfl⟩
 have l1:=ent_le xs 1
 have hv:Hid (val xs % 18446744073709551616=ent xs 0+ent xs 1 * 4294967296):=by
  unfold Hid
  rw [ent_val,ent_val]
  generalize val xs=V
  omega
 go_wp2_with fail
 go_ret
 refine ⟨?_,rfl⟩
 rw [hv.out,← or_hi (ent xs 0) (ent xs 1) l0 l1]
 rfl
set_option maxRecDepth 100000 in
set_option maxHeartbeats 800000 in
theorem refCmp_any (A:Option Addr) (xs:List UInt32) (c:Nat) (B:Option Addr) (ys:List UInt32) (d:Nat) (w:World) (hr:Rd uv w A xs) (hc:xs.length≤c) (hl:(xs.length:Int)≤1000000) (hs:Rd uv w B ys) (hd:ys.length≤d) (hl2:(ys.length:Int)≤1000000) :
  Calls Tryz.prog 170 #[.slice A xs.length c,.slice B ys.length d] w fun e w'=>e = .returned (.int .i64 (cmpI (val xs) (val ys)))∧w=w':=by
 go_enter Tryz.func170,Tryz.ntmps170
 go_upto_region 1 with (fail)
 go_cut [5] (fun v wx=>w=wx∧∃ m:Nat,v = .int .i64 ((m:Int) - 1)∧xs.length≤m∧ys.length≤m∧(m:Int)≤1000000)
 case first =>
  go_wp2_with fail
  all_goals go_meet
  all_goals first
   | exact ⟨rfl,ys.length,rfl,by omega,by omega,hl2⟩
   | exact ⟨rfl,xs.length,rfl,by omega,by omega,hl⟩
   | exact ⟨rfl,max xs.length ys.length,by congr 1;omega,by omega,by omega,by omega⟩
 case rest =>
  obtain ⟨rfl,m0,rfl,hm1,hm2,hm3⟩:=hcut
  go_wp2_with fail
  go_loop [5] (fun v=>∃ m:Nat,v = .int .i64 ((m:Int) - 1)∧(m:Int)≤1000000∧Hid (∀ j,m≤j→ent xs j=ent ys j)) (fun v=>(intOf v+1).toNat)
  case atStart =>
   refine ⟨m0,rfl,hm3,fun j hj=>?_⟩
   unfold ent
   rw [List.getD,List.getD,List.getElem?_eq_none (by omega),List.getElem?_eq_none (by omega)]
  case round =>
   obtain ⟨m,rfl,hm,HE⟩:=hrel
   rcases m with _ | m
   ·have hz:cmpI (val xs) (val ys)=0:=by
     have:=val_ext xs ys fun j=>HE.out j (Nat.zero_le _)
     unfold cmpI;rw [this];simp
    have HZ:=Lib.hid hz
    clear hz
    go_wp2_with fail
    go_ret
    refine ⟨?_,rfl⟩
    rw [HZ.out]
    rfl
   ·have e1:Hid (∀ j,m+1≤j→ent xs j=ent ys j):=HE
    obtain ⟨a,HX⟩:∃ a,Hid (ent xs m=a):=⟨_,rfl⟩
    obtain ⟨b,HY⟩:∃ b,Hid (ent ys m=b):=⟨_,rfl⟩
    have la:(a:Int)≤4294967295:=by rw [← HX.out];exact ent_le xs m
    have lb:(b:Int)≤4294967295:=by rw [← HY.out];exact ent_le ys m
    rcases Nat.lt_trichotomy a b with hab | hab | hab
    ·have HL:Hid (val xs<val ys):=val_less xs ys m e1.out (by rw [HX.out,HY.out];exact hab)
     go_wp2_with fail
     refine (refAt_any A xs c m _ hr hc hl (by omega)).mono ?_;rintro e w' ⟨rfl,rfl⟩
     rw [HX.out]
     go_wp2_with fail
     refine (refAt_any B ys d m _ hs hd hl2 (by omega)).mono ?_;rintro e w' ⟨rfl,rfl⟩
     rw [HY.out]
     go_wp2_with fail
     go_ret
     refine ⟨?_,rfl⟩
     rw [cmpI,if_pos HL.out]
     rfl
    ·subst hab
     go_wp2_with fail
     refine (refAt_any A xs c m _ hr hc hl (by omega)).mono ?_;rintro e w' ⟨rfl,rfl⟩
     rw [HX.out]
     go_wp2_with fail
     refine (refAt_any B ys d m _ hs hd hl2 (by omega)).mono ?_;rintro e w' ⟨rfl,rfl⟩
     rw [HY.out]
     go_wp2_with fail
     refine (refAt_any A xs c m _ hr hc hl (by omega)).mono ?_;rintro e w' ⟨rfl,rfl⟩
     rw [HX.out]
     go_wp2_with fail
     refine (refAt_any B ys d m _ hs hd hl2 (by omega)).mono ?_;rintro e w' ⟨rfl,rfl⟩
     rw [HY.out]
     go_wp2_with fail
     go_round
     case rel =>
      refine ⟨m,by go_num,by omega,fun j hj=>?_⟩
      by_cases hjm:j=m
      ·subst hjm;rw [HX.out,HY.out]
      ·exact HE.out j (by omega)
     case measure=>simp [intOf]
    ·have g1:decide (b<a)=true:=decide_eq_true hab
     have g2:decide (a<b)=false:=decide_eq_false (by omega)
     have HL:Hid (val ys<val xs):=val_less ys xs m (fun j hj=>(e1.out j hj).symm) (by rw [HX.out,HY.out];exact hab)
     go_wp2_with fail
     refine (refAt_any A xs c m _ hr hc hl (by omega)).mono ?_;rintro e w' ⟨rfl,rfl⟩
     rw [HX.out]
     go_wp2_with fail
     refine (refAt_any B ys d m _ hs hd hl2 (by omega)).mono ?_;rintro e w' ⟨rfl,rfl⟩
     rw [HY.out]
     go_wp2_with fail
     refine (refAt_any A xs c m _ hr hc hl (by omega)).mono ?_;rintro e w' ⟨rfl,rfl⟩
     rw [HX.out]
     go_wp2_with fail
     refine (refAt_any B ys d m _ hs hd hl2 (by omega)).mono ?_;rintro e w' ⟨rfl,rfl⟩
     rw [HY.out]
     go_wp2_with fail
     go_ret
     refine ⟨?_,rfl⟩
     have hl:=HL.out
     rw [cmpI,if_neg (by omega),if_pos hl]
     rfl
end Go.Proofs.YtbblfkdmkpkmcaaGreatDoor
namespace Go.Proofs.YtbblfkdmkpkmcaaGreatDoor
open Go.RowKit
set_option maxRecDepth 100000 in
set_option maxHeartbeats 800000 in
theorem refAdd_any (A:Option Addr) (xs:List UInt32) (c:Nat) (B:Option Addr) (ys:List UInt32) (d:Nat) (w:World) (hr:Rd uv w A xs) (hc:xs.length≤c) (hl:(xs.length:Int)≤100000) (hs:Rd uv w B ys) (hd:ys.length≤d) (hl2:(ys.length:Int)≤100000) :
  Calls Tryz.prog 171 #[.slice A xs.length c,.slice B ys.length d] w fun e w'=>∃ v',e = .returned v'∧Own uv 186 w' w.heap.size v' (limbs (val xs+val ys))∧Below w.heap.size w w':=by
 go_enter Tryz.func171,Tryz.ntmps171
 go_wp2_with fail
 go_loopw [5,6,7] (fun o v i wr=>∃ (k cc:Nat) (os:List UInt32),i = .int .i64 k∧v = .int .u64 cc∧cc≤1∧k+cc≤xs.length+ys.length+1∧os.length≤k∧k≤os.length ∧
  Hid (val os+cc * 4294967296 ^ k=val xs % 4294967296 ^ k+val ys % 4294967296 ^ k)∧Own uv 186 wr w.heap.size o os∧Below w.heap.size w wr) (fun _ _ i _=>xs.length+ys.length+1 - (intOf i).toNat)
 case atStart=>exact ⟨0,0,[],rfl,rfl,by omega,by omega,by simp,by simp,by unfold Hid;simp [val,Nat.mod_one],Own.nil_,Below.refl _ _⟩
 case round =>
  obtain ⟨k,cc,os,rfl,rfl,hcc,hk,ho1,ho2,HV,hown,hbel⟩:=hrel
  have hsz:=hbel.size
  have hrw:=hr.below hbel
  have hsw:=hs.below hbel
  by_cases hgo:k<xs.length∨k<ys.length∨0<cc
  ·obtain ⟨a,HX⟩:∃ a,Hid (ent xs k=a):=⟨_,rfl⟩
   obtain ⟨b,HY⟩:∃ b,Hid (ent ys k=b):=⟨_,rfl⟩
   have la:(a:Int)≤4294967295:=by rw [← HX.out];exact ent_le xs k
   have lb:(b:Int)≤4294967295:=by rw [← HY.out];exact ent_le ys k
   have hz:xs.length≤k→ys.length≤k→a=0∧b=0:=fun h1 h2=>by
    rw [← HX.out,← HY.out]
    unfold ent
    rw [List.getD,List.getD,List.getElem?_eq_none h1,List.getElem?_eq_none h2]
    exact ⟨rfl,rfl⟩
   have HZ:=Lib.hid hz
   clear hz
   by_cases g1:k<xs.length
   ·have b1:decide (k<xs.length)=true:=decide_eq_true g1
    go_wp2_with fail
    refine (refAt_any A xs c k _ hrw hc (by omega) (by omega)).mono ?_;rintro e w' ⟨rfl,rfl⟩
    rw [HX.out]
    go_wp2_with fail
    refine (refAt_any B ys d k _ hsw hd (by omega) (by omega)).mono ?_;rintro e w' ⟨rfl,rfl⟩
    rw [HY.out]
    go_wp2_with (at_builtin;go_must (refine wpList_app (f:=uv) _ uT rfl _ _ rfl uv_one w.heap.size _ os [UInt32.ofNat (cc+a+b)] rfl (hown.alloc _) _ _ rfl (Rd.one (uv_ofNat _ _ (by omega)) rfl) (by simp [maxLen];omega) (by simp;omega) (by simp;omega) ?_;intro v2 w2 hown2 hbel2))
    go_roundw
    case rel =>
     refine ⟨k+1,(cc+a+b) / 4294967296,_,by go_num,by go_num,by omega,?_,by simp;omega,by simp;omega,?_,hown2,(hbel.alloc hsz _).trans hbel2⟩
     ·omega
     ·unfold Hid
      have hlen:os.length=k:=by omega
      have:=add_step (val os) cc (4294967296 ^ k) (val xs) (val ys) (cc+a+b) (by rw [← HX.out,← HY.out,ent_val,ent_val]) HV.out
      rw [val_snoc,hlen,UInt32.toNat_ofNat',Nat.pow_succ]
      exact this
    case measure=>simp [intOf];omega
   ·have b1:decide (k<xs.length)=false:=decide_eq_false g1
    by_cases g2:k<ys.length
    ·have b2:decide (k<ys.length)=true:=decide_eq_true g2
     go_wp2_with fail
     refine (refAt_any A xs c k _ hrw hc (by omega) (by omega)).mono ?_;rintro e w' ⟨rfl,rfl⟩
     rw [HX.out]
     go_wp2_with fail
     refine (refAt_any B ys d k _ hsw hd (by omega) (by omega)).mono ?_;rintro e w' ⟨rfl,rfl⟩
     rw [HY.out]
     go_wp2_with (at_builtin;go_must (refine wpList_app (f:=uv) _ uT rfl _ _ rfl uv_one w.heap.size _ os [UInt32.ofNat (cc+a+b)] rfl (hown.alloc _) _ _ rfl (Rd.one (uv_ofNat _ _ (by omega)) rfl) (by simp [maxLen];omega) (by simp;omega) (by simp;omega) ?_;intro v2 w2 hown2 hbel2))
     go_roundw
     case rel =>
      refine ⟨k+1,(cc+a+b) / 4294967296,_,by go_num,by go_num,by omega,?_,by simp;omega,by simp;omega,?_,hown2,(hbel.alloc hsz _).trans hbel2⟩
      ·omega
      ·unfold Hid
       have hlen:os.length=k:=by omega
       have:=add_step (val os) cc (4294967296 ^ k) (val xs) (val ys) (cc+a+b) (by rw [← HX.out,← HY.out,ent_val,ent_val]) HV.out
       rw [val_snoc,hlen,UInt32.toNat_ofNat',Nat.pow_succ]
       exact this
     case measure=>simp [intOf];omega
    ·have b2:decide (k<ys.length)=false:=decide_eq_false g2
     have b3:decide (0<cc)=true:=decide_eq_true (by omega)
     obtain ⟨z1,z2⟩:=HZ.out (by omega) (by omega)
     have Z1:=Lib.hid z1
     have Z2:=Lib.hid z2
     clear z1 z2
     go_wp2_with fail
     refine (refAt_any A xs c k _ hrw hc (by omega) (by omega)).mono ?_;rintro e w' ⟨rfl,rfl⟩
     rw [HX.out]
     go_wp2_with fail
     refine (refAt_any B ys d k _ hsw hd (by omega) (by omega)).mono ?_;rintro e w' ⟨rfl,rfl⟩
     rw [HY.out]
     go_wp2_with (at_builtin;go_must (refine wpList_app (f:=uv) _ uT rfl _ _ rfl uv_one w.heap.size _ os [UInt32.ofNat (cc+a+b)] rfl (hown.alloc _) _ _ rfl (Rd.one (uv_ofNat _ _ (by omega)) rfl) (by simp [maxLen];omega) (by simp;omega) (by simp;omega) ?_;intro v2 w2 hown2 hbel2))
     go_roundw
     case rel =>
      refine ⟨k+1,(cc+a+b) / 4294967296,_,by go_num,by go_num,by omega,?_,by simp;omega,by simp;omega,?_,hown2,(hbel.alloc hsz _).trans hbel2⟩
      ·have:=Z1.out;have:=Z2.out;omega
      ·unfold Hid
       have hlen:os.length=k:=by omega
       have:=add_step (val os) cc (4294967296 ^ k) (val xs) (val ys) (cc+a+b) (by rw [← HX.out,← HY.out,ent_val,ent_val]) HV.out
       rw [val_snoc,hlen,UInt32.toNat_ofNat',Nat.pow_succ]
       exact this
     case measure=>simp [intOf];omega
  ·have b1:decide (k<xs.length)=false:=decide_eq_false (by omega)
   have b2:decide (k<ys.length)=false:=decide_eq_false (by omega)
   have b3:decide (0<cc)=false:=decide_eq_false (by omega)
   have hfin:Hid (val os=val xs+val ys):=by
    unfold Hid
    have h:=HV.out
    have h1:=val_lt xs
    have h2:=val_lt ys
    have h3:4294967296 ^ xs.length≤4294967296 ^ k:=Nat.pow_le_pow_right (by decide) (by omega)
    have h4:4294967296 ^ ys.length≤4294967296 ^ k:=Nat.pow_le_pow_right (by decide) (by omega)
    rw [Nat.mod_eq_of_lt (Nat.lt_of_lt_of_le h1 h3),Nat.mod_eq_of_lt (Nat.lt_of_lt_of_le h2 h4),show cc=0 from by omega] at h
    omega
   obtain ⟨A2,c2,rfl,hc2,hm2,hr2⟩:=hown.sl
   go_wp2_with fail
   refine (refNorm_any A2 os c2 _ hr2 hc2 hm2 (by omega)).mono ?_;rintro e w2 ⟨v2,rfl,hown2,hb2⟩
   rw [hfin.out] at hown2
   go_wp2_with fail
   go_ret
   exact ⟨_,rfl,hown2.less hsz,nx hbel hb2⟩
set_option maxRecDepth 100000 in
set_option maxHeartbeats 800000 in
theorem refSub_any (A:Option Addr) (xs:List UInt32) (c:Nat) (B:Option Addr) (ys:List UInt32) (d:Nat) (w:World) (hr:Rd uv w A xs) (hc:xs.length≤c) (hl:(xs.length:Int)≤100000) (hs:Rd uv w B ys) (hd:ys.length≤d) (hl2:(ys.length:Int)≤100000) :
  Calls Tryz.prog 200 #[.slice A xs.length c,.slice B ys.length d] w fun e w'=>∃ v' is,e = .returned (.tuple #[v',.bool is])∧SubIs w w' (val xs) (val ys) v' is∧Below w.heap.size w w':=by
 obtain ⟨C,HC⟩:∃ C,Hid (cmpI (val xs) (val ys)=C):=⟨_,rfl⟩
 by_cases hlt:val xs<val ys
 ·have hC:C = -1:=by rw [← HC.out,cmpI,if_pos hlt]
  have HL:=Lib.hid hlt
  clear hlt
  subst hC
  go_enter Tryz.func200,Tryz.ntmps200
  go_wp2_with fail
  refine (refCmp_any A xs c B ys d _ hr hc (by omega) hs hd (by omega)).mono ?_;rintro e w' ⟨rfl,rfl⟩
  rw [HC.out]
  go_wp2_with fail
  go_ret2
  refine ⟨_,_,rfl,?_,Below.refl _ _⟩
  unfold SubIs
  rw [if_pos HL.out]
  exact ⟨rfl,rfl⟩
 ·have hC:0≤C:=by rw [← HC.out,cmpI,if_neg hlt];split <;> omega
  have HL:=Lib.hid hlt
  clear hlt
  go_enter Tryz.func200,Tryz.ntmps200
  go_wp2_with fail
  refine (refCmp_any A xs c B ys d _ hr hc (by omega) hs hd (by omega)).mono ?_;rintro e w' ⟨rfl,rfl⟩
  rw [HC.out]
  have hC2:decide (C<0)=false:=decide_eq_false (by omega)
  go_wp2_with fail
  go_loopw [6,7,8] (fun o v i wr=>∃ (k bo:Nat) (os:List UInt32),i = .int .i64 k∧v = .int .u64 bo∧bo≤1∧k≤xs.length∧os.length≤k∧k≤os.length ∧
   Hid (val os+val ys % 4294967296 ^ k=val xs % 4294967296 ^ k+bo * 4294967296 ^ k)∧Own uv 186 wr w.heap.size o os∧Below w.heap.size w wr) (fun _ _ i _=>xs.length - (intOf i).toNat)
  case atStart=>exact ⟨0,0,[],rfl,rfl,by omega,by omega,by simp,by simp,by unfold Hid;simp [val,Nat.mod_one],Own.nil_,Below.refl _ _⟩
  case round =>
   obtain ⟨k,bo,os,rfl,rfl,hbo,hk,ho1,ho2,HV,hown,hbel⟩:=hrel
   have hsz:=hbel.size
   have hrw:=hr.below hbel
   have hsw:=hs.below hbel
   by_cases g1:k<xs.length
   ·obtain ⟨a,HX⟩:∃ a,Hid (ent xs k=a):=⟨_,rfl⟩
    obtain ⟨b,HY⟩:∃ b,Hid (ent ys k=b):=⟨_,rfl⟩
    have la:(a:Int)≤4294967295:=by rw [← HX.out];exact ent_le xs k
    have lb:(b:Int)≤4294967295:=by rw [← HY.out];exact ent_le ys k
    have b1:decide (k<xs.length)=true:=decide_eq_true g1
    go_wp2_with fail
    refine (refAt_any A xs c k _ hrw hc (by omega) (by omega)).mono ?_;rintro e w' ⟨rfl,rfl⟩
    rw [HX.out]
    go_wp2_with fail
    refine (refAt_any B ys d k _ hsw hd (by omega) (by omega)).mono ?_;rintro e w' ⟨rfl,rfl⟩
    rw [HY.out]
    go_wp2_with (at_builtin;go_must (refine wpList_app (f:=uv) _ uT rfl _ _ rfl uv_one w.heap.size _ os [UInt32.ofNat (a+4294967296 - b - bo)] rfl (hown.alloc _) _ _ rfl (Rd.one (uv_ofNat _ _ (by omega)) rfl) (by simp [maxLen];omega) (by simp;omega) (by simp;omega) ?_;intro v2 w2 hown2 hbel2))
    go_roundw
    case rel =>
     refine ⟨k+1,1 - (a+4294967296 - b - bo) / 4294967296,_,by go_num,by go_num,by omega,by omega,by simp;omega,by simp;omega,?_,hown2,(hbel.alloc hsz _).trans hbel2⟩
     unfold Hid
     have hlen:os.length=k:=by omega
     have hX:=ent_val xs k
     have hY:=ent_val ys k
     rw [HX.out] at hX
     rw [HY.out] at hY
     have:=sub_step (val os) bo (4294967296 ^ k) (val xs) (val ys) (a+4294967296 - b - bo) (1 - (a+4294967296 - b - bo) / 4294967296) (by rw [← hX,← hY];omega) (by omega) HV.out
     rw [val_snoc,hlen,UInt32.toNat_ofNat',Nat.pow_succ]
     exact this
    case measure=>simp [intOf];omega
   ·obtain rfl:k=xs.length:=by omega
    have b1:decide (xs.length<xs.length)=false:=decide_eq_false (by omega)
    have hfin:Hid (val os=val xs - val ys):=by
     unfold Hid
     have h:=HV.out
     have h1:=val_lt xs
     have h2:=HL.out
     have h3:=val_lt os
     rw [show os.length=xs.length from by omega] at h3
     rw [Nat.mod_eq_of_lt h1,Nat.mod_eq_of_lt (by omega)] at h
     rcases (by omega:bo=0∨bo=1) with rfl | rfl <;> omega
    obtain ⟨A2,c2,rfl,hc2,hm2,hr2⟩:=hown.sl
    go_wp2_with fail
    refine (refNorm_any A2 os c2 _ hr2 hc2 hm2 (by omega)).mono ?_;rintro e w2 ⟨v2,rfl,hown2,hb2⟩
    rw [hfin.out] at hown2
    go_wp2_with fail
    go_ret2
    refine ⟨_,_,rfl,?_,nx hbel hb2⟩
    unfold SubIs
    rw [if_neg HL.out]
    exact ⟨hown2.less hsz,rfl⟩
end Go.Proofs.YtbblfkdmkpkmcaaGreatDoor
