/- The contract of the document's answer for dec: an exponent. -/
import Derived.Test.YtjggghfekakogaaGreatG01
import Derived.OwnWalk
set_option linter.unusedVariables false
set_option linter.unusedSimpArgs false
set_option linter.unnecessarySimpa false
namespace Go.Proofs.YtjggghfekakogaaGreat
open Go.RowKit
def expT (l:List UInt8):Int×Bool×Nat:=match expS l with
 | none=>(0,false,2)
 | some (v,big)=>(v,big,0)
theorem expDigits_step (c:UInt8) (l:List UInt8) (m:Nat) (h:isDig c=true):expDigits (c :: l) m=expDigits l (min (m * 10+digV c) 100000):=by rw [expDigits,if_pos h]
theorem expDigits_stop (c:UInt8) (l:List UInt8) (m:Nat) (h:isDig c=false):expDigits (c :: l) m=none:=by rw [expDigits,if_neg (by rw [h];decide)]
set_option maxRecDepth 100000 in
set_option maxHeartbeats 3200000 in
theorem refExponent_any (s:ByteArray) (l:List UInt8) (w:World) (hl:Tx s l) (hs:(l.length:Int)≤8000) :
  Calls Tryz.prog 86 #[.string s] w fun e w'=>e = .returned (.tuple #[.int .i64 (expT l).1,.bool (expT l).2.1,.int .i64 ((expT l).2.2:Nat)])∧Nx w w':=by
 cases l with
 | nil =>
  have e1:=hl.nil.1
  have e2:=hl.nil.2
  have HX:Hid (expT []=(0,false,0)):=rfl
  clear hl
  go_enter Tryz.func86,Tryz.ntmps86
  go_wp2_with fail
  go_ret3
  rw [HX.out]
  exact ⟨rfl,Nx.refl _⟩
 | cons c l =>
  obtain ⟨hp,t,e0,e1,ht,e2,e3⟩:=hl.cons
  have hz:(s.size:Int)≤8001:=by rw [hl.size];simp at hs ⊢;omega
  have zs:((s.size:Int) == 0)=false:=by rw [beq_eq_false_iff_ne];omega
  by_cases hc:c.toNat=101∨c.toNat=69
  ·have hsplit:(((c.toNat:Int) != 101)=false)∨(((c.toNat:Int) != 101)=true∧((c.toNat:Int) != 69)=false):=by
    by_cases h:c.toNat=101
    ·exact .inl (by simp [h])
    ·refine .inr ⟨?_,?_⟩
     ·rw [bne_iff_ne];omega
     ·rw [show c.toNat=69 from by omega];rfl
   have HX:Hid (expT (c :: l)=if (signS l).2=[] then (0,false,2) else match expDigits (signS l).2 0 with
     | none=>(0,false,2)
     | some v=>(if (signS l).1 then -(v:Int) else (v:Int),decide (400<v),0)):=by
    unfold Hid expT
    simp only [expS,if_pos hc]
    by_cases h:(signS l).2=[]
    ·rw [if_pos h,if_pos h]
    ·rw [if_neg h,if_neg h]
     cases expDigits (signS l).2 0 <;> rfl
   clear hc hl
   cases l with
   | nil =>
    have d1:=ht.nil.1
    have d2:=ht.nil.2
    have hx:=HX.out
    rw [if_pos (show (signS []).2=[] from rfl)] at hx
    rw [hx]
    clear ht HX
    rcases hsplit with n1 | ⟨n1,n2⟩
    all_goals
     go_enter Tryz.func86,Tryz.ntmps86
     go_wp2_with fail
     go_ret3
     exact ⟨rfl,Nx.refl _⟩
   | cons c2 l2 =>
    obtain ⟨hp2,t2,e20,e21,ht2,e22,e23⟩:=ht.cons
    by_cases c43:c2.toNat=43
    ·have b1:((c2.toNat:Int) == 43)=true:=by rw [beq_iff_eq];omega
     have b2:((c2.toNat:Int) == 45)=false:=by rw [beq_eq_false_iff_ne];omega
     have HC:Hid (signS (c2 :: l2)=(false,l2)):=by unfold Hid;simp [signS,c43]
     have hx:=HX.out
     rw [HC.out] at hx
     have HT:=Lib.hid ht2
     have zt:((t.size:Int) == 0)=false:=by rw [beq_eq_false_iff_ne];omega
     have hzr:(t2.size:Int)≤8001:=by rw [ht2.size];simp at hs ⊢;omega
     clear ht ht2 HX c43
     cases l2 with
     | nil =>
      have d1:=HT.out.nil.1
      have d2:=HT.out.nil.2
      dsimp only at hx
      rw [if_pos rfl] at hx
      rw [hx]
      rcases hsplit with n1 | ⟨n1,n2⟩
      all_goals
       go_enter Tryz.func86,Tryz.ntmps86
       go_wp2_with fail
       go_ret3
       exact ⟨rfl,Nx.refl _⟩
     | cons c3 l3 =>
      have zr:((t2.size:Int) == 0)=false:=by rw [beq_eq_false_iff_ne,HT.out.size];simp;omega
      dsimp only at hx
      rw [if_neg (show ¬ (c3 :: l3)=[] by simp)] at hx
      obtain ⟨X,hX⟩:∃ X,expT (c :: c2 :: c3 :: l3)=X:=⟨_,rfl⟩
      rw [hX] at hx ⊢
      obtain ⟨R,hR⟩:∃ R,(c3 :: l3)=R:=⟨_,rfl⟩
      rw [hR] at hx HT
      clear hR hX
      have HX:=Lib.hid hx
      clear hx
      rcases hsplit with n1 | ⟨n1,n2⟩
      all_goals
       go_enter Tryz.func86,Tryz.ntmps86
       go_wp2_with fail
       go_loopw [6,7] (fun a v wr=>∃ (n m:Nat),v = .int .i64 n∧a = .int .i64 m∧n≤R.length∧m≤100000∧Hid (expDigits R 0=expDigits (R.drop n) m)∧Nx w wr) (fun _ v _=>(10000 - intOf v).toNat)
       case atStart=>exact ⟨0,0,rfl,rfl,Nat.zero_le _,by decide,by unfold Hid;rfl,Nx.refl _⟩
       case round =>
        obtain ⟨n,m,rfl,rfl,hn,hm,HM,hb⟩:=hrel
        by_cases hlt:n<R.length
        ·obtain ⟨hpn,e0n⟩:=HT.out.idx n hlt
         obtain ⟨d,hd⟩:∃ d,R[n]=d:=⟨_,rfl⟩
         rw [hd] at e0n
         have hdr:R.drop n=d :: R.drop (n+1):=by rw [← hd];exact List.drop_eq_getElem_cons hlt
         by_cases h48:48≤d.toNat
         ·by_cases h57:d.toNat≤57
          ·have g2:decide ((d.toNat:Int)<48)=false:=decide_eq_false (by omega)
           have g3:decide ((57:Int)<(d.toNat:Int))=false:=decide_eq_false (by omega)
           have hd1:(48:Int)≤(d.toNat:Int):=by omega
           have hd2:(d.toNat:Int)≤57:=by omega
           obtain ⟨M,hM,hM2⟩:∃ M:Nat,min ((m:Int) * 10+((d.toNat:Int) - 48)) 100000=(M:Int)∧M=min (m * 10+digV d) 100000:=by
            refine ⟨_,?_,rfl⟩
            unfold digV
            omega
           have HN:Hid (expDigits R 0=expDigits (R.drop (n+1)) M):=by
            unfold Hid
            rw [HM.out,hdr,expDigits_step _ _ _ ((isDig_iff d).2 ⟨h48,h57⟩),hM2]
           have hM3:M≤100000:=by omega
           clear hM2 h48 h57 hdr hd
           go_wp2_with fail
           go_roundw
           case rel=>exact ⟨n+1,M,by go_num,rfl,hlt,hM3,HN,hb⟩
           case measure=>simp [intOf];omega
          ·have g2:decide ((d.toNat:Int)<48)=false:=decide_eq_false (by omega)
           have g3:decide ((57:Int)<(d.toNat:Int))=true:=decide_eq_true (by omega)
           have hx:=HX.out
           rw [HM.out,hdr,expDigits_stop _ _ _ (by rw [← Bool.not_eq_true,isDig_iff];omega)] at hx
           have HF:=Lib.hid hx
           clear hdr hd h48 h57 hx
           go_wp2_with fail
           go_ret3
           rw [HF.out]
           exact ⟨rfl,hb⟩
         ·have g2:decide ((d.toNat:Int)<48)=true:=decide_eq_true (by omega)
          have hx:=HX.out
          rw [HM.out,hdr,expDigits_stop _ _ _ (by rw [← Bool.not_eq_true,isDig_iff];omega)] at hx
          have HF:=Lib.hid hx
          clear hdr hd h48 hx
          go_wp2_with fail
          go_ret3
          rw [HF.out]
          exact ⟨rfl,hb⟩
        ·have g1:¬ n<t2.size:=by rw [HT.out.size];omega
         have hx:=HX.out
         rw [HM.out,List.drop_of_length_le (by omega)] at hx
         dsimp only [expDigits] at hx
         have HF:=Lib.hid hx
         have HD:Hid (decide ((400:Int)<(m:Int))=decide (400<m)):=by unfold Hid;congr 1;simp;omega
         clear hx
         go_wp2_with fail
         go_ret3
         rw [HF.out]
         refine ⟨?_,hb⟩
         rw [← HD.out]
         rfl
    ·by_cases c45:c2.toNat=45
     ·have b1:((c2.toNat:Int) == 43)=false:=by rw [beq_eq_false_iff_ne];omega
      have b2:((c2.toNat:Int) == 45)=true:=by rw [beq_iff_eq];omega
      have HC:Hid (signS (c2 :: l2)=(true,l2)):=by unfold Hid;simp [signS,c45]
      have hx:=HX.out
      rw [HC.out] at hx
      have HT:=Lib.hid ht2
      have zt:((t.size:Int) == 0)=false:=by rw [beq_eq_false_iff_ne];omega
      have hzr:(t2.size:Int)≤8001:=by rw [ht2.size];simp at hs ⊢;omega
      clear ht ht2 HX c45
      cases l2 with
      | nil =>
       have d1:=HT.out.nil.1
       have d2:=HT.out.nil.2
       dsimp only at hx
       rw [if_pos rfl] at hx
       have HF:=Lib.hid hx
       rcases hsplit with n1 | ⟨n1,n2⟩
       all_goals
        go_enter Tryz.func86,Tryz.ntmps86
        go_wp2_with fail
        go_ret3
        rw [HF.out]
        exact ⟨rfl,Nx.refl _⟩
      | cons c3 l3 =>
       have zr:((t2.size:Int) == 0)=false:=by rw [beq_eq_false_iff_ne,HT.out.size];simp;omega
       dsimp only at hx
       rw [if_neg (show ¬ (c3 :: l3)=[] by simp)] at hx
       obtain ⟨X,hX⟩:∃ X,expT (c :: c2 :: c3 :: l3)=X:=⟨_,rfl⟩
       rw [hX] at hx ⊢
       obtain ⟨R,hR⟩:∃ R,(c3 :: l3)=R:=⟨_,rfl⟩
       rw [hR] at hx HT
       clear hR hX
       have HX:=Lib.hid hx
       clear hx
       rcases hsplit with n1 | ⟨n1,n2⟩
       all_goals
        go_enter Tryz.func86,Tryz.ntmps86
        go_wp2_with fail
        go_loopw [6,7] (fun a v wr=>∃ (n m:Nat),v = .int .i64 n∧a = .int .i64 m∧n≤R.length∧m≤100000∧Hid (expDigits R 0=expDigits (R.drop n) m)∧Nx w wr) (fun _ v _=>(10000 - intOf v).toNat)
        case atStart=>exact ⟨0,0,rfl,rfl,Nat.zero_le _,by decide,by unfold Hid;rfl,Nx.refl _⟩
        case round =>
         obtain ⟨n,m,rfl,rfl,hn,hm,HM,hb⟩:=hrel
         by_cases hlt:n<R.length
         ·obtain ⟨hpn,e0n⟩:=HT.out.idx n hlt
          obtain ⟨d,hd⟩:∃ d,R[n]=d:=⟨_,rfl⟩
          rw [hd] at e0n
          have hdr:R.drop n=d :: R.drop (n+1):=by rw [← hd];exact List.drop_eq_getElem_cons hlt
          by_cases h48:48≤d.toNat
          ·by_cases h57:d.toNat≤57
           ·have g2:decide ((d.toNat:Int)<48)=false:=decide_eq_false (by omega)
            have g3:decide ((57:Int)<(d.toNat:Int))=false:=decide_eq_false (by omega)
            have hd1:(48:Int)≤(d.toNat:Int):=by omega
            have hd2:(d.toNat:Int)≤57:=by omega
            obtain ⟨M,hM,hM2⟩:∃ M:Nat,min ((m:Int) * 10+((d.toNat:Int) - 48)) 100000=(M:Int)∧M=min (m * 10+digV d) 100000:=by
             refine ⟨_,?_,rfl⟩
             unfold digV
             omega
            have HN:Hid (expDigits R 0=expDigits (R.drop (n+1)) M):=by
             unfold Hid
             rw [HM.out,hdr,expDigits_step _ _ _ ((isDig_iff d).2 ⟨h48,h57⟩),hM2]
            have hM3:M≤100000:=by omega
            clear hM2 h48 h57 hdr hd
            go_wp2_with fail
            go_roundw
            case rel=>exact ⟨n+1,M,by go_num,rfl,hlt,hM3,HN,hb⟩
            case measure=>simp [intOf];omega
           ·have g2:decide ((d.toNat:Int)<48)=false:=decide_eq_false (by omega)
            have g3:decide ((57:Int)<(d.toNat:Int))=true:=decide_eq_true (by omega)
            have hx:=HX.out
            rw [HM.out,hdr,expDigits_stop _ _ _ (by rw [← Bool.not_eq_true,isDig_iff];omega)] at hx
            have HF:=Lib.hid hx
            clear hdr hd h48 h57 hx
            go_wp2_with fail
            go_ret3
            rw [HF.out]
            exact ⟨rfl,hb⟩
          ·have g2:decide ((d.toNat:Int)<48)=true:=decide_eq_true (by omega)
           have hx:=HX.out
           rw [HM.out,hdr,expDigits_stop _ _ _ (by rw [← Bool.not_eq_true,isDig_iff];omega)] at hx
           have HF:=Lib.hid hx
           clear hdr hd h48 hx
           go_wp2_with fail
           go_ret3
           rw [HF.out]
           exact ⟨rfl,hb⟩
         ·have g1:¬ n<t2.size:=by rw [HT.out.size];omega
          have hx:=HX.out
          rw [HM.out,List.drop_of_length_le (by omega)] at hx
          dsimp only [expDigits] at hx
          have HF:=Lib.hid hx
          have HD:Hid (decide ((400:Int)<(m:Int))=decide (400<m)):=by unfold Hid;congr 1;simp;omega
          clear hx
          go_wp2_with fail
          go_ret3
          rw [HF.out]
          refine ⟨?_,hb⟩
          rw [← HD.out]
          rfl
     ·have b1:((c2.toNat:Int) == 43)=false:=by rw [beq_eq_false_iff_ne];omega
      have b2:((c2.toNat:Int) == 45)=false:=by rw [beq_eq_false_iff_ne];omega
      have HC:Hid (signS (c2 :: l2)=(false,c2 :: l2)):=by unfold Hid;simp [signS,c43,c45]
      have hx:=HX.out
      rw [HC.out] at hx
      have HT:=Lib.hid ht
      have zt:((t.size:Int) == 0)=false:=by rw [beq_eq_false_iff_ne];omega
      have hzr:(t.size:Int)≤8001:=by rw [ht.size];simp at hs ⊢;omega
      clear ht ht2 HX c43 c45
      dsimp only at hx
      rw [if_neg (show ¬ (c2 :: l2)=[] by simp)] at hx
      obtain ⟨X,hX⟩:∃ X,expT (c :: c2 :: l2)=X:=⟨_,rfl⟩
      rw [hX] at hx ⊢
      obtain ⟨R,hR⟩:∃ R,(c2 :: l2)=R:=⟨_,rfl⟩
      rw [hR] at hx HT
      clear hR hX
      have HX:=Lib.hid hx
      clear hx
      rcases hsplit with n1 | ⟨n1,n2⟩
      all_goals
       go_enter Tryz.func86,Tryz.ntmps86
       go_wp2_with fail
       go_loopw [6,7] (fun a v wr=>∃ (n m:Nat),v = .int .i64 n∧a = .int .i64 m∧n≤R.length∧m≤100000∧Hid (expDigits R 0=expDigits (R.drop n) m)∧Nx w wr) (fun _ v _=>(10000 - intOf v).toNat)
       case atStart=>exact ⟨0,0,rfl,rfl,Nat.zero_le _,by decide,by unfold Hid;rfl,Nx.refl _⟩
       case round =>
        obtain ⟨n,m,rfl,rfl,hn,hm,HM,hb⟩:=hrel
        by_cases hlt:n<R.length
        ·obtain ⟨hpn,e0n⟩:=HT.out.idx n hlt
         obtain ⟨d,hd⟩:∃ d,R[n]=d:=⟨_,rfl⟩
         rw [hd] at e0n
         have hdr:R.drop n=d :: R.drop (n+1):=by rw [← hd];exact List.drop_eq_getElem_cons hlt
         by_cases h48:48≤d.toNat
         ·by_cases h57:d.toNat≤57
          ·have g2:decide ((d.toNat:Int)<48)=false:=decide_eq_false (by omega)
           have g3:decide ((57:Int)<(d.toNat:Int))=false:=decide_eq_false (by omega)
           have hd1:(48:Int)≤(d.toNat:Int):=by omega
           have hd2:(d.toNat:Int)≤57:=by omega
           obtain ⟨M,hM,hM2⟩:∃ M:Nat,min ((m:Int) * 10+((d.toNat:Int) - 48)) 100000=(M:Int)∧M=min (m * 10+digV d) 100000:=by
            refine ⟨_,?_,rfl⟩
            unfold digV
            omega
           have HN:Hid (expDigits R 0=expDigits (R.drop (n+1)) M):=by
            unfold Hid
            rw [HM.out,hdr,expDigits_step _ _ _ ((isDig_iff d).2 ⟨h48,h57⟩),hM2]
           have hM3:M≤100000:=by omega
           clear hM2 h48 h57 hdr hd
           go_wp2_with fail
           go_roundw
           case rel=>exact ⟨n+1,M,by go_num,rfl,hlt,hM3,HN,hb⟩
           case measure=>simp [intOf];omega
          ·have g2:decide ((d.toNat:Int)<48)=false:=decide_eq_false (by omega)
           have g3:decide ((57:Int)<(d.toNat:Int))=true:=decide_eq_true (by omega)
           have hx:=HX.out
           rw [HM.out,hdr,expDigits_stop _ _ _ (by rw [← Bool.not_eq_true,isDig_iff];omega)] at hx
           have HF:=Lib.hid hx
           clear hdr hd h48 h57 hx
           go_wp2_with fail
           go_ret3
           rw [HF.out]
           exact ⟨rfl,hb⟩
         ·have g2:decide ((d.toNat:Int)<48)=true:=decide_eq_true (by omega)
          have hx:=HX.out
          rw [HM.out,hdr,expDigits_stop _ _ _ (by rw [← Bool.not_eq_true,isDig_iff];omega)] at hx
          have HF:=Lib.hid hx
          clear hdr hd h48 hx
          go_wp2_with fail
          go_ret3
          rw [HF.out]
          exact ⟨rfl,hb⟩
        ·have g1:¬ n<t.size:=by rw [HT.out.size];omega
         have hx:=HX.out
         rw [HM.out,List.drop_of_length_le (by omega)] at hx
         dsimp only [expDigits] at hx
         have HF:=Lib.hid hx
         have HD:Hid (decide ((400:Int)<(m:Int))=decide (400<m)):=by unfold Hid;congr 1;simp;omega
         clear hx
         go_wp2_with fail
         go_ret3
         rw [HF.out]
         refine ⟨?_,hb⟩
         rw [← HD.out]
         rfl
  ·have n1:((c.toNat:Int) != 101)=true:=by rw [bne_iff_ne];omega
   have n2:((c.toNat:Int) != 69)=true:=by rw [bne_iff_ne];omega
   have HX:Hid (expT (c :: l)=(0,false,2)):=by
    unfold Hid expT
    simp only [expS,if_neg hc]
   rw [HX.out]
   clear hc hl ht
   go_enter Tryz.func86,Tryz.ntmps86
   go_wp2_with fail
   go_ret3
   exact ⟨rfl,Nx.refl _⟩
end Go.Proofs.YtjggghfekakogaaGreat
