/- The contract of the document's answer for dec: the document's parse. -/
import Derived.Test.YtjggghfekakogaaGreatG13
import Derived.Test.YtjggghfekakogaaGreatG03
import Derived.Test.YtjggghfekakogaaGreatG08
import Derived.Test.YtjggghfekakogaaGreatG11
import Derived.Deep.CutBlock
import Derived.Deep.DeepCutAuto
set_option linter.unusedVariables false
set_option linter.unusedSimpArgs false
set_option linter.unnecessarySimpa false
namespace Go.Proofs.YtjggghfekakogaaGreat
open Go.RowKit
def v48 (c:UInt8):UInt8:=UInt8.ofNat (c.toNat - 48)
theorem v48_toNat (c:UInt8):(v48 c).toNat=c.toNat - 48:=by
 have:=c.toNat_lt
 have h:(v48 c).toNat=(c.toNat - 48) % 256:=by unfold v48;simp
 omega
def strLen (v:Value):Nat:=match v with
 | .string t=>t.size
 | _=>0
theorem scan_nil (p:Bool):scanS p []=([],0,p,[]):=by cases p <;> rfl
theorem scan_dig (p:Bool) (c:UInt8) (R:List UInt8) (h:isDig c=true):scanS p (c :: R)=(c :: (scanS p R).1,(scanS p R).2.1+(if p then 1 else 0),(scanS p R).2.2):=by
 conv=>lhs;unfold scanS
 rw [if_pos h]
theorem scan_stop (R:List UInt8):scanS false (46 :: R)=scanS true R:=by
 conv=>lhs;unfold scanS
 rw [if_neg (by decide),if_pos ⟨rfl,rfl⟩]
theorem scan_end (p:Bool) (c:UInt8) (R:List UInt8) (h:isDig c=false) (h2:¬ (c.toNat=46∧p=false)):scanS p (c :: R)=([],0,p,c :: R):=by
 conv=>lhs;unfold scanS
 rw [if_neg (by rw [h];decide),if_neg h2]
theorem parse_is (l:List UInt8) (neg:Bool) (r1 ds R:List UInt8) (k:Nat) (p:Bool) (h1:signS l=(neg,r1)) (h2:scanS false r1=(ds,k,p,R)) :
  parseS l=(if ds=[]∨p=true∧k=0 then (0,2) else if (expT R).2.2=2 then (0,2) else if 60<ds.length then (0,4) else if (expT R).2.1=true then (0,5)
   else if numS (valS ds) ((expT R).1 - k)<LIM then ((if neg then 9223372036854775808 else 0)+numS (valS ds) ((expT R).1 - k),0) else (0,5)):=by
 have hp:parseS l=(if (scanS false (signS l).2).1=[]∨(scanS false (signS l).2).2.2.1=true∧(scanS false (signS l).2).2.1=0 then (0,2)
  else match expS (scanS false (signS l).2).2.2.2 with
  | none=>(0,2)
  | some (v,big) =>
   if 60<(scanS false (signS l).2).1.length then (0,4)
   else if big then (0,5)
   else if numS (valS (scanS false (signS l).2).1) (v - (scanS false (signS l).2).2.1)<LIM then ((if (signS l).1 then 9223372036854775808 else 0)+numS (valS (scanS false (signS l).2).1) (v - (scanS false (signS l).2).2.1),0)
   else (0,5)):=rfl
 rw [hp,h1]
 dsimp only
 rw [h2]
 dsimp only
 unfold expT
 cases expS R with
 | none=>simp
 | some x=>simp
theorem expT_b (R:List UInt8):((expT R).2.2=2∨(expT R).2.2=0)∧((expT R).2.1=false→(expT R).2.2=0→-400≤(expT R).1∧(expT R).1≤400):=by
 have key:expS R=none∨∃ v big,expS R=some (v,big)∧(big=false→-400≤v∧v≤400):=by
  cases R with
  | nil=>exact .inr ⟨0,false,rfl,fun _=>⟨by decide,by decide⟩⟩
  | cons c R =>
   by_cases hc:c.toNat=101∨c.toNat=69
   ·simp only [expS,if_pos hc]
    by_cases h1:(signS R).2=[]
    ·left;rw [if_pos h1]
    ·rw [if_neg h1]
     cases h2:expDigits (signS R).2 0 with
     | none=>left;rfl
     | some u =>
      refine .inr ⟨_,_,rfl,fun hb=>?_⟩
      have:¬ 400<u:=by simpa using hb
      split <;> omega
   ·left
    simp only [expS,if_neg hc]
 unfold expT
 rcases key with h | ⟨v,big,h,hb⟩
 ·rw [h];exact ⟨.inl rfl,fun _ h=>by cases h⟩
 ·rw [h];exact ⟨.inr rfl,fun h1 _=>hb h1⟩
theorem ten_num (w:World) (e:TypeId):Num (w.alloc (.cells #[.int .u32 10] e)) (.slice (some ⟨w.heap.size,0,none⟩) 1 1) 10 KB:=by
 have h:=Rd.litsU (w:=w) (e:=e) [10] rfl
 exact ⟨_,1,[10],rfl,h,Nat.le_refl _,by decide,by decide,rfl⟩
theorem one_num2 (w:World) (e:TypeId):Num (w.alloc (.cells #[.int .u32 1] e)) (.slice (some ⟨w.heap.size,0,none⟩) 1 1) 1 100:=one_num w e
theorem pow100 (j:Nat) (hj:j<3200):2 ^ j≤4294967296 ^ 100:=Nat.le_of_lt (pow32 100 j (by omega))
set_option maxRecDepth 100000 in
set_option maxHeartbeats 12800000 in
theorem refParse_nil (s:ByteArray)  (w:World) (hl:Tx s ([]:List UInt8)) (hs:((([]:List UInt8).length:Nat):Int)≤7000) :
  Calls Tryz.prog 66 #[.string s] w fun e w'=>e = .returned (.tuple #[.int .u64 ((parseS ([])).1:Nat),.int .i64 ((parseS ([])).2:Nat)])∧Nx w w':=by
 obtain ⟨P,HP⟩:∃ P,Hid (parseS ([])=P):=⟨_,rfl⟩
 rw [HP.out]
 obtain ⟨g,hg⟩:∃ g,w.heap.size=g:=⟨_,rfl⟩
 obtain ⟨r1,hr1⟩:∃ r1,([]:List UInt8)=r1:=⟨_,rfl⟩
 have e1:=hl.nil.1
 have e2:=hl.nil.2
 have HTR:Hid (Tx s r1):=by rw [← hr1];exact hl
 have HSG:Hid (signS []=(false,r1)):=by rw [← hr1];exact (rfl:signS []=(false,[]))
 have hrl:(r1.length:Int)≤7000:=by rw [← hr1];decide
 clear hl hr1 hs
 go_enter Tryz.func66,Tryz.ntmps66
 go_upto_block 0 with fail
 go_cut [0,5,6,7] (fun sv dv pv kv wx=>∃ (u:ByteArray) (R ds:List UInt8) (p:Bool) (k:Nat),sv = .string u∧pv = .bool p∧kv = .int .i64 k∧Hid (Tx u R)∧Own bv 5 wx g dv (ds.map v48)∧Hid (scanS false r1=(ds,k,p,R))∧ds.length+R.length≤r1.length∧k≤ds.length∧Hid (digs ds)∧Nx w wx)
 case first =>
  go_wp2_with fail
  go_loopw [0,5,6,7] (fun sv dv pv kv wr=>∃ (u:ByteArray) (R ds:List UInt8) (p:Bool) (k:Nat),sv = .string u∧pv = .bool p∧kv = .int .i64 k∧Hid (Tx u R)∧Own bv 5 wr g dv (ds.map v48)∧Hid (scanS false r1=(ds++(scanS p R).1,k+(scanS p R).2.1,(scanS p R).2.2))∧ds.length+R.length≤r1.length∧k≤ds.length∧Hid (digs ds)∧Nx w wr) (fun sv _ _ _ _=>strLen sv)
  case atStart=>exact ⟨s,r1,[],false,0,rfl,rfl,rfl,HTR,Own.nil_,(by unfold Hid;simp),(by simp),Nat.le_refl _,(show Hid (digs []) from fun c hc=>(by cases hc)),Nx.refl _⟩
  case round =>
   obtain ⟨u,R,ds,p,k,rfl,rfl,rfl,HU,hown,HSC,hlen,hk,HDG,hb⟩:=hrel
   have hsz:g≤wr.heap.size:=by rw [← hg];exact hb.size
   cases R with
   | nil =>
    have d1:=HU.out.nil.1
    have d2:=HU.out.nil.2
    have HS2:Hid (scanS false r1=(ds,k,p,[])):=by unfold Hid;rw [HSC.out,scan_nil];simp
    go_wp2_with fail
    go_meet
    case rel=>exact ⟨u,[],ds,p,k,rfl,rfl,rfl,HU,hown,HS2,hlen,hk,HDG,hb⟩
   | cons c1 R1 =>
    obtain ⟨hp1,t1,x0,x1,ht1,x2,x3⟩:=HU.out.cons
    have HT1:=Lib.hid ht1
    have hus:u.size=t1.size+1:=by rw [HU.out.size,ht1.size];rfl
    have hlen2:ds.length+R1.length+1≤r1.length:=by simp at hlen;omega
    have hst:strLen (.string t1)<strLen (.string u):=by show t1.size<u.size;omega
    have HST:=Lib.hid hst
    clear ht1 hus hst
    by_cases h48:48≤c1.toNat
    ·by_cases h57:c1.toNat≤57
     ·have g2:decide ((48:Int)≤(c1.toNat:Int))=true:=decide_eq_true (by omega)
      have g3:decide ((c1.toNat:Int)≤57)=true:=decide_eq_true (by omega)
      have g4:((c1.toNat:Int) == 46)=false:=by rw [beq_eq_false_iff_ne];omega
      have hdc:=(isDig_iff c1).2 ⟨h48,h57⟩
      have hd1:(48:Int)≤(c1.toNat:Int):=by omega
      have hd2:(c1.toNat:Int)≤57:=by omega
      have HS2:Hid (scanS false r1=((ds++[c1])++(scanS p R1).1,(k+if p then 1 else 0)+(scanS p R1).2.1,(scanS p R1).2.2)):=by
       unfold Hid;rw [HSC.out,scan_dig p c1 R1 hdc]
       simp;omega
      have HD2:Hid (digs (ds++[c1])):=by
       intro d hd
       rcases List.mem_append.1 hd with h | h
       ·exact HDG.out d h
       ·rw [List.mem_singleton.1 h];exact hdc
      have hv:Value.int .u8 ((c1.toNat:Int) - 48)=bv (v48 c1):=by
       unfold bv;rw [v48_toNat];congr 1;omega
      have HV:=Lib.hid hv
      have HL2:Hid ((ds++[c1]).length+R1.length≤r1.length):=by unfold Hid;simp;omega
      have HK2:Hid ((k+if p then 1 else 0)≤(ds++[c1]).length):=by unfold Hid;simp;split <;> omega
      clear h48 h57 hdc hv
      have hdl:(ds.map v48).length≤7000:=by simp;omega
      cases p
      all_goals
       go_wp2_with (at_builtin;go_must (refine wpList_app (f:=bv) _ bT rfl _ _ rfl bv_one g _ (ds.map v48) [v48 c1] rfl (hown.alloc _) _ _ rfl (Rd.one HV.out rfl) (by simp [maxLen] at hdl ⊢;omega) (by simp at hdl ⊢;omega) (by simp;omega) ?_;intro v2 w2 hown2 hbel2))
       go_roundw
       case rel =>
        refine ⟨t1,R1,ds++[c1],_,_,rfl,rfl,(by first | rfl | go_num),HT1,hown2.cast (by simp),HS2,HL2.out,HK2.out,HD2,?_⟩
        exact Below.trans (hb.al _) (Below.mono hbel2 (Nat.le_of_eq hg))
       case measure=>exact HST.out
     ·have g2:decide ((48:Int)≤(c1.toNat:Int))=true:=decide_eq_true (by omega)
      have g3:decide ((c1.toNat:Int)≤57)=false:=decide_eq_false (by omega)
      have g4:((c1.toNat:Int) == 46)=false:=by rw [beq_eq_false_iff_ne];omega
      have HS2:Hid (scanS false r1=(ds,k,p,c1 :: R1)):=by
       unfold Hid;rw [HSC.out,scan_end p c1 R1 (by rw [← Bool.not_eq_true,isDig_iff];omega) (by omega)];simp
      clear h48 h57
      go_wp2_with fail
      go_meet
      case rel=>exact ⟨u,c1 :: R1,ds,p,k,rfl,rfl,rfl,HU,hown,HS2,hlen,hk,HDG,hb⟩
    ·have g2:decide ((48:Int)≤(c1.toNat:Int))=false:=decide_eq_false (by omega)
     have hnd:isDig c1=false:=by rw [← Bool.not_eq_true,isDig_iff];omega
     by_cases h46:c1=46
     ·subst h46
      cases p
      ·have HS2:Hid (scanS false r1=(ds++(scanS true R1).1,k+(scanS true R1).2.1,(scanS true R1).2.2)):=by
        unfold Hid;rw [HSC.out,scan_stop]
       have g4:(((46:UInt8).toNat:Int) == 46)=true:=rfl
       clear h48 hnd
       go_wp2_with fail
       go_roundw
       case rel=>exact ⟨t1,R1,ds,true,k,rfl,rfl,rfl,HT1,hown,HS2,by omega,hk,HDG,hb⟩
       case measure=>exact HST.out
      ·have HS2:Hid (scanS false r1=(ds,k,true,46 :: R1)):=by
        unfold Hid;rw [HSC.out,scan_end true 46 R1 hnd (by simp)];simp
       have g4:(((46:UInt8).toNat:Int) == 46)=true:=rfl
       clear h48 hnd
       go_wp2_with fail
       go_meet
       case rel=>exact ⟨u,46 :: R1,ds,true,k,rfl,rfl,rfl,HU,hown,HS2,hlen,hk,HDG,hb⟩
     ·have g4:((c1.toNat:Int) == 46)=false:=by
       rw [beq_eq_false_iff_ne]
       intro h
       exact h46 (UInt8.toNat_inj.1 (by rw [show c1.toNat=46 from by omega];rfl))
      have HS2:Hid (scanS false r1=(ds,k,p,c1 :: R1)):=by
       unfold Hid;rw [HSC.out,scan_end p c1 R1 hnd (fun h=>h46 (UInt8.toNat_inj.1 (by rw [h.1];rfl)))];simp
      clear h48 hnd h46
      go_wp2_with fail
      go_meet
      case rel=>exact ⟨u,c1 :: R1,ds,p,k,rfl,rfl,rfl,HU,hown,HS2,hlen,hk,HDG,hb⟩
 case rest =>
  obtain ⟨u,R,ds,p,k,rfl,rfl,rfl,HU,hown,HSC,hlen,hk,HDG,hb⟩:=hcut
  have hpi:=parse_is _ _ r1 ds R k p HSG.out HSC.out
  rw [HP.out] at hpi
  have hxb:=expT_b R
  obtain ⟨X,HX⟩:∃ X,Hid (expT R=X):=⟨_,rfl⟩
  rw [HX.out] at hpi hxb
  obtain ⟨xv,xb,xe⟩:=X
  dsimp only at hpi hxb
  have HPI:=Lib.hid hpi
  have HXB:=Lib.hid hxb
  obtain ⟨AD,cD,rfl,hdc1,hdc2,hdr⟩:=hown.sl
  have hdl2:(ds.map v48).length=ds.length:=List.length_map ..
  rw [hdl2] at hdc1 ⊢
  have hRl:(R.length:Int)≤7000:=by omega
  have hdsl:(ds.length:Int)≤7000:=by omega
  have hdr':=Lib.hid hdr
  have hN0:=hb
  clear hpi hxb hown hdr
  cases ds with
  | nil =>
   have hp:=HPI.out
   rw [if_pos (.inl rfl)] at hp
   subst hp
   go_wp2_with fail
   go_ret2
   exact ⟨rfl,hb⟩
  | cons d0 ds =>
   by_cases hpk:p=true∧k=0
   ·have hp:=HPI.out
    rw [if_pos (.inr hpk)] at hp
    subst hp
    obtain ⟨rfl,rfl⟩:=hpk
    go_wp2_with fail
    go_ret2
    exact ⟨rfl,hb⟩
   ·have hp:=HPI.out
    rw [if_neg (by simp;intro h h2;exact hpk ⟨h,h2⟩)] at hp
    have hpk2:p=false∨(p=true∧((k:Int) == 0)=false):=by
     cases p
     ·exact .inl rfl
     ·refine .inr ⟨rfl,?_⟩
      rw [beq_eq_false_iff_ne]
      intro h
      exact hpk ⟨rfl,by omega⟩
    have HP2:=Lib.hid hp
    clear hp hpk
    rcases hpk2 with rfl | ⟨rfl,hk0⟩
    all_goals
     go_wp2_with fail
     refine (refExponent_any u R _ HU.out (by omega)).mono ?_;rintro e w1 ⟨rfl,hw1⟩
     rw [HX.out]
     dsimp only
     have hN1:=Nx.trans hN0 hw1
     have hp:=HP2.out
     rcases HXB.out.1 with rfl | rfl
     ·rw [if_pos rfl] at hp
      subst hp
      go_wp2_with fail
      go_ret2
      exact ⟨rfl,hN1⟩
     ·rw [if_neg (by decide)] at hp
      by_cases h60:60<(d0 :: ds).length
      ·rw [if_pos h60] at hp
       subst hp
       have b1:decide ((60:Int)<(ds.length:Int)+1)=true:=decide_eq_true (by simp at h60;omega)
       clear h60
       go_wp2_with fail
       go_ret2
       exact ⟨rfl,hN1⟩
      ·rw [if_neg h60] at hp
       have b1:decide ((60:Int)<(ds.length:Int)+1)=false:=decide_eq_false (by simp at h60;omega)
       cases xb
       ·rw [if_neg (by decide)] at hp
        have hxv:=HXB.out.2 rfl rfl
        have HXV:=Lib.hid hxv
        have HP3:=Lib.hid hp
        obtain ⟨L,hL⟩:∃ L,d0 :: ds=L:=⟨_,rfl⟩
        obtain ⟨nl,hnl⟩:∃ nl:Nat,(ds.length:Int)+1=(nl:Int)∧L.length=nl∧nl≤60:=⟨ds.length+1,by omega,by rw [← hL];rfl,by simp at h60;omega⟩
        clear h60 hp hxv
        go_wp2_with fail
        have HDG2:Hid (digs L):=by rw [← hL];exact HDG
        have HRD:Hid (Rd bv w1 AD (L.map v48)):=by rw [← hL];exact hdr'.out.below hw1
        have HVL:Hid (valS L=valS (L.take nl)):=by unfold Hid;rw [List.take_of_length_le (by omega)]
        have hnl1:=hnl.1
        have hnl2:=hnl.2.1
        have hnl3:=hnl.2.2
        have HP4:Hid (P=if numS (valS L) (xv - (k:Int))<LIM then ((if false then 9223372036854775808 else 0)+numS (valS L) (xv - (k:Int)),0) else (0,5)):=by rw [← hL];exact HP3.out
        have hk2:(k:Int)≤60:=by have:=hk;simp at this;omega
        go_loopw [11,12] (fun a v wr=>∃ (n:Nat),v = .int .i64 n∧n≤nl∧IsNum wr a (valS (L.take n))∧Nx w1 wr) (fun _ v _=>(1000 - intOf v).toNat)
        case atStart=>exact ⟨0,rfl,Nat.zero_le _,IsNum.zero _,Nx.refl _⟩
        case round =>
         obtain ⟨n,rfl,hn,hnum,hbr⟩:=hrel
         obtain ⟨Av,lv,cv,rfl⟩:=hnum.sl
         obtain ⟨V,HV⟩:∃ V,Hid (valS (L.take n)=V):=⟨_,rfl⟩
         rw [HV.out] at hnum
         have hVl:V<2 ^ (4 * n):=by
          rw [← HV.out];exact Nat.lt_of_lt_of_le (valS_lt L HDG2.out n (by omega)) (ten_two n)
         by_cases hlt:n<nl
         ·have hnL:n<L.length:=by omega
          obtain ⟨b0,off,hA,hbl,hcell⟩:=(HRD.out.below hbr).at_ (show n<(L.map v48).length by simpa using hnL)
          rw [List.getElem_map] at hcell
          obtain ⟨D,hD⟩:∃ D:Nat,Hid (digV L[n]=D):=⟨digV L[n],rfl⟩
          have hcv:(v48 L[n]).toNat=D:=by rw [v48_toNat,← hD.out];rfl
          unfold bv at hcell
          rw [hcv] at hcell
          have hD9:D≤9:=by
           have:=digV_lt L[n] (HDG2.out _ (List.getElem_mem hnL))
           rw [hD.out] at this;omega
          have HN:Hid (valS (L.take (n+1))=V * 10+D):=by
           unfold Hid;rw [valS_take L n hnL,HV.out,hD.out];omega
          have wr64:IntKind.u64.wrap (D:Int)=(D:Int):=by rw [IntKind.wrap_u64];omega
          have g1:decide ((n:Int)<(ds.length:Int)+1)=true:=decide_eq_true (by omega)
          subst hA
          have q:∀ x:Gr wr,x.1.cell? ⟨b0,off+n,none⟩=some (.int .u8 (D:Int)):=fun x=>by
           rw [← hcell];unfold World.cell?;simp only;rw [x.2.block b0 hbl]
          clear hcell hcv
          go_wp2_with fail
          refine wp_region_hyb [(0,true),(3,true),(4,true),(5,true),(6,true),(7,true),(1,false),(2,false),(8,false),(9,false),(10,true)] rfl (by kernel_rfl) ?_
          iterate 6 (refine hyb_calm rfl (fun K hK=>?_);go_simp;refine hK _ ?_;clear hK K)
          refine hyb_alone rfl (fun w2 hn2 K hK=>?_)
          go_simp
          refine hK _ _ (nx0 w2 _) ?_
          clear hK K
          refine hyb_alone rfl (fun w3 hn3 K hK=>?_)
          go_simp
          have hN3:Nx wr w3:=Nx.trans (Nx.al hn2 _) hn3
          refine (refMul_n _ _ V 10 KB _ ((hnum.below hN3).few hVl (by omega)) ((ten_num w2 _).below hn3) KB_le).mono ?_;rintro e w4 ⟨v4,rfl,hv4,hw4⟩
          refine hK _ _ hw4 ?_
          clear hK K
          refine hyb_alone rfl (fun w5 hn5 K hK=>?_)
          go_simp
          refine (refOf_n D _ (by omega)).mono ?_;rintro e w6 ⟨v6,rfl,hv6,hw6⟩
          refine hK _ _ hw6 ?_
          clear hK K
          refine hyb_alone rfl (fun w7 hn7 K hK=>?_)
          go_simp
          have hv4':=hv4.below (Nx.trans (Nx.trans hn5 hw6) hn7)
          refine (refAdd_n _ _ (V * 10) D KB _ (hv4'.few (show V * 10<2 ^ (4 * n+4) by rw [Nat.pow_add];omega) (by omega)) ((hv6.below hn7).few (show D<2 ^ 4 by omega) (by decide)) KB_le).mono ?_;rintro e w8 ⟨v8,rfl,hv8,hw8⟩
          refine hK _ _ hw8 ?_
          clear hK K
          refine hyb_calm rfl (fun K hK=>?_);go_simp;refine hK _ ?_;clear hK K
          refine hyb_nil (fun w9 hn9=>?_)
          have hN9:Nx w1 w9:=Nx.trans (Nx.trans (Nx.trans (Nx.trans (Nx.trans (Nx.trans (Nx.trans hbr hN3) hw4) hn5) hw6) hn7) hw8) hn9
          clear q
          go_wp2_with fail
          go_roundw
          case rel=>exact ⟨n+1,by go_num,by omega,by rw [HN.out];exact hv8.below hn9,hN9⟩
          case measure=>simp [intOf];omega
         ·obtain rfl:n=nl:=by omega
          have g1:decide ((n:Int)<(ds.length:Int)+1)=false:=decide_eq_false (by omega)
          have hvl:=HVL.out
          rw [HV.out] at hvl
          have HVL2:=Lib.hid hvl
          obtain ⟨kk,hkk⟩:∃ kk:Int,xv - (k:Int)=kk:=⟨_,rfl⟩
          have hkk1 : -460≤kk:=by have:=HXV.out;omega
          have hkk2:kk≤400:=by have:=HXV.out;omega
          obtain ⟨N,hN⟩:∃ N,Hid (numS V kk=N):=⟨_,rfl⟩
          have hP:=HP4.out
          rw [hvl,hkk,hN.out] at hP
          have HP5:=Lib.hid hP
          have hNb:=Nx.trans hN1 hbr
          have hV240:V<2 ^ 240:=Nat.lt_of_lt_of_le hVl (Nat.pow_le_pow_right (by decide) (by omega))
          clear hlt hvl hP
          by_cases hneg:0≤kk
          ·obtain ⟨m,rfl⟩:=Int.eq_ofNat_of_zero_le hneg
           have b2:decide ((0:Int)≤(m:Int))=true:=decide_eq_true hneg
           have hm400:m≤400:=by omega
           have hnn:numS V (m:Int)=near (V * 10 ^ m * 2 ^ tz) 1:=by unfold numS;rw [if_pos hneg,Int.toNat_natCast]
           rw [hN.out] at hnn
           have HNN:=Lib.hid hnn.symm
           clear hnn hneg
           go_wp2_with fail
           refine (refTen_any m _ (by omega)).mono ?_;rintro e w2 ⟨v2,rfl,hv2,hw2⟩
           have hN2:=Nx.trans (nx0 wr (.cells #[.int .u32 1] 95)) hw2
           have hv2n:=hv2.num
           go_wp2_with fail
           refine (refMul_n _ _ V (10 ^ m) KB _ ((hnum.below hN2).few hV240 (by decide)) (hv2n.few (by rw [← Nat.one_mul (10 ^ m)];exact ten_two' 1 1 m (by decide)) (by omega)) KB_le).mono ?_;rintro e w3 ⟨v3,rfl,hv3,hw3⟩
           go_wp2_with fail
           refine (refRound_any _ _ (V * 10 ^ m) 1 _ hv3 (Nat.lt_of_lt_of_le (ten_two' V 240 m hV240) (pow100 _ (by omega))) ((one_num2 wr _).below (Nx.trans hw2 hw3)) (by decide)).mono ?_;rintro e w4 ⟨rfl,hw4⟩
           rw [HNN.out]
           have hNf:=Nx.trans (Nx.trans (Nx.trans hNb hN2) hw3) hw4
           have hP:=HP5.out
           by_cases hlim:N<LIM
           ·rw [if_pos hlim] at hP
            subst hP
            have b3:decide (N<LIM)=true:=decide_eq_true hlim
            have hpk:packV N=N:=by unfold packV;rw [if_pos hlim]
            have hN63:N<9223372036854775808:=by unfold LIM at hlim;omega
            have HO:=Lib.hid (or0 N hN63)
            rw [b3,hpk]
            clear hlim b3 hpk hN63
            go_wp2_with fail
            go_ret2
            refine ⟨?_,hNf⟩
            exact congrArg (fun z=>Ending.returned (Value.tuple #[Value.int .u64 z,Value.int .i64 0])) (HO.out.trans (by simp))
           ·rw [if_neg hlim] at hP
            subst hP
            have b3:decide (N<LIM)=false:=decide_eq_false hlim
            rw [b3]
            clear hlim b3
            go_wp2_with fail
            go_ret2
            exact ⟨rfl,hNf⟩
          ·have b2:decide ((0:Int)≤kk)=false:=decide_eq_false hneg
           obtain ⟨m,hm⟩:∃ m:Nat,-kk=(m:Int):=⟨(-kk).toNat,by omega⟩
           have hm400:m≤460:=by omega
           have hnn:numS V kk=near (V * 2 ^ tz) (10 ^ m):=by unfold numS;rw [if_neg hneg,hm,Int.toNat_natCast]
           rw [hN.out] at hnn
           have HNN:=Lib.hid hnn.symm
           clear hnn hneg
           go_wp2_with fail
           refine (refTen_any m _ (by omega)).mono ?_;rintro e w2 ⟨v2,rfl,hv2,hw2⟩
           have hN2:=Nx.trans (nx0 wr (.cells #[.int .u32 1] 95)) hw2
           have hv2n:=hv2.num
           go_wp2_with fail
           refine (refRound_any _ _ V (10 ^ m) _ (hnum.below hN2) (Nat.lt_of_lt_of_le hV240 (pow100 _ (by decide))) (hv2n.num (Nat.lt_of_lt_of_le (by rw [← Nat.one_mul (10 ^ m)];exact ten_two' 1 1 m (by decide)) (pow100 _ (by omega)))) (Nat.pow_pos (by decide))).mono ?_;rintro e w4 ⟨rfl,hw4⟩
           rw [HNN.out]
           have hNf:=Nx.trans (Nx.trans hNb hN2) hw4
           have hP:=HP5.out
           by_cases hlim:N<LIM
           ·rw [if_pos hlim] at hP
            subst hP
            have b3:decide (N<LIM)=true:=decide_eq_true hlim
            have hpk:packV N=N:=by unfold packV;rw [if_pos hlim]
            have hN63:N<9223372036854775808:=by unfold LIM at hlim;omega
            have HO:=Lib.hid (or0 N hN63)
            rw [b3,hpk]
            clear hlim b3 hpk hN63
            go_wp2_with fail
            go_ret2
            refine ⟨?_,hNf⟩
            exact congrArg (fun z=>Ending.returned (Value.tuple #[Value.int .u64 z,Value.int .i64 0])) (HO.out.trans (by simp))
           ·rw [if_neg hlim] at hP
            subst hP
            have b3:decide (N<LIM)=false:=decide_eq_false hlim
            rw [b3]
            clear hlim b3
            go_wp2_with fail
            go_ret2
            exact ⟨rfl,hNf⟩
       ·rw [if_pos rfl] at hp
        subst hp
        clear h60
        go_wp2_with fail
        go_ret2
        exact ⟨rfl,hN1⟩
set_option maxRecDepth 100000 in
set_option maxHeartbeats 12800000 in
theorem refParse_plus (s:ByteArray) (c:UInt8) (m:List UInt8) (h1:c.toNat=43) (w:World) (hl:Tx s (c :: m)) (hs:((c :: m).length:Int)≤7000) :
  Calls Tryz.prog 66 #[.string s] w fun e w'=>e = .returned (.tuple #[.int .u64 ((parseS (c :: m)).1:Nat),.int .i64 ((parseS (c :: m)).2:Nat)])∧Nx w w':=by
 obtain ⟨P,HP⟩:∃ P,Hid (parseS (c :: m)=P):=⟨_,rfl⟩
 rw [HP.out]
 obtain ⟨g,hg⟩:∃ g,w.heap.size=g:=⟨_,rfl⟩
 obtain ⟨hp0,t0,y0,y1,ht0,y2,y3⟩:=hl.cons
 have b1:((c.toNat:Int) == 43)=true:=by rw [beq_iff_eq];omega
 have b2:((c.toNat:Int) == 45)=false:=by rw [beq_eq_false_iff_ne];omega
 have hp00:(0:Int)<(s.size:Int):=by omega
 obtain ⟨r1,hr1⟩:∃ r1,m=r1:=⟨_,rfl⟩
 have HTR:Hid (Tx t0 r1):=by rw [← hr1];exact ht0
 have HSG:Hid (signS (c :: m)=(false,r1)):=by unfold Hid;rw [← hr1];simp [signS,h1]
 have hrl:(r1.length:Int)≤7000:=by rw [← hr1];simp at hs;omega
 clear hl hr1 hs ht0 h1
 go_enter Tryz.func66,Tryz.ntmps66
 go_upto_block 0 with fail
 go_cut [0,5,6,7] (fun sv dv pv kv wx=>∃ (u:ByteArray) (R ds:List UInt8) (p:Bool) (k:Nat),sv = .string u∧pv = .bool p∧kv = .int .i64 k∧Hid (Tx u R)∧Own bv 5 wx g dv (ds.map v48)∧Hid (scanS false r1=(ds,k,p,R))∧ds.length+R.length≤r1.length∧k≤ds.length∧Hid (digs ds)∧Nx w wx)
 case first =>
  go_wp2_with fail
  go_loopw [0,5,6,7] (fun sv dv pv kv wr=>∃ (u:ByteArray) (R ds:List UInt8) (p:Bool) (k:Nat),sv = .string u∧pv = .bool p∧kv = .int .i64 k∧Hid (Tx u R)∧Own bv 5 wr g dv (ds.map v48)∧Hid (scanS false r1=(ds++(scanS p R).1,k+(scanS p R).2.1,(scanS p R).2.2))∧ds.length+R.length≤r1.length∧k≤ds.length∧Hid (digs ds)∧Nx w wr) (fun sv _ _ _ _=>strLen sv)
  case atStart=>exact ⟨t0,r1,[],false,0,rfl,rfl,rfl,HTR,Own.nil_,(by unfold Hid;simp),(by simp),Nat.le_refl _,(show Hid (digs []) from fun c hc=>(by cases hc)),Nx.refl _⟩
  case round =>
   obtain ⟨u,R,ds,p,k,rfl,rfl,rfl,HU,hown,HSC,hlen,hk,HDG,hb⟩:=hrel
   have hsz:g≤wr.heap.size:=by rw [← hg];exact hb.size
   cases R with
   | nil =>
    have d1:=HU.out.nil.1
    have d2:=HU.out.nil.2
    have HS2:Hid (scanS false r1=(ds,k,p,[])):=by unfold Hid;rw [HSC.out,scan_nil];simp
    go_wp2_with fail
    go_meet
    case rel=>exact ⟨u,[],ds,p,k,rfl,rfl,rfl,HU,hown,HS2,hlen,hk,HDG,hb⟩
   | cons c1 R1 =>
    obtain ⟨hp1,t1,x0,x1,ht1,x2,x3⟩:=HU.out.cons
    have HT1:=Lib.hid ht1
    have hus:u.size=t1.size+1:=by rw [HU.out.size,ht1.size];rfl
    have hlen2:ds.length+R1.length+1≤r1.length:=by simp at hlen;omega
    have hst:strLen (.string t1)<strLen (.string u):=by show t1.size<u.size;omega
    have HST:=Lib.hid hst
    clear ht1 hus hst
    by_cases h48:48≤c1.toNat
    ·by_cases h57:c1.toNat≤57
     ·have g2:decide ((48:Int)≤(c1.toNat:Int))=true:=decide_eq_true (by omega)
      have g3:decide ((c1.toNat:Int)≤57)=true:=decide_eq_true (by omega)
      have g4:((c1.toNat:Int) == 46)=false:=by rw [beq_eq_false_iff_ne];omega
      have hdc:=(isDig_iff c1).2 ⟨h48,h57⟩
      have hd1:(48:Int)≤(c1.toNat:Int):=by omega
      have hd2:(c1.toNat:Int)≤57:=by omega
      have HS2:Hid (scanS false r1=((ds++[c1])++(scanS p R1).1,(k+if p then 1 else 0)+(scanS p R1).2.1,(scanS p R1).2.2)):=by
       unfold Hid;rw [HSC.out,scan_dig p c1 R1 hdc]
       simp;omega
      have HD2:Hid (digs (ds++[c1])):=by
       intro d hd
       rcases List.mem_append.1 hd with h | h
       ·exact HDG.out d h
       ·rw [List.mem_singleton.1 h];exact hdc
      have hv:Value.int .u8 ((c1.toNat:Int) - 48)=bv (v48 c1):=by
       unfold bv;rw [v48_toNat];congr 1;omega
      have HV:=Lib.hid hv
      have HL2:Hid ((ds++[c1]).length+R1.length≤r1.length):=by unfold Hid;simp;omega
      have HK2:Hid ((k+if p then 1 else 0)≤(ds++[c1]).length):=by unfold Hid;simp;split <;> omega
      clear h48 h57 hdc hv
      have hdl:(ds.map v48).length≤7000:=by simp;omega
      cases p
      all_goals
       go_wp2_with (at_builtin;go_must (refine wpList_app (f:=bv) _ bT rfl _ _ rfl bv_one g _ (ds.map v48) [v48 c1] rfl (hown.alloc _) _ _ rfl (Rd.one HV.out rfl) (by simp [maxLen] at hdl ⊢;omega) (by simp at hdl ⊢;omega) (by simp;omega) ?_;intro v2 w2 hown2 hbel2))
       go_roundw
       case rel =>
        refine ⟨t1,R1,ds++[c1],_,_,rfl,rfl,(by first | rfl | go_num),HT1,hown2.cast (by simp),HS2,HL2.out,HK2.out,HD2,?_⟩
        exact Below.trans (hb.al _) (Below.mono hbel2 (Nat.le_of_eq hg))
       case measure=>exact HST.out
     ·have g2:decide ((48:Int)≤(c1.toNat:Int))=true:=decide_eq_true (by omega)
      have g3:decide ((c1.toNat:Int)≤57)=false:=decide_eq_false (by omega)
      have g4:((c1.toNat:Int) == 46)=false:=by rw [beq_eq_false_iff_ne];omega
      have HS2:Hid (scanS false r1=(ds,k,p,c1 :: R1)):=by
       unfold Hid;rw [HSC.out,scan_end p c1 R1 (by rw [← Bool.not_eq_true,isDig_iff];omega) (by omega)];simp
      clear h48 h57
      go_wp2_with fail
      go_meet
      case rel=>exact ⟨u,c1 :: R1,ds,p,k,rfl,rfl,rfl,HU,hown,HS2,hlen,hk,HDG,hb⟩
    ·have g2:decide ((48:Int)≤(c1.toNat:Int))=false:=decide_eq_false (by omega)
     have hnd:isDig c1=false:=by rw [← Bool.not_eq_true,isDig_iff];omega
     by_cases h46:c1=46
     ·subst h46
      cases p
      ·have HS2:Hid (scanS false r1=(ds++(scanS true R1).1,k+(scanS true R1).2.1,(scanS true R1).2.2)):=by
        unfold Hid;rw [HSC.out,scan_stop]
       have g4:(((46:UInt8).toNat:Int) == 46)=true:=rfl
       clear h48 hnd
       go_wp2_with fail
       go_roundw
       case rel=>exact ⟨t1,R1,ds,true,k,rfl,rfl,rfl,HT1,hown,HS2,by omega,hk,HDG,hb⟩
       case measure=>exact HST.out
      ·have HS2:Hid (scanS false r1=(ds,k,true,46 :: R1)):=by
        unfold Hid;rw [HSC.out,scan_end true 46 R1 hnd (by simp)];simp
       have g4:(((46:UInt8).toNat:Int) == 46)=true:=rfl
       clear h48 hnd
       go_wp2_with fail
       go_meet
       case rel=>exact ⟨u,46 :: R1,ds,true,k,rfl,rfl,rfl,HU,hown,HS2,hlen,hk,HDG,hb⟩
     ·have g4:((c1.toNat:Int) == 46)=false:=by
       rw [beq_eq_false_iff_ne]
       intro h
       exact h46 (UInt8.toNat_inj.1 (by rw [show c1.toNat=46 from by omega];rfl))
      have HS2:Hid (scanS false r1=(ds,k,p,c1 :: R1)):=by
       unfold Hid;rw [HSC.out,scan_end p c1 R1 hnd (fun h=>h46 (UInt8.toNat_inj.1 (by rw [h.1];rfl)))];simp
      clear h48 hnd h46
      go_wp2_with fail
      go_meet
      case rel=>exact ⟨u,c1 :: R1,ds,p,k,rfl,rfl,rfl,HU,hown,HS2,hlen,hk,HDG,hb⟩
 case rest =>
  obtain ⟨u,R,ds,p,k,rfl,rfl,rfl,HU,hown,HSC,hlen,hk,HDG,hb⟩:=hcut
  have hpi:=parse_is _ _ r1 ds R k p HSG.out HSC.out
  rw [HP.out] at hpi
  have hxb:=expT_b R
  obtain ⟨X,HX⟩:∃ X,Hid (expT R=X):=⟨_,rfl⟩
  rw [HX.out] at hpi hxb
  obtain ⟨xv,xb,xe⟩:=X
  dsimp only at hpi hxb
  have HPI:=Lib.hid hpi
  have HXB:=Lib.hid hxb
  obtain ⟨AD,cD,rfl,hdc1,hdc2,hdr⟩:=hown.sl
  have hdl2:(ds.map v48).length=ds.length:=List.length_map ..
  rw [hdl2] at hdc1 ⊢
  have hRl:(R.length:Int)≤7000:=by omega
  have hdsl:(ds.length:Int)≤7000:=by omega
  have hdr':=Lib.hid hdr
  have hN0:=hb
  clear hpi hxb hown hdr
  cases ds with
  | nil =>
   have hp:=HPI.out
   rw [if_pos (.inl rfl)] at hp
   subst hp
   go_wp2_with fail
   go_ret2
   exact ⟨rfl,hb⟩
  | cons d0 ds =>
   by_cases hpk:p=true∧k=0
   ·have hp:=HPI.out
    rw [if_pos (.inr hpk)] at hp
    subst hp
    obtain ⟨rfl,rfl⟩:=hpk
    go_wp2_with fail
    go_ret2
    exact ⟨rfl,hb⟩
   ·have hp:=HPI.out
    rw [if_neg (by simp;intro h h2;exact hpk ⟨h,h2⟩)] at hp
    have hpk2:p=false∨(p=true∧((k:Int) == 0)=false):=by
     cases p
     ·exact .inl rfl
     ·refine .inr ⟨rfl,?_⟩
      rw [beq_eq_false_iff_ne]
      intro h
      exact hpk ⟨rfl,by omega⟩
    have HP2:=Lib.hid hp
    clear hp hpk
    rcases hpk2 with rfl | ⟨rfl,hk0⟩
    all_goals
     go_wp2_with fail
     refine (refExponent_any u R _ HU.out (by omega)).mono ?_;rintro e w1 ⟨rfl,hw1⟩
     rw [HX.out]
     dsimp only
     have hN1:=Nx.trans hN0 hw1
     have hp:=HP2.out
     rcases HXB.out.1 with rfl | rfl
     ·rw [if_pos rfl] at hp
      subst hp
      go_wp2_with fail
      go_ret2
      exact ⟨rfl,hN1⟩
     ·rw [if_neg (by decide)] at hp
      by_cases h60:60<(d0 :: ds).length
      ·rw [if_pos h60] at hp
       subst hp
       have b1:decide ((60:Int)<(ds.length:Int)+1)=true:=decide_eq_true (by simp at h60;omega)
       clear h60
       go_wp2_with fail
       go_ret2
       exact ⟨rfl,hN1⟩
      ·rw [if_neg h60] at hp
       have b1:decide ((60:Int)<(ds.length:Int)+1)=false:=decide_eq_false (by simp at h60;omega)
       cases xb
       ·rw [if_neg (by decide)] at hp
        have hxv:=HXB.out.2 rfl rfl
        have HXV:=Lib.hid hxv
        have HP3:=Lib.hid hp
        obtain ⟨L,hL⟩:∃ L,d0 :: ds=L:=⟨_,rfl⟩
        obtain ⟨nl,hnl⟩:∃ nl:Nat,(ds.length:Int)+1=(nl:Int)∧L.length=nl∧nl≤60:=⟨ds.length+1,by omega,by rw [← hL];rfl,by simp at h60;omega⟩
        clear h60 hp hxv
        go_wp2_with fail
        have HDG2:Hid (digs L):=by rw [← hL];exact HDG
        have HRD:Hid (Rd bv w1 AD (L.map v48)):=by rw [← hL];exact hdr'.out.below hw1
        have HVL:Hid (valS L=valS (L.take nl)):=by unfold Hid;rw [List.take_of_length_le (by omega)]
        have hnl1:=hnl.1
        have hnl2:=hnl.2.1
        have hnl3:=hnl.2.2
        have HP4:Hid (P=if numS (valS L) (xv - (k:Int))<LIM then ((if false then 9223372036854775808 else 0)+numS (valS L) (xv - (k:Int)),0) else (0,5)):=by rw [← hL];exact HP3.out
        have hk2:(k:Int)≤60:=by have:=hk;simp at this;omega
        go_loopw [11,12] (fun a v wr=>∃ (n:Nat),v = .int .i64 n∧n≤nl∧IsNum wr a (valS (L.take n))∧Nx w1 wr) (fun _ v _=>(1000 - intOf v).toNat)
        case atStart=>exact ⟨0,rfl,Nat.zero_le _,IsNum.zero _,Nx.refl _⟩
        case round =>
         obtain ⟨n,rfl,hn,hnum,hbr⟩:=hrel
         obtain ⟨Av,lv,cv,rfl⟩:=hnum.sl
         obtain ⟨V,HV⟩:∃ V,Hid (valS (L.take n)=V):=⟨_,rfl⟩
         rw [HV.out] at hnum
         have hVl:V<2 ^ (4 * n):=by
          rw [← HV.out];exact Nat.lt_of_lt_of_le (valS_lt L HDG2.out n (by omega)) (ten_two n)
         by_cases hlt:n<nl
         ·have hnL:n<L.length:=by omega
          obtain ⟨b0,off,hA,hbl,hcell⟩:=(HRD.out.below hbr).at_ (show n<(L.map v48).length by simpa using hnL)
          rw [List.getElem_map] at hcell
          obtain ⟨D,hD⟩:∃ D:Nat,Hid (digV L[n]=D):=⟨digV L[n],rfl⟩
          have hcv:(v48 L[n]).toNat=D:=by rw [v48_toNat,← hD.out];rfl
          unfold bv at hcell
          rw [hcv] at hcell
          have hD9:D≤9:=by
           have:=digV_lt L[n] (HDG2.out _ (List.getElem_mem hnL))
           rw [hD.out] at this;omega
          have HN:Hid (valS (L.take (n+1))=V * 10+D):=by
           unfold Hid;rw [valS_take L n hnL,HV.out,hD.out];omega
          have wr64:IntKind.u64.wrap (D:Int)=(D:Int):=by rw [IntKind.wrap_u64];omega
          have g1:decide ((n:Int)<(ds.length:Int)+1)=true:=decide_eq_true (by omega)
          subst hA
          have q:∀ x:Gr wr,x.1.cell? ⟨b0,off+n,none⟩=some (.int .u8 (D:Int)):=fun x=>by
           rw [← hcell];unfold World.cell?;simp only;rw [x.2.block b0 hbl]
          clear hcell hcv
          go_wp2_with fail
          refine wp_region_hyb [(0,true),(3,true),(4,true),(5,true),(6,true),(7,true),(1,false),(2,false),(8,false),(9,false),(10,true)] rfl (by kernel_rfl) ?_
          iterate 6 (refine hyb_calm rfl (fun K hK=>?_);go_simp;refine hK _ ?_;clear hK K)
          refine hyb_alone rfl (fun w2 hn2 K hK=>?_)
          go_simp
          refine hK _ _ (nx0 w2 _) ?_
          clear hK K
          refine hyb_alone rfl (fun w3 hn3 K hK=>?_)
          go_simp
          have hN3:Nx wr w3:=Nx.trans (Nx.al hn2 _) hn3
          refine (refMul_n _ _ V 10 KB _ ((hnum.below hN3).few hVl (by omega)) ((ten_num w2 _).below hn3) KB_le).mono ?_;rintro e w4 ⟨v4,rfl,hv4,hw4⟩
          refine hK _ _ hw4 ?_
          clear hK K
          refine hyb_alone rfl (fun w5 hn5 K hK=>?_)
          go_simp
          refine (refOf_n D _ (by omega)).mono ?_;rintro e w6 ⟨v6,rfl,hv6,hw6⟩
          refine hK _ _ hw6 ?_
          clear hK K
          refine hyb_alone rfl (fun w7 hn7 K hK=>?_)
          go_simp
          have hv4':=hv4.below (Nx.trans (Nx.trans hn5 hw6) hn7)
          refine (refAdd_n _ _ (V * 10) D KB _ (hv4'.few (show V * 10<2 ^ (4 * n+4) by rw [Nat.pow_add];omega) (by omega)) ((hv6.below hn7).few (show D<2 ^ 4 by omega) (by decide)) KB_le).mono ?_;rintro e w8 ⟨v8,rfl,hv8,hw8⟩
          refine hK _ _ hw8 ?_
          clear hK K
          refine hyb_calm rfl (fun K hK=>?_);go_simp;refine hK _ ?_;clear hK K
          refine hyb_nil (fun w9 hn9=>?_)
          have hN9:Nx w1 w9:=Nx.trans (Nx.trans (Nx.trans (Nx.trans (Nx.trans (Nx.trans (Nx.trans hbr hN3) hw4) hn5) hw6) hn7) hw8) hn9
          clear q
          go_wp2_with fail
          go_roundw
          case rel=>exact ⟨n+1,by go_num,by omega,by rw [HN.out];exact hv8.below hn9,hN9⟩
          case measure=>simp [intOf];omega
         ·obtain rfl:n=nl:=by omega
          have g1:decide ((n:Int)<(ds.length:Int)+1)=false:=decide_eq_false (by omega)
          have hvl:=HVL.out
          rw [HV.out] at hvl
          have HVL2:=Lib.hid hvl
          obtain ⟨kk,hkk⟩:∃ kk:Int,xv - (k:Int)=kk:=⟨_,rfl⟩
          have hkk1 : -460≤kk:=by have:=HXV.out;omega
          have hkk2:kk≤400:=by have:=HXV.out;omega
          obtain ⟨N,hN⟩:∃ N,Hid (numS V kk=N):=⟨_,rfl⟩
          have hP:=HP4.out
          rw [hvl,hkk,hN.out] at hP
          have HP5:=Lib.hid hP
          have hNb:=Nx.trans hN1 hbr
          have hV240:V<2 ^ 240:=Nat.lt_of_lt_of_le hVl (Nat.pow_le_pow_right (by decide) (by omega))
          clear hlt hvl hP
          by_cases hneg:0≤kk
          ·obtain ⟨m,rfl⟩:=Int.eq_ofNat_of_zero_le hneg
           have b2:decide ((0:Int)≤(m:Int))=true:=decide_eq_true hneg
           have hm400:m≤400:=by omega
           have hnn:numS V (m:Int)=near (V * 10 ^ m * 2 ^ tz) 1:=by unfold numS;rw [if_pos hneg,Int.toNat_natCast]
           rw [hN.out] at hnn
           have HNN:=Lib.hid hnn.symm
           clear hnn hneg
           go_wp2_with fail
           refine (refTen_any m _ (by omega)).mono ?_;rintro e w2 ⟨v2,rfl,hv2,hw2⟩
           have hN2:=Nx.trans (nx0 wr (.cells #[.int .u32 1] 95)) hw2
           have hv2n:=hv2.num
           go_wp2_with fail
           refine (refMul_n _ _ V (10 ^ m) KB _ ((hnum.below hN2).few hV240 (by decide)) (hv2n.few (by rw [← Nat.one_mul (10 ^ m)];exact ten_two' 1 1 m (by decide)) (by omega)) KB_le).mono ?_;rintro e w3 ⟨v3,rfl,hv3,hw3⟩
           go_wp2_with fail
           refine (refRound_any _ _ (V * 10 ^ m) 1 _ hv3 (Nat.lt_of_lt_of_le (ten_two' V 240 m hV240) (pow100 _ (by omega))) ((one_num2 wr _).below (Nx.trans hw2 hw3)) (by decide)).mono ?_;rintro e w4 ⟨rfl,hw4⟩
           rw [HNN.out]
           have hNf:=Nx.trans (Nx.trans (Nx.trans hNb hN2) hw3) hw4
           have hP:=HP5.out
           by_cases hlim:N<LIM
           ·rw [if_pos hlim] at hP
            subst hP
            have b3:decide (N<LIM)=true:=decide_eq_true hlim
            have hpk:packV N=N:=by unfold packV;rw [if_pos hlim]
            have hN63:N<9223372036854775808:=by unfold LIM at hlim;omega
            have HO:=Lib.hid (or0 N hN63)
            rw [b3,hpk]
            clear hlim b3 hpk hN63
            go_wp2_with fail
            go_ret2
            refine ⟨?_,hNf⟩
            exact congrArg (fun z=>Ending.returned (Value.tuple #[Value.int .u64 z,Value.int .i64 0])) (HO.out.trans (by simp))
           ·rw [if_neg hlim] at hP
            subst hP
            have b3:decide (N<LIM)=false:=decide_eq_false hlim
            rw [b3]
            clear hlim b3
            go_wp2_with fail
            go_ret2
            exact ⟨rfl,hNf⟩
          ·have b2:decide ((0:Int)≤kk)=false:=decide_eq_false hneg
           obtain ⟨m,hm⟩:∃ m:Nat,-kk=(m:Int):=⟨(-kk).toNat,by omega⟩
           have hm400:m≤460:=by omega
           have hnn:numS V kk=near (V * 2 ^ tz) (10 ^ m):=by unfold numS;rw [if_neg hneg,hm,Int.toNat_natCast]
           rw [hN.out] at hnn
           have HNN:=Lib.hid hnn.symm
           clear hnn hneg
           go_wp2_with fail
           refine (refTen_any m _ (by omega)).mono ?_;rintro e w2 ⟨v2,rfl,hv2,hw2⟩
           have hN2:=Nx.trans (nx0 wr (.cells #[.int .u32 1] 95)) hw2
           have hv2n:=hv2.num
           go_wp2_with fail
           refine (refRound_any _ _ V (10 ^ m) _ (hnum.below hN2) (Nat.lt_of_lt_of_le hV240 (pow100 _ (by decide))) (hv2n.num (Nat.lt_of_lt_of_le (by rw [← Nat.one_mul (10 ^ m)];exact ten_two' 1 1 m (by decide)) (pow100 _ (by omega)))) (Nat.pow_pos (by decide))).mono ?_;rintro e w4 ⟨rfl,hw4⟩
           rw [HNN.out]
           have hNf:=Nx.trans (Nx.trans hNb hN2) hw4
           have hP:=HP5.out
           by_cases hlim:N<LIM
           ·rw [if_pos hlim] at hP
            subst hP
            have b3:decide (N<LIM)=true:=decide_eq_true hlim
            have hpk:packV N=N:=by unfold packV;rw [if_pos hlim]
            have hN63:N<9223372036854775808:=by unfold LIM at hlim;omega
            have HO:=Lib.hid (or0 N hN63)
            rw [b3,hpk]
            clear hlim b3 hpk hN63
            go_wp2_with fail
            go_ret2
            refine ⟨?_,hNf⟩
            exact congrArg (fun z=>Ending.returned (Value.tuple #[Value.int .u64 z,Value.int .i64 0])) (HO.out.trans (by simp))
           ·rw [if_neg hlim] at hP
            subst hP
            have b3:decide (N<LIM)=false:=decide_eq_false hlim
            rw [b3]
            clear hlim b3
            go_wp2_with fail
            go_ret2
            exact ⟨rfl,hNf⟩
       ·rw [if_pos rfl] at hp
        subst hp
        clear h60
        go_wp2_with fail
        go_ret2
        exact ⟨rfl,hN1⟩
set_option maxRecDepth 100000 in
set_option maxHeartbeats 12800000 in
theorem refParse_minus (s:ByteArray) (c:UInt8) (m:List UInt8) (h1:c.toNat=45) (w:World) (hl:Tx s (c :: m)) (hs:((c :: m).length:Int)≤7000) :
  Calls Tryz.prog 66 #[.string s] w fun e w'=>e = .returned (.tuple #[.int .u64 ((parseS (c :: m)).1:Nat),.int .i64 ((parseS (c :: m)).2:Nat)])∧Nx w w':=by
 obtain ⟨P,HP⟩:∃ P,Hid (parseS (c :: m)=P):=⟨_,rfl⟩
 rw [HP.out]
 obtain ⟨g,hg⟩:∃ g,w.heap.size=g:=⟨_,rfl⟩
 obtain ⟨hp0,t0,y0,y1,ht0,y2,y3⟩:=hl.cons
 have b1:((c.toNat:Int) == 43)=false:=by rw [beq_eq_false_iff_ne];omega
 have b2:((c.toNat:Int) == 45)=true:=by rw [beq_iff_eq];omega
 have hp00:(0:Int)<(s.size:Int):=by omega
 obtain ⟨r1,hr1⟩:∃ r1,m=r1:=⟨_,rfl⟩
 have HTR:Hid (Tx t0 r1):=by rw [← hr1];exact ht0
 have HSG:Hid (signS (c :: m)=(true,r1)):=by unfold Hid;rw [← hr1];simp [signS,h1]
 have hrl:(r1.length:Int)≤7000:=by rw [← hr1];simp at hs;omega
 clear hl hr1 hs ht0 h1
 go_enter Tryz.func66,Tryz.ntmps66
 go_upto_block 0 with fail
 go_cut [0,5,6,7] (fun sv dv pv kv wx=>∃ (u:ByteArray) (R ds:List UInt8) (p:Bool) (k:Nat),sv = .string u∧pv = .bool p∧kv = .int .i64 k∧Hid (Tx u R)∧Own bv 5 wx g dv (ds.map v48)∧Hid (scanS false r1=(ds,k,p,R))∧ds.length+R.length≤r1.length∧k≤ds.length∧Hid (digs ds)∧Nx w wx)
 case first =>
  go_wp2_with fail
  go_loopw [0,5,6,7] (fun sv dv pv kv wr=>∃ (u:ByteArray) (R ds:List UInt8) (p:Bool) (k:Nat),sv = .string u∧pv = .bool p∧kv = .int .i64 k∧Hid (Tx u R)∧Own bv 5 wr g dv (ds.map v48)∧Hid (scanS false r1=(ds++(scanS p R).1,k+(scanS p R).2.1,(scanS p R).2.2))∧ds.length+R.length≤r1.length∧k≤ds.length∧Hid (digs ds)∧Nx w wr) (fun sv _ _ _ _=>strLen sv)
  case atStart=>exact ⟨t0,r1,[],false,0,rfl,rfl,rfl,HTR,Own.nil_,(by unfold Hid;simp),(by simp),Nat.le_refl _,(show Hid (digs []) from fun c hc=>(by cases hc)),Nx.refl _⟩
  case round =>
   obtain ⟨u,R,ds,p,k,rfl,rfl,rfl,HU,hown,HSC,hlen,hk,HDG,hb⟩:=hrel
   have hsz:g≤wr.heap.size:=by rw [← hg];exact hb.size
   cases R with
   | nil =>
    have d1:=HU.out.nil.1
    have d2:=HU.out.nil.2
    have HS2:Hid (scanS false r1=(ds,k,p,[])):=by unfold Hid;rw [HSC.out,scan_nil];simp
    go_wp2_with fail
    go_meet
    case rel=>exact ⟨u,[],ds,p,k,rfl,rfl,rfl,HU,hown,HS2,hlen,hk,HDG,hb⟩
   | cons c1 R1 =>
    obtain ⟨hp1,t1,x0,x1,ht1,x2,x3⟩:=HU.out.cons
    have HT1:=Lib.hid ht1
    have hus:u.size=t1.size+1:=by rw [HU.out.size,ht1.size];rfl
    have hlen2:ds.length+R1.length+1≤r1.length:=by simp at hlen;omega
    have hst:strLen (.string t1)<strLen (.string u):=by show t1.size<u.size;omega
    have HST:=Lib.hid hst
    clear ht1 hus hst
    by_cases h48:48≤c1.toNat
    ·by_cases h57:c1.toNat≤57
     ·have g2:decide ((48:Int)≤(c1.toNat:Int))=true:=decide_eq_true (by omega)
      have g3:decide ((c1.toNat:Int)≤57)=true:=decide_eq_true (by omega)
      have g4:((c1.toNat:Int) == 46)=false:=by rw [beq_eq_false_iff_ne];omega
      have hdc:=(isDig_iff c1).2 ⟨h48,h57⟩
      have hd1:(48:Int)≤(c1.toNat:Int):=by omega
      have hd2:(c1.toNat:Int)≤57:=by omega
      have HS2:Hid (scanS false r1=((ds++[c1])++(scanS p R1).1,(k+if p then 1 else 0)+(scanS p R1).2.1,(scanS p R1).2.2)):=by
       unfold Hid;rw [HSC.out,scan_dig p c1 R1 hdc]
       simp;omega
      have HD2:Hid (digs (ds++[c1])):=by
       intro d hd
       rcases List.mem_append.1 hd with h | h
       ·exact HDG.out d h
       ·rw [List.mem_singleton.1 h];exact hdc
      have hv:Value.int .u8 ((c1.toNat:Int) - 48)=bv (v48 c1):=by
       unfold bv;rw [v48_toNat];congr 1;omega
      have HV:=Lib.hid hv
      have HL2:Hid ((ds++[c1]).length+R1.length≤r1.length):=by unfold Hid;simp;omega
      have HK2:Hid ((k+if p then 1 else 0)≤(ds++[c1]).length):=by unfold Hid;simp;split <;> omega
      clear h48 h57 hdc hv
      have hdl:(ds.map v48).length≤7000:=by simp;omega
      cases p
      all_goals
       go_wp2_with (at_builtin;go_must (refine wpList_app (f:=bv) _ bT rfl _ _ rfl bv_one g _ (ds.map v48) [v48 c1] rfl (hown.alloc _) _ _ rfl (Rd.one HV.out rfl) (by simp [maxLen] at hdl ⊢;omega) (by simp at hdl ⊢;omega) (by simp;omega) ?_;intro v2 w2 hown2 hbel2))
       go_roundw
       case rel =>
        refine ⟨t1,R1,ds++[c1],_,_,rfl,rfl,(by first | rfl | go_num),HT1,hown2.cast (by simp),HS2,HL2.out,HK2.out,HD2,?_⟩
        exact Below.trans (hb.al _) (Below.mono hbel2 (Nat.le_of_eq hg))
       case measure=>exact HST.out
     ·have g2:decide ((48:Int)≤(c1.toNat:Int))=true:=decide_eq_true (by omega)
      have g3:decide ((c1.toNat:Int)≤57)=false:=decide_eq_false (by omega)
      have g4:((c1.toNat:Int) == 46)=false:=by rw [beq_eq_false_iff_ne];omega
      have HS2:Hid (scanS false r1=(ds,k,p,c1 :: R1)):=by
       unfold Hid;rw [HSC.out,scan_end p c1 R1 (by rw [← Bool.not_eq_true,isDig_iff];omega) (by omega)];simp
      clear h48 h57
      go_wp2_with fail
      go_meet
      case rel=>exact ⟨u,c1 :: R1,ds,p,k,rfl,rfl,rfl,HU,hown,HS2,hlen,hk,HDG,hb⟩
    ·have g2:decide ((48:Int)≤(c1.toNat:Int))=false:=decide_eq_false (by omega)
     have hnd:isDig c1=false:=by rw [← Bool.not_eq_true,isDig_iff];omega
     by_cases h46:c1=46
     ·subst h46
      cases p
      ·have HS2:Hid (scanS false r1=(ds++(scanS true R1).1,k+(scanS true R1).2.1,(scanS true R1).2.2)):=by
        unfold Hid;rw [HSC.out,scan_stop]
       have g4:(((46:UInt8).toNat:Int) == 46)=true:=rfl
       clear h48 hnd
       go_wp2_with fail
       go_roundw
       case rel=>exact ⟨t1,R1,ds,true,k,rfl,rfl,rfl,HT1,hown,HS2,by omega,hk,HDG,hb⟩
       case measure=>exact HST.out
      ·have HS2:Hid (scanS false r1=(ds,k,true,46 :: R1)):=by
        unfold Hid;rw [HSC.out,scan_end true 46 R1 hnd (by simp)];simp
       have g4:(((46:UInt8).toNat:Int) == 46)=true:=rfl
       clear h48 hnd
       go_wp2_with fail
       go_meet
       case rel=>exact ⟨u,46 :: R1,ds,true,k,rfl,rfl,rfl,HU,hown,HS2,hlen,hk,HDG,hb⟩
     ·have g4:((c1.toNat:Int) == 46)=false:=by
       rw [beq_eq_false_iff_ne]
       intro h
       exact h46 (UInt8.toNat_inj.1 (by rw [show c1.toNat=46 from by omega];rfl))
      have HS2:Hid (scanS false r1=(ds,k,p,c1 :: R1)):=by
       unfold Hid;rw [HSC.out,scan_end p c1 R1 hnd (fun h=>h46 (UInt8.toNat_inj.1 (by rw [h.1];rfl)))];simp
      clear h48 hnd h46
      go_wp2_with fail
      go_meet
      case rel=>exact ⟨u,c1 :: R1,ds,p,k,rfl,rfl,rfl,HU,hown,HS2,hlen,hk,HDG,hb⟩
 case rest =>
  obtain ⟨u,R,ds,p,k,rfl,rfl,rfl,HU,hown,HSC,hlen,hk,HDG,hb⟩:=hcut
  have hpi:=parse_is _ _ r1 ds R k p HSG.out HSC.out
  rw [HP.out] at hpi
  have hxb:=expT_b R
  obtain ⟨X,HX⟩:∃ X,Hid (expT R=X):=⟨_,rfl⟩
  rw [HX.out] at hpi hxb
  obtain ⟨xv,xb,xe⟩:=X
  dsimp only at hpi hxb
  have HPI:=Lib.hid hpi
  have HXB:=Lib.hid hxb
  obtain ⟨AD,cD,rfl,hdc1,hdc2,hdr⟩:=hown.sl
  have hdl2:(ds.map v48).length=ds.length:=List.length_map ..
  rw [hdl2] at hdc1 ⊢
  have hRl:(R.length:Int)≤7000:=by omega
  have hdsl:(ds.length:Int)≤7000:=by omega
  have hdr':=Lib.hid hdr
  have hN0:=hb
  clear hpi hxb hown hdr
  cases ds with
  | nil =>
   have hp:=HPI.out
   rw [if_pos (.inl rfl)] at hp
   subst hp
   go_wp2_with fail
   go_ret2
   exact ⟨rfl,hb⟩
  | cons d0 ds =>
   by_cases hpk:p=true∧k=0
   ·have hp:=HPI.out
    rw [if_pos (.inr hpk)] at hp
    subst hp
    obtain ⟨rfl,rfl⟩:=hpk
    go_wp2_with fail
    go_ret2
    exact ⟨rfl,hb⟩
   ·have hp:=HPI.out
    rw [if_neg (by simp;intro h h2;exact hpk ⟨h,h2⟩)] at hp
    have hpk2:p=false∨(p=true∧((k:Int) == 0)=false):=by
     cases p
     ·exact .inl rfl
     ·refine .inr ⟨rfl,?_⟩
      rw [beq_eq_false_iff_ne]
      intro h
      exact hpk ⟨rfl,by omega⟩
    have HP2:=Lib.hid hp
    clear hp hpk
    rcases hpk2 with rfl | ⟨rfl,hk0⟩
    all_goals
     go_wp2_with fail
     refine (refExponent_any u R _ HU.out (by omega)).mono ?_;rintro e w1 ⟨rfl,hw1⟩
     rw [HX.out]
     dsimp only
     have hN1:=Nx.trans hN0 hw1
     have hp:=HP2.out
     rcases HXB.out.1 with rfl | rfl
     ·rw [if_pos rfl] at hp
      subst hp
      go_wp2_with fail
      go_ret2
      exact ⟨rfl,hN1⟩
     ·rw [if_neg (by decide)] at hp
      by_cases h60:60<(d0 :: ds).length
      ·rw [if_pos h60] at hp
       subst hp
       have b1:decide ((60:Int)<(ds.length:Int)+1)=true:=decide_eq_true (by simp at h60;omega)
       clear h60
       go_wp2_with fail
       go_ret2
       exact ⟨rfl,hN1⟩
      ·rw [if_neg h60] at hp
       have b1:decide ((60:Int)<(ds.length:Int)+1)=false:=decide_eq_false (by simp at h60;omega)
       cases xb
       ·rw [if_neg (by decide)] at hp
        have hxv:=HXB.out.2 rfl rfl
        have HXV:=Lib.hid hxv
        have HP3:=Lib.hid hp
        obtain ⟨L,hL⟩:∃ L,d0 :: ds=L:=⟨_,rfl⟩
        obtain ⟨nl,hnl⟩:∃ nl:Nat,(ds.length:Int)+1=(nl:Int)∧L.length=nl∧nl≤60:=⟨ds.length+1,by omega,by rw [← hL];rfl,by simp at h60;omega⟩
        clear h60 hp hxv
        go_wp2_with fail
        have HDG2:Hid (digs L):=by rw [← hL];exact HDG
        have HRD:Hid (Rd bv w1 AD (L.map v48)):=by rw [← hL];exact hdr'.out.below hw1
        have HVL:Hid (valS L=valS (L.take nl)):=by unfold Hid;rw [List.take_of_length_le (by omega)]
        have hnl1:=hnl.1
        have hnl2:=hnl.2.1
        have hnl3:=hnl.2.2
        have HP4:Hid (P=if numS (valS L) (xv - (k:Int))<LIM then ((if true then 9223372036854775808 else 0)+numS (valS L) (xv - (k:Int)),0) else (0,5)):=by rw [← hL];exact HP3.out
        have hk2:(k:Int)≤60:=by have:=hk;simp at this;omega
        go_loopw [11,12] (fun a v wr=>∃ (n:Nat),v = .int .i64 n∧n≤nl∧IsNum wr a (valS (L.take n))∧Nx w1 wr) (fun _ v _=>(1000 - intOf v).toNat)
        case atStart=>exact ⟨0,rfl,Nat.zero_le _,IsNum.zero _,Nx.refl _⟩
        case round =>
         obtain ⟨n,rfl,hn,hnum,hbr⟩:=hrel
         obtain ⟨Av,lv,cv,rfl⟩:=hnum.sl
         obtain ⟨V,HV⟩:∃ V,Hid (valS (L.take n)=V):=⟨_,rfl⟩
         rw [HV.out] at hnum
         have hVl:V<2 ^ (4 * n):=by
          rw [← HV.out];exact Nat.lt_of_lt_of_le (valS_lt L HDG2.out n (by omega)) (ten_two n)
         by_cases hlt:n<nl
         ·have hnL:n<L.length:=by omega
          obtain ⟨b0,off,hA,hbl,hcell⟩:=(HRD.out.below hbr).at_ (show n<(L.map v48).length by simpa using hnL)
          rw [List.getElem_map] at hcell
          obtain ⟨D,hD⟩:∃ D:Nat,Hid (digV L[n]=D):=⟨digV L[n],rfl⟩
          have hcv:(v48 L[n]).toNat=D:=by rw [v48_toNat,← hD.out];rfl
          unfold bv at hcell
          rw [hcv] at hcell
          have hD9:D≤9:=by
           have:=digV_lt L[n] (HDG2.out _ (List.getElem_mem hnL))
           rw [hD.out] at this;omega
          have HN:Hid (valS (L.take (n+1))=V * 10+D):=by
           unfold Hid;rw [valS_take L n hnL,HV.out,hD.out];omega
          have wr64:IntKind.u64.wrap (D:Int)=(D:Int):=by rw [IntKind.wrap_u64];omega
          have g1:decide ((n:Int)<(ds.length:Int)+1)=true:=decide_eq_true (by omega)
          subst hA
          have q:∀ x:Gr wr,x.1.cell? ⟨b0,off+n,none⟩=some (.int .u8 (D:Int)):=fun x=>by
           rw [← hcell];unfold World.cell?;simp only;rw [x.2.block b0 hbl]
          clear hcell hcv
          go_wp2_with fail
          refine wp_region_hyb [(0,true),(3,true),(4,true),(5,true),(6,true),(7,true),(1,false),(2,false),(8,false),(9,false),(10,true)] rfl (by kernel_rfl) ?_
          iterate 6 (refine hyb_calm rfl (fun K hK=>?_);go_simp;refine hK _ ?_;clear hK K)
          refine hyb_alone rfl (fun w2 hn2 K hK=>?_)
          go_simp
          refine hK _ _ (nx0 w2 _) ?_
          clear hK K
          refine hyb_alone rfl (fun w3 hn3 K hK=>?_)
          go_simp
          have hN3:Nx wr w3:=Nx.trans (Nx.al hn2 _) hn3
          refine (refMul_n _ _ V 10 KB _ ((hnum.below hN3).few hVl (by omega)) ((ten_num w2 _).below hn3) KB_le).mono ?_;rintro e w4 ⟨v4,rfl,hv4,hw4⟩
          refine hK _ _ hw4 ?_
          clear hK K
          refine hyb_alone rfl (fun w5 hn5 K hK=>?_)
          go_simp
          refine (refOf_n D _ (by omega)).mono ?_;rintro e w6 ⟨v6,rfl,hv6,hw6⟩
          refine hK _ _ hw6 ?_
          clear hK K
          refine hyb_alone rfl (fun w7 hn7 K hK=>?_)
          go_simp
          have hv4':=hv4.below (Nx.trans (Nx.trans hn5 hw6) hn7)
          refine (refAdd_n _ _ (V * 10) D KB _ (hv4'.few (show V * 10<2 ^ (4 * n+4) by rw [Nat.pow_add];omega) (by omega)) ((hv6.below hn7).few (show D<2 ^ 4 by omega) (by decide)) KB_le).mono ?_;rintro e w8 ⟨v8,rfl,hv8,hw8⟩
          refine hK _ _ hw8 ?_
          clear hK K
          refine hyb_calm rfl (fun K hK=>?_);go_simp;refine hK _ ?_;clear hK K
          refine hyb_nil (fun w9 hn9=>?_)
          have hN9:Nx w1 w9:=Nx.trans (Nx.trans (Nx.trans (Nx.trans (Nx.trans (Nx.trans (Nx.trans hbr hN3) hw4) hn5) hw6) hn7) hw8) hn9
          clear q
          go_wp2_with fail
          go_roundw
          case rel=>exact ⟨n+1,by go_num,by omega,by rw [HN.out];exact hv8.below hn9,hN9⟩
          case measure=>simp [intOf];omega
         ·obtain rfl:n=nl:=by omega
          have g1:decide ((n:Int)<(ds.length:Int)+1)=false:=decide_eq_false (by omega)
          have hvl:=HVL.out
          rw [HV.out] at hvl
          have HVL2:=Lib.hid hvl
          obtain ⟨kk,hkk⟩:∃ kk:Int,xv - (k:Int)=kk:=⟨_,rfl⟩
          have hkk1 : -460≤kk:=by have:=HXV.out;omega
          have hkk2:kk≤400:=by have:=HXV.out;omega
          obtain ⟨N,hN⟩:∃ N,Hid (numS V kk=N):=⟨_,rfl⟩
          have hP:=HP4.out
          rw [hvl,hkk,hN.out] at hP
          have HP5:=Lib.hid hP
          have hNb:=Nx.trans hN1 hbr
          have hV240:V<2 ^ 240:=Nat.lt_of_lt_of_le hVl (Nat.pow_le_pow_right (by decide) (by omega))
          clear hlt hvl hP
          by_cases hneg:0≤kk
          ·obtain ⟨m,rfl⟩:=Int.eq_ofNat_of_zero_le hneg
           have b2:decide ((0:Int)≤(m:Int))=true:=decide_eq_true hneg
           have hm400:m≤400:=by omega
           have hnn:numS V (m:Int)=near (V * 10 ^ m * 2 ^ tz) 1:=by unfold numS;rw [if_pos hneg,Int.toNat_natCast]
           rw [hN.out] at hnn
           have HNN:=Lib.hid hnn.symm
           clear hnn hneg
           go_wp2_with fail
           refine (refTen_any m _ (by omega)).mono ?_;rintro e w2 ⟨v2,rfl,hv2,hw2⟩
           have hN2:=Nx.trans (nx0 wr (.cells #[.int .u32 1] 95)) hw2
           have hv2n:=hv2.num
           go_wp2_with fail
           refine (refMul_n _ _ V (10 ^ m) KB _ ((hnum.below hN2).few hV240 (by decide)) (hv2n.few (by rw [← Nat.one_mul (10 ^ m)];exact ten_two' 1 1 m (by decide)) (by omega)) KB_le).mono ?_;rintro e w3 ⟨v3,rfl,hv3,hw3⟩
           go_wp2_with fail
           refine (refRound_any _ _ (V * 10 ^ m) 1 _ hv3 (Nat.lt_of_lt_of_le (ten_two' V 240 m hV240) (pow100 _ (by omega))) ((one_num2 wr _).below (Nx.trans hw2 hw3)) (by decide)).mono ?_;rintro e w4 ⟨rfl,hw4⟩
           rw [HNN.out]
           have hNf:=Nx.trans (Nx.trans (Nx.trans hNb hN2) hw3) hw4
           have hP:=HP5.out
           by_cases hlim:N<LIM
           ·rw [if_pos hlim] at hP
            subst hP
            have b3:decide (N<LIM)=true:=decide_eq_true hlim
            have hpk:packV N=N:=by unfold packV;rw [if_pos hlim]
            have hN63:N<9223372036854775808:=by unfold LIM at hlim;omega
            have HO:=Lib.hid (or63 N hN63)
            rw [b3,hpk]
            clear hlim b3 hpk hN63
            go_wp2_with fail
            go_ret2
            refine ⟨?_,hNf⟩
            exact congrArg (fun z=>Ending.returned (Value.tuple #[Value.int .u64 z,Value.int .i64 0])) (HO.out.trans (by simp))
           ·rw [if_neg hlim] at hP
            subst hP
            have b3:decide (N<LIM)=false:=decide_eq_false hlim
            rw [b3]
            clear hlim b3
            go_wp2_with fail
            go_ret2
            exact ⟨rfl,hNf⟩
          ·have b2:decide ((0:Int)≤kk)=false:=decide_eq_false hneg
           obtain ⟨m,hm⟩:∃ m:Nat,-kk=(m:Int):=⟨(-kk).toNat,by omega⟩
           have hm400:m≤460:=by omega
           have hnn:numS V kk=near (V * 2 ^ tz) (10 ^ m):=by unfold numS;rw [if_neg hneg,hm,Int.toNat_natCast]
           rw [hN.out] at hnn
           have HNN:=Lib.hid hnn.symm
           clear hnn hneg
           go_wp2_with fail
           refine (refTen_any m _ (by omega)).mono ?_;rintro e w2 ⟨v2,rfl,hv2,hw2⟩
           have hN2:=Nx.trans (nx0 wr (.cells #[.int .u32 1] 95)) hw2
           have hv2n:=hv2.num
           go_wp2_with fail
           refine (refRound_any _ _ V (10 ^ m) _ (hnum.below hN2) (Nat.lt_of_lt_of_le hV240 (pow100 _ (by decide))) (hv2n.num (Nat.lt_of_lt_of_le (by rw [← Nat.one_mul (10 ^ m)];exact ten_two' 1 1 m (by decide)) (pow100 _ (by omega)))) (Nat.pow_pos (by decide))).mono ?_;rintro e w4 ⟨rfl,hw4⟩
           rw [HNN.out]
           have hNf:=Nx.trans (Nx.trans hNb hN2) hw4
           have hP:=HP5.out
           by_cases hlim:N<LIM
           ·rw [if_pos hlim] at hP
            subst hP
            have b3:decide (N<LIM)=true:=decide_eq_true hlim
            have hpk:packV N=N:=by unfold packV;rw [if_pos hlim]
            have hN63:N<9223372036854775808:=by unfold LIM at hlim;omega
            have HO:=Lib.hid (or63 N hN63)
            rw [b3,hpk]
            clear hlim b3 hpk hN63
            go_wp2_with fail
            go_ret2
            refine ⟨?_,hNf⟩
            exact congrArg (fun z=>Ending.returned (Value.tuple #[Value.int .u64 z,Value.int .i64 0])) (HO.out.trans (by simp))
           ·rw [if_neg hlim] at hP
            subst hP
            have b3:decide (N<LIM)=false:=decide_eq_false hlim
            rw [b3]
            clear hlim b3
            go_wp2_with fail
            go_ret2
            exact ⟨rfl,hNf⟩
       ·rw [if_pos rfl] at hp
        subst hp
        clear h60
        go_wp2_with fail
        go_ret2
        exact ⟨rfl,hN1⟩
set_option maxRecDepth 100000 in
set_option maxHeartbeats 12800000 in
theorem refParse_plain (s:ByteArray) (c:UInt8) (m:List UInt8) (h1:c.toNat≠43) (h2:c.toNat≠45) (w:World) (hl:Tx s (c :: m)) (hs:((c :: m).length:Int)≤7000) :
  Calls Tryz.prog 66 #[.string s] w fun e w'=>e = .returned (.tuple #[.int .u64 ((parseS (c :: m)).1:Nat),.int .i64 ((parseS (c :: m)).2:Nat)])∧Nx w w':=by
 obtain ⟨P,HP⟩:∃ P,Hid (parseS (c :: m)=P):=⟨_,rfl⟩
 rw [HP.out]
 obtain ⟨g,hg⟩:∃ g,w.heap.size=g:=⟨_,rfl⟩
 obtain ⟨hp0,t0,y0,y1,ht0,y2,y3⟩:=hl.cons
 have b1:((c.toNat:Int) == 43)=false:=by rw [beq_eq_false_iff_ne];omega
 have b2:((c.toNat:Int) == 45)=false:=by rw [beq_eq_false_iff_ne];omega
 have hp00:(0:Int)<(s.size:Int):=by omega
 have hsg:signS (c :: m)=(false,c :: m):=by simp [signS,h1,h2]
 obtain ⟨r1,hr1⟩:∃ r1,c :: m=r1:=⟨_,rfl⟩
 have HTR:Hid (Tx s r1):=by rw [← hr1];exact hl
 have HSG:Hid (signS (c :: m)=(false,r1)):=by rw [← hr1];exact hsg
 have hrl:(r1.length:Int)≤7000:=by rw [← hr1];exact hs
 clear hl hr1 hs ht0 h1 h2 hsg
 go_enter Tryz.func66,Tryz.ntmps66
 go_upto_block 0 with fail
 go_cut [0,5,6,7] (fun sv dv pv kv wx=>∃ (u:ByteArray) (R ds:List UInt8) (p:Bool) (k:Nat),sv = .string u∧pv = .bool p∧kv = .int .i64 k∧Hid (Tx u R)∧Own bv 5 wx g dv (ds.map v48)∧Hid (scanS false r1=(ds,k,p,R))∧ds.length+R.length≤r1.length∧k≤ds.length∧Hid (digs ds)∧Nx w wx)
 case first =>
  go_wp2_with fail
  go_loopw [0,5,6,7] (fun sv dv pv kv wr=>∃ (u:ByteArray) (R ds:List UInt8) (p:Bool) (k:Nat),sv = .string u∧pv = .bool p∧kv = .int .i64 k∧Hid (Tx u R)∧Own bv 5 wr g dv (ds.map v48)∧Hid (scanS false r1=(ds++(scanS p R).1,k+(scanS p R).2.1,(scanS p R).2.2))∧ds.length+R.length≤r1.length∧k≤ds.length∧Hid (digs ds)∧Nx w wr) (fun sv _ _ _ _=>strLen sv)
  case atStart=>exact ⟨s,r1,[],false,0,rfl,rfl,rfl,HTR,Own.nil_,(by unfold Hid;simp),(by simp),Nat.le_refl _,(show Hid (digs []) from fun c hc=>(by cases hc)),Nx.refl _⟩
  case round =>
   obtain ⟨u,R,ds,p,k,rfl,rfl,rfl,HU,hown,HSC,hlen,hk,HDG,hb⟩:=hrel
   have hsz:g≤wr.heap.size:=by rw [← hg];exact hb.size
   cases R with
   | nil =>
    have d1:=HU.out.nil.1
    have d2:=HU.out.nil.2
    have HS2:Hid (scanS false r1=(ds,k,p,[])):=by unfold Hid;rw [HSC.out,scan_nil];simp
    go_wp2_with fail
    go_meet
    case rel=>exact ⟨u,[],ds,p,k,rfl,rfl,rfl,HU,hown,HS2,hlen,hk,HDG,hb⟩
   | cons c1 R1 =>
    obtain ⟨hp1,t1,x0,x1,ht1,x2,x3⟩:=HU.out.cons
    have HT1:=Lib.hid ht1
    have hus:u.size=t1.size+1:=by rw [HU.out.size,ht1.size];rfl
    have hlen2:ds.length+R1.length+1≤r1.length:=by simp at hlen;omega
    have hst:strLen (.string t1)<strLen (.string u):=by show t1.size<u.size;omega
    have HST:=Lib.hid hst
    clear ht1 hus hst
    by_cases h48:48≤c1.toNat
    ·by_cases h57:c1.toNat≤57
     ·have g2:decide ((48:Int)≤(c1.toNat:Int))=true:=decide_eq_true (by omega)
      have g3:decide ((c1.toNat:Int)≤57)=true:=decide_eq_true (by omega)
      have g4:((c1.toNat:Int) == 46)=false:=by rw [beq_eq_false_iff_ne];omega
      have hdc:=(isDig_iff c1).2 ⟨h48,h57⟩
      have hd1:(48:Int)≤(c1.toNat:Int):=by omega
      have hd2:(c1.toNat:Int)≤57:=by omega
      have HS2:Hid (scanS false r1=((ds++[c1])++(scanS p R1).1,(k+if p then 1 else 0)+(scanS p R1).2.1,(scanS p R1).2.2)):=by
       unfold Hid;rw [HSC.out,scan_dig p c1 R1 hdc]
       simp;omega
      have HD2:Hid (digs (ds++[c1])):=by
       intro d hd
       rcases List.mem_append.1 hd with h | h
       ·exact HDG.out d h
       ·rw [List.mem_singleton.1 h];exact hdc
      have hv:Value.int .u8 ((c1.toNat:Int) - 48)=bv (v48 c1):=by
       unfold bv;rw [v48_toNat];congr 1;omega
      have HV:=Lib.hid hv
      have HL2:Hid ((ds++[c1]).length+R1.length≤r1.length):=by unfold Hid;simp;omega
      have HK2:Hid ((k+if p then 1 else 0)≤(ds++[c1]).length):=by unfold Hid;simp;split <;> omega
      clear h48 h57 hdc hv
      have hdl:(ds.map v48).length≤7000:=by simp;omega
      cases p
      all_goals
       go_wp2_with (at_builtin;go_must (refine wpList_app (f:=bv) _ bT rfl _ _ rfl bv_one g _ (ds.map v48) [v48 c1] rfl (hown.alloc _) _ _ rfl (Rd.one HV.out rfl) (by simp [maxLen] at hdl ⊢;omega) (by simp at hdl ⊢;omega) (by simp;omega) ?_;intro v2 w2 hown2 hbel2))
       go_roundw
       case rel =>
        refine ⟨t1,R1,ds++[c1],_,_,rfl,rfl,(by first | rfl | go_num),HT1,hown2.cast (by simp),HS2,HL2.out,HK2.out,HD2,?_⟩
        exact Below.trans (hb.al _) (Below.mono hbel2 (Nat.le_of_eq hg))
       case measure=>exact HST.out
     ·have g2:decide ((48:Int)≤(c1.toNat:Int))=true:=decide_eq_true (by omega)
      have g3:decide ((c1.toNat:Int)≤57)=false:=decide_eq_false (by omega)
      have g4:((c1.toNat:Int) == 46)=false:=by rw [beq_eq_false_iff_ne];omega
      have HS2:Hid (scanS false r1=(ds,k,p,c1 :: R1)):=by
       unfold Hid;rw [HSC.out,scan_end p c1 R1 (by rw [← Bool.not_eq_true,isDig_iff];omega) (by omega)];simp
      clear h48 h57
      go_wp2_with fail
      go_meet
      case rel=>exact ⟨u,c1 :: R1,ds,p,k,rfl,rfl,rfl,HU,hown,HS2,hlen,hk,HDG,hb⟩
    ·have g2:decide ((48:Int)≤(c1.toNat:Int))=false:=decide_eq_false (by omega)
     have hnd:isDig c1=false:=by rw [← Bool.not_eq_true,isDig_iff];omega
     by_cases h46:c1=46
     ·subst h46
      cases p
      ·have HS2:Hid (scanS false r1=(ds++(scanS true R1).1,k+(scanS true R1).2.1,(scanS true R1).2.2)):=by
        unfold Hid;rw [HSC.out,scan_stop]
       have g4:(((46:UInt8).toNat:Int) == 46)=true:=rfl
       clear h48 hnd
       go_wp2_with fail
       go_roundw
       case rel=>exact ⟨t1,R1,ds,true,k,rfl,rfl,rfl,HT1,hown,HS2,by omega,hk,HDG,hb⟩
       case measure=>exact HST.out
      ·have HS2:Hid (scanS false r1=(ds,k,true,46 :: R1)):=by
        unfold Hid;rw [HSC.out,scan_end true 46 R1 hnd (by simp)];simp
       have g4:(((46:UInt8).toNat:Int) == 46)=true:=rfl
       clear h48 hnd
       go_wp2_with fail
       go_meet
       case rel=>exact ⟨u,46 :: R1,ds,true,k,rfl,rfl,rfl,HU,hown,HS2,hlen,hk,HDG,hb⟩
     ·have g4:((c1.toNat:Int) == 46)=false:=by
       rw [beq_eq_false_iff_ne]
       intro h
       exact h46 (UInt8.toNat_inj.1 (by rw [show c1.toNat=46 from by omega];rfl))
      have HS2:Hid (scanS false r1=(ds,k,p,c1 :: R1)):=by
       unfold Hid;rw [HSC.out,scan_end p c1 R1 hnd (fun h=>h46 (UInt8.toNat_inj.1 (by rw [h.1];rfl)))];simp
      clear h48 hnd h46
      go_wp2_with fail
      go_meet
      case rel=>exact ⟨u,c1 :: R1,ds,p,k,rfl,rfl,rfl,HU,hown,HS2,hlen,hk,HDG,hb⟩
 case rest =>
  obtain ⟨u,R,ds,p,k,rfl,rfl,rfl,HU,hown,HSC,hlen,hk,HDG,hb⟩:=hcut
  have hpi:=parse_is _ _ r1 ds R k p HSG.out HSC.out
  rw [HP.out] at hpi
  have hxb:=expT_b R
  obtain ⟨X,HX⟩:∃ X,Hid (expT R=X):=⟨_,rfl⟩
  rw [HX.out] at hpi hxb
  obtain ⟨xv,xb,xe⟩:=X
  dsimp only at hpi hxb
  have HPI:=Lib.hid hpi
  have HXB:=Lib.hid hxb
  obtain ⟨AD,cD,rfl,hdc1,hdc2,hdr⟩:=hown.sl
  have hdl2:(ds.map v48).length=ds.length:=List.length_map ..
  rw [hdl2] at hdc1 ⊢
  have hRl:(R.length:Int)≤7000:=by omega
  have hdsl:(ds.length:Int)≤7000:=by omega
  have hdr':=Lib.hid hdr
  have hN0:=hb
  clear hpi hxb hown hdr
  cases ds with
  | nil =>
   have hp:=HPI.out
   rw [if_pos (.inl rfl)] at hp
   subst hp
   go_wp2_with fail
   go_ret2
   exact ⟨rfl,hb⟩
  | cons d0 ds =>
   by_cases hpk:p=true∧k=0
   ·have hp:=HPI.out
    rw [if_pos (.inr hpk)] at hp
    subst hp
    obtain ⟨rfl,rfl⟩:=hpk
    go_wp2_with fail
    go_ret2
    exact ⟨rfl,hb⟩
   ·have hp:=HPI.out
    rw [if_neg (by simp;intro h h2;exact hpk ⟨h,h2⟩)] at hp
    have hpk2:p=false∨(p=true∧((k:Int) == 0)=false):=by
     cases p
     ·exact .inl rfl
     ·refine .inr ⟨rfl,?_⟩
      rw [beq_eq_false_iff_ne]
      intro h
      exact hpk ⟨rfl,by omega⟩
    have HP2:=Lib.hid hp
    clear hp hpk
    rcases hpk2 with rfl | ⟨rfl,hk0⟩
    all_goals
     go_wp2_with fail
     refine (refExponent_any u R _ HU.out (by omega)).mono ?_;rintro e w1 ⟨rfl,hw1⟩
     rw [HX.out]
     dsimp only
     have hN1:=Nx.trans hN0 hw1
     have hp:=HP2.out
     rcases HXB.out.1 with rfl | rfl
     ·rw [if_pos rfl] at hp
      subst hp
      go_wp2_with fail
      go_ret2
      exact ⟨rfl,hN1⟩
     ·rw [if_neg (by decide)] at hp
      by_cases h60:60<(d0 :: ds).length
      ·rw [if_pos h60] at hp
       subst hp
       have b1:decide ((60:Int)<(ds.length:Int)+1)=true:=decide_eq_true (by simp at h60;omega)
       clear h60
       go_wp2_with fail
       go_ret2
       exact ⟨rfl,hN1⟩
      ·rw [if_neg h60] at hp
       have b1:decide ((60:Int)<(ds.length:Int)+1)=false:=decide_eq_false (by simp at h60;omega)
       cases xb
       ·rw [if_neg (by decide)] at hp
        have hxv:=HXB.out.2 rfl rfl
        have HXV:=Lib.hid hxv
        have HP3:=Lib.hid hp
        obtain ⟨L,hL⟩:∃ L,d0 :: ds=L:=⟨_,rfl⟩
        obtain ⟨nl,hnl⟩:∃ nl:Nat,(ds.length:Int)+1=(nl:Int)∧L.length=nl∧nl≤60:=⟨ds.length+1,by omega,by rw [← hL];rfl,by simp at h60;omega⟩
        clear h60 hp hxv
        go_wp2_with fail
        have HDG2:Hid (digs L):=by rw [← hL];exact HDG
        have HRD:Hid (Rd bv w1 AD (L.map v48)):=by rw [← hL];exact hdr'.out.below hw1
        have HVL:Hid (valS L=valS (L.take nl)):=by unfold Hid;rw [List.take_of_length_le (by omega)]
        have hnl1:=hnl.1
        have hnl2:=hnl.2.1
        have hnl3:=hnl.2.2
        have HP4:Hid (P=if numS (valS L) (xv - (k:Int))<LIM then ((if false then 9223372036854775808 else 0)+numS (valS L) (xv - (k:Int)),0) else (0,5)):=by rw [← hL];exact HP3.out
        have hk2:(k:Int)≤60:=by have:=hk;simp at this;omega
        go_loopw [11,12] (fun a v wr=>∃ (n:Nat),v = .int .i64 n∧n≤nl∧IsNum wr a (valS (L.take n))∧Nx w1 wr) (fun _ v _=>(1000 - intOf v).toNat)
        case atStart=>exact ⟨0,rfl,Nat.zero_le _,IsNum.zero _,Nx.refl _⟩
        case round =>
         obtain ⟨n,rfl,hn,hnum,hbr⟩:=hrel
         obtain ⟨Av,lv,cv,rfl⟩:=hnum.sl
         obtain ⟨V,HV⟩:∃ V,Hid (valS (L.take n)=V):=⟨_,rfl⟩
         rw [HV.out] at hnum
         have hVl:V<2 ^ (4 * n):=by
          rw [← HV.out];exact Nat.lt_of_lt_of_le (valS_lt L HDG2.out n (by omega)) (ten_two n)
         by_cases hlt:n<nl
         ·have hnL:n<L.length:=by omega
          obtain ⟨b0,off,hA,hbl,hcell⟩:=(HRD.out.below hbr).at_ (show n<(L.map v48).length by simpa using hnL)
          rw [List.getElem_map] at hcell
          obtain ⟨D,hD⟩:∃ D:Nat,Hid (digV L[n]=D):=⟨digV L[n],rfl⟩
          have hcv:(v48 L[n]).toNat=D:=by rw [v48_toNat,← hD.out];rfl
          unfold bv at hcell
          rw [hcv] at hcell
          have hD9:D≤9:=by
           have:=digV_lt L[n] (HDG2.out _ (List.getElem_mem hnL))
           rw [hD.out] at this;omega
          have HN:Hid (valS (L.take (n+1))=V * 10+D):=by
           unfold Hid;rw [valS_take L n hnL,HV.out,hD.out];omega
          have wr64:IntKind.u64.wrap (D:Int)=(D:Int):=by rw [IntKind.wrap_u64];omega
          have g1:decide ((n:Int)<(ds.length:Int)+1)=true:=decide_eq_true (by omega)
          subst hA
          have q:∀ x:Gr wr,x.1.cell? ⟨b0,off+n,none⟩=some (.int .u8 (D:Int)):=fun x=>by
           rw [← hcell];unfold World.cell?;simp only;rw [x.2.block b0 hbl]
          clear hcell hcv
          go_wp2_with fail
          refine wp_region_hyb [(0,true),(3,true),(4,true),(5,true),(6,true),(7,true),(1,false),(2,false),(8,false),(9,false),(10,true)] rfl (by kernel_rfl) ?_
          iterate 6 (refine hyb_calm rfl (fun K hK=>?_);go_simp;refine hK _ ?_;clear hK K)
          refine hyb_alone rfl (fun w2 hn2 K hK=>?_)
          go_simp
          refine hK _ _ (nx0 w2 _) ?_
          clear hK K
          refine hyb_alone rfl (fun w3 hn3 K hK=>?_)
          go_simp
          have hN3:Nx wr w3:=Nx.trans (Nx.al hn2 _) hn3
          refine (refMul_n _ _ V 10 KB _ ((hnum.below hN3).few hVl (by omega)) ((ten_num w2 _).below hn3) KB_le).mono ?_;rintro e w4 ⟨v4,rfl,hv4,hw4⟩
          refine hK _ _ hw4 ?_
          clear hK K
          refine hyb_alone rfl (fun w5 hn5 K hK=>?_)
          go_simp
          refine (refOf_n D _ (by omega)).mono ?_;rintro e w6 ⟨v6,rfl,hv6,hw6⟩
          refine hK _ _ hw6 ?_
          clear hK K
          refine hyb_alone rfl (fun w7 hn7 K hK=>?_)
          go_simp
          have hv4':=hv4.below (Nx.trans (Nx.trans hn5 hw6) hn7)
          refine (refAdd_n _ _ (V * 10) D KB _ (hv4'.few (show V * 10<2 ^ (4 * n+4) by rw [Nat.pow_add];omega) (by omega)) ((hv6.below hn7).few (show D<2 ^ 4 by omega) (by decide)) KB_le).mono ?_;rintro e w8 ⟨v8,rfl,hv8,hw8⟩
          refine hK _ _ hw8 ?_
          clear hK K
          refine hyb_calm rfl (fun K hK=>?_);go_simp;refine hK _ ?_;clear hK K
          refine hyb_nil (fun w9 hn9=>?_)
          have hN9:Nx w1 w9:=Nx.trans (Nx.trans (Nx.trans (Nx.trans (Nx.trans (Nx.trans (Nx.trans hbr hN3) hw4) hn5) hw6) hn7) hw8) hn9
          clear q
          go_wp2_with fail
          go_roundw
          case rel=>exact ⟨n+1,by go_num,by omega,by rw [HN.out];exact hv8.below hn9,hN9⟩
          case measure=>simp [intOf];omega
         ·obtain rfl:n=nl:=by omega
          have g1:decide ((n:Int)<(ds.length:Int)+1)=false:=decide_eq_false (by omega)
          have hvl:=HVL.out
          rw [HV.out] at hvl
          have HVL2:=Lib.hid hvl
          obtain ⟨kk,hkk⟩:∃ kk:Int,xv - (k:Int)=kk:=⟨_,rfl⟩
          have hkk1 : -460≤kk:=by have:=HXV.out;omega
          have hkk2:kk≤400:=by have:=HXV.out;omega
          obtain ⟨N,hN⟩:∃ N,Hid (numS V kk=N):=⟨_,rfl⟩
          have hP:=HP4.out
          rw [hvl,hkk,hN.out] at hP
          have HP5:=Lib.hid hP
          have hNb:=Nx.trans hN1 hbr
          have hV240:V<2 ^ 240:=Nat.lt_of_lt_of_le hVl (Nat.pow_le_pow_right (by decide) (by omega))
          clear hlt hvl hP
          by_cases hneg:0≤kk
          ·obtain ⟨m,rfl⟩:=Int.eq_ofNat_of_zero_le hneg
           have b2:decide ((0:Int)≤(m:Int))=true:=decide_eq_true hneg
           have hm400:m≤400:=by omega
           have hnn:numS V (m:Int)=near (V * 10 ^ m * 2 ^ tz) 1:=by unfold numS;rw [if_pos hneg,Int.toNat_natCast]
           rw [hN.out] at hnn
           have HNN:=Lib.hid hnn.symm
           clear hnn hneg
           go_wp2_with fail
           refine (refTen_any m _ (by omega)).mono ?_;rintro e w2 ⟨v2,rfl,hv2,hw2⟩
           have hN2:=Nx.trans (nx0 wr (.cells #[.int .u32 1] 95)) hw2
           have hv2n:=hv2.num
           go_wp2_with fail
           refine (refMul_n _ _ V (10 ^ m) KB _ ((hnum.below hN2).few hV240 (by decide)) (hv2n.few (by rw [← Nat.one_mul (10 ^ m)];exact ten_two' 1 1 m (by decide)) (by omega)) KB_le).mono ?_;rintro e w3 ⟨v3,rfl,hv3,hw3⟩
           go_wp2_with fail
           refine (refRound_any _ _ (V * 10 ^ m) 1 _ hv3 (Nat.lt_of_lt_of_le (ten_two' V 240 m hV240) (pow100 _ (by omega))) ((one_num2 wr _).below (Nx.trans hw2 hw3)) (by decide)).mono ?_;rintro e w4 ⟨rfl,hw4⟩
           rw [HNN.out]
           have hNf:=Nx.trans (Nx.trans (Nx.trans hNb hN2) hw3) hw4
           have hP:=HP5.out
           by_cases hlim:N<LIM
           ·rw [if_pos hlim] at hP
            subst hP
            have b3:decide (N<LIM)=true:=decide_eq_true hlim
            have hpk:packV N=N:=by unfold packV;rw [if_pos hlim]
            have hN63:N<9223372036854775808:=by unfold LIM at hlim;omega
            have HO:=Lib.hid (or0 N hN63)
            rw [b3,hpk]
            clear hlim b3 hpk hN63
            go_wp2_with fail
            go_ret2
            refine ⟨?_,hNf⟩
            exact congrArg (fun z=>Ending.returned (Value.tuple #[Value.int .u64 z,Value.int .i64 0])) (HO.out.trans (by simp))
           ·rw [if_neg hlim] at hP
            subst hP
            have b3:decide (N<LIM)=false:=decide_eq_false hlim
            rw [b3]
            clear hlim b3
            go_wp2_with fail
            go_ret2
            exact ⟨rfl,hNf⟩
          ·have b2:decide ((0:Int)≤kk)=false:=decide_eq_false hneg
           obtain ⟨m,hm⟩:∃ m:Nat,-kk=(m:Int):=⟨(-kk).toNat,by omega⟩
           have hm400:m≤460:=by omega
           have hnn:numS V kk=near (V * 2 ^ tz) (10 ^ m):=by unfold numS;rw [if_neg hneg,hm,Int.toNat_natCast]
           rw [hN.out] at hnn
           have HNN:=Lib.hid hnn.symm
           clear hnn hneg
           go_wp2_with fail
           refine (refTen_any m _ (by omega)).mono ?_;rintro e w2 ⟨v2,rfl,hv2,hw2⟩
           have hN2:=Nx.trans (nx0 wr (.cells #[.int .u32 1] 95)) hw2
           have hv2n:=hv2.num
           go_wp2_with fail
           refine (refRound_any _ _ V (10 ^ m) _ (hnum.below hN2) (Nat.lt_of_lt_of_le hV240 (pow100 _ (by decide))) (hv2n.num (Nat.lt_of_lt_of_le (by rw [← Nat.one_mul (10 ^ m)];exact ten_two' 1 1 m (by decide)) (pow100 _ (by omega)))) (Nat.pow_pos (by decide))).mono ?_;rintro e w4 ⟨rfl,hw4⟩
           rw [HNN.out]
           have hNf:=Nx.trans (Nx.trans hNb hN2) hw4
           have hP:=HP5.out
           by_cases hlim:N<LIM
           ·rw [if_pos hlim] at hP
            subst hP
            have b3:decide (N<LIM)=true:=decide_eq_true hlim
            have hpk:packV N=N:=by unfold packV;rw [if_pos hlim]
            have hN63:N<9223372036854775808:=by unfold LIM at hlim;omega
            have HO:=Lib.hid (or0 N hN63)
            rw [b3,hpk]
            clear hlim b3 hpk hN63
            go_wp2_with fail
            go_ret2
            refine ⟨?_,hNf⟩
            exact congrArg (fun z=>Ending.returned (Value.tuple #[Value.int .u64 z,Value.int .i64 0])) (HO.out.trans (by simp))
           ·rw [if_neg hlim] at hP
            subst hP
            have b3:decide (N<LIM)=false:=decide_eq_false hlim
            rw [b3]
            clear hlim b3
            go_wp2_with fail
            go_ret2
            exact ⟨rfl,hNf⟩
       ·rw [if_pos rfl] at hp
        subst hp
        clear h60
        go_wp2_with fail
        go_ret2
        exact ⟨rfl,hN1⟩
theorem refParse_any (s:ByteArray) (l:List UInt8) (w:World) (hl:Tx s l) (hs:(l.length:Int)≤7000) :
  Calls Tryz.prog 66 #[.string s] w fun e w'=>e = .returned (.tuple #[.int .u64 ((parseS l).1:Nat),.int .i64 ((parseS l).2:Nat)])∧Nx w w':=by
 cases l with
 | nil=>exact refParse_nil s w hl hs
 | cons c m =>
  by_cases h1:c.toNat=43
  ·exact refParse_plus s c m h1 w hl hs
  ·by_cases h2:c.toNat=45
   ·exact refParse_minus s c m h2 w hl hs
   ·exact refParse_plain s c m h1 h2 w hl hs
end Go.Proofs.YtjggghfekakogaaGreat
