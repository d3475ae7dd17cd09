/- KinL AlB AlC -/
import Derived.Test.YtpfecpcgdfbekaaGreatDoorR04
import Derived.Test.YtpfecpcgdfbekaaGreatDoorG09
import Derived.Test.YtpfecpcgdfbekaaGreatDoorR01
import Derived.Test.YtpfecpcgdfbekaaGreatDoorG02
import Derived.Test.YtpfecpcgdfbekaaGreatDoorR00
import Derived.Test.YtpfecpcgdfbekaaGreatDoorG27
set_option linter.unusedVariables false
set_option linter.unusedSimpArgs false
set_option linter.unnecessarySimpa false
set_option linter.unusedSectionVars false
namespace Go.Proofs.YtpfecpcgdfbekaaGreatDoor
open Go.RowKit
set_option maxRecDepth 100000 in
set_option maxHeartbeats 6400000 in
theorem show_any (w:World) (k:Int) (n a b:ByteArray) (ln la lb:List UInt8) (hln:Tx n ln) (hla0:Tx a la) (hlb0:Tx b lb) (hk1 : -9223372036854775808≤k) (hk2:k≤9223372036854775807) (ha:(a.size:Int)≤270000) (hb:(b.size:Int)≤270000) (ht:TabK w) :
  Calls Tryz.prog 40 #[.int .i64 k,.string n,.string a,.string b] w fun e w'=>e = .returned (.string (bA (showS k ln la lb)))∧Nx w w':=by
 have HLN:=Lib.hid hln
 have HLA:=Lib.hid hla0
 have HLB:=Lib.hid hlb0
 clear hln hla0 hlb0
 by_cases h0:k=0
 ·subst h0
  rw [show_name,← bA_tx HLN.out]
  go_enter Tryz.func40,Tryz.ntmps40
  go_wp2_with fail
  refine (fresh_any n w).mono ?_;rintro e w' ⟨rfl,hn⟩
  go_wp2_with fail
  go_ret
  exact ⟨rfl,hn⟩
 ·have hb0:(k == 0)=false:=by rw [beq_eq_false_iff_ne];exact h0
  by_cases hr:k<0∨17≤k
  ·rw [show_none k _ _ _ h0 hr]
   clear h0
   by_cases hneg:k<0
   ·clear hr
    go_enter Tryz.func40,Tryz.ntmps40
    go_wp2_with fail
    go_ret
    exact ⟨rfl,Nx.refl _⟩
   ·have h17:17≤k:=by omega
    have hneg':0≤k:=by omega
    clear hr
    go_enter Tryz.func40,Tryz.ntmps40
    go_wp2_with fail
    go_ret
    exact ⟨rfl,Nx.refl _⟩
  ·obtain ⟨K,rfl⟩:∃ K:Nat,k=(K:Int):=⟨k.toNat,by omega⟩
   have hK17:K<17:=by omega
   have hK0:K≠0:=by omega
   have hKI:(K:Int)<17:=by omega
   have hg1:decide ((17:Int)≤(K:Int))=false:=decide_eq_false (by omega)
   have hg0:decide ((K:Int)<0)=false:=decide_eq_false (by omega)
   rw [show_word K _ _ _ hK0 hK17]
   have HK17:=Lib.hid hK17
   have HT:=Lib.hid ht
   clear h0 hr hK0 hK17 ht
   go_enter Tryz.func40,Tryz.ntmps40
   go_wp2_with fail
   refine (signs_any w).mono ?_;rintro e w1 ⟨rfl,hsg,hn1⟩
   obtain ⟨sb,hsb⟩:∃ sb,w.heap.size=sb:=⟨_,rfl⟩
   rw [hsb] at hsg ⊢
   have HSB:=Lib.hid hsb
   have hsl:sb<w1.heap.size:=by
    obtain ⟨es,c,h,-⟩:=hsg
    exact (Array.getElem?_eq_some_iff.1 h).1
   obtain ⟨g,hg⟩:∃ g,w1.heap.size=g:=⟨_,rfl⟩
   have hB2:=Blk.new w1 #[.string a,.string b] 130
   rw [hg] at hB2
   have hN2:=(Nx.refl w1).al (.cells #[.string a,.string b] 130)
   have HG:=Lib.hid hg
   have HSL:=Lib.hid hsl
   have HN2:Hid (Nx w (w1.alloc (.cells #[.string a,.string b] 130))):=hn1.trans hN2
   have HSG2:Hid (Sg (w1.alloc (.cells #[.string a,.string b] 130)) sb):=by
    obtain ⟨es,c,h,h1,h2⟩:=hsg
    exact ⟨es,c,by rw [hN2.block sb hsl];exact h,h1,h2⟩
   have HB2:=Lib.hid hB2
   have hc:(w1.alloc (.cells #[.string a,.string b] 130)).cell? ⟨0,K,none⟩=some (.string (kwB K)):=by
    obtain ⟨t,fr,h⟩:=HT.out.nx HN2.out
    unfold World.cell?
    simp only [h]
    exact kwV_at K HK17.out
   have hfz:∀ x:Nat,x<17→True:=fun _ _=>trivial
   clear hsg hn1 hsb hsl hB2 hN2 hfz
   have HWL:Hid ((wordK K).length≤maxLen):=by
    unfold Hid wordK maxLen
    repeat' split
    all_goals decide
   go_wp2_with (refine wpList_bytesB _ (o:=⟨some 32,_,_,_,_,_⟩) rfl _ rfl Tryz.underlying9 Tryz.underlying22 Tryz.underlying5 (kwB K) (wordK K) (Tx.of _) rfl HWL.out ?_;intro v3 w3 hown3 hn3;have HOW3:=Lib.hid hown3;have HN3:=Lib.hid hn3;clear hown3 hn3 hc)
   obtain ⟨w2,hw2⟩:∃ w2,w1.alloc (.cells #[.string a,.string b] 130)=w2:=⟨_,rfl⟩
   rw [hw2] at HN2 HSG2 HB2 HOW3 HN3
   clear hw2
   have hst:stopN K≤3:=by unfold stopN;split <;> (try split) <;> omega
   have HST:=Lib.hid hst
   clear hst
   go_loopw [11,12] (fun ov iv wr=>∃ i:Nat,iv = .int .i64 (i:Int)∧i≤stopN K∧OwnB wr w2.heap.size ov (wordK K++prefS K la lb i)∧Nx w2 wr) (fun _ iv _=>5 - (intOf iv).toNat)
   case atStart=>exact ⟨0,rfl,Nat.zero_le _,by rw [show prefS K la lb 0=[] from rfl,List.append_nil];exact HOW3.out,HN3.out⟩
   case round =>
    obtain ⟨i,rfl,hi,hown,hnx⟩:=hrel
    have HOW:=Lib.hid hown
    have HNX:=Lib.hid hnx
    have HI:=Lib.hid hi
    have hi3:i<4:=by have:=HST.out;omega
    have HSGr:Hid (Sg wr sb):=by
     obtain ⟨es,c,h,h1,h2⟩:=HSG2.out
     exact ⟨es,c,by rw [hnx.block sb (Array.getElem?_eq_some_iff.1 h).1];exact h,h1,h2⟩
    have hiI:(i:Int)≤3:=by omega
    clear hown hnx
    by_cases hlt:i<stopN K
    ·obtain ⟨x,hx,hx3,hxe,hxn⟩:=sign_before K i hlt
     have hlk:=look_at HSGr.out K i HK17.out hi3 (i:Int) rfl _ hx (x.toNat:Int) rfl true rfl
     have HOWa:=Lib.hid (HOW.out.nx (nx0 wr (.cells #[.int .u8 (x.toNat:Int)] 5)))
     have HSRC:=Lib.hid (src_one Tryz.prog wr 22 5 5 x Tryz.underlying22)
     have hpl:=pref_len K la lb i
     have hwl:=word_len K
     have hlas:=HLA.out.size
     have hlbs:=HLB.out.size
     have h63:((wordK K++prefS K la lb i).length:Int)+(([x]:List UInt8).length:Int)≤1000000:=by rw [List.length_append];simp;omega
     have HB5:Hid (w2.heap.size≤(wr.alloc (.cells #[.int .u8 (x.toNat:Int)] 5)).heap.size):=Nat.le_trans HNX.out.size (nx0 wr _).size
     have HXE:=Lib.hid hxe
     have HXN:=Lib.hid hxn
     have HHI:Hid (i<stopN K):=hlt
     clear hx hx3 hxe hxn hpl hwl hlas hlbs hlt hi
     by_cases h62:x=62
     ·have hb62:((x.toNat:Int) != 62)=false:=by rw [h62];rfl
      have HX:=Lib.hid h62
      clear h62
      go_wp2_with (refine wpList_appB _ (o:=⟨some 50,_,_,_,_,_⟩) rfl _ _ _ _ 5 rfl Tryz.underlying22 info_u8 w2.heap.size u11 _ [x] rfl HOWa.out _ rfl HSRC.out h63 HB5.out ?_;intro v4 w4 hown4 hgb4;have HOW4:=Lib.hid hown4;have HGB4:=Lib.hid hgb4;clear hown4 hgb4)
      have hnx4:Nx w2 w4:=HGB4.out.to (HNX.out.trans (nx0 wr _)) (fun k e=>(HOW.out.own k e).1)
      have hh:i<stopN K:=HHI.out
      refine ⟨⟨i+1,by go_num,hh,?_,hnx4⟩,by simp [intOf];omega⟩
      have h1:=HOW4.out
      rw [HXE.out HX.out la lb,← List.append_assoc]
      rw [HX.out] at h1
      exact h1
     ·have hb62:((x.toNat:Int) != 62)=true:=by
       rw [bne_iff_ne]
       intro h
       exact h62 (UInt8.toNat_inj.1 (by have:(62:UInt8).toNat=62:=rfl;omega))
      obtain ⟨hi2,hpre⟩:=HXN.out h62
      have HPRE:=Lib.hid hpre
      obtain ⟨y,hy⟩:∃ y,Hid ((if i=0 then a else b)=y):=⟨_,rfl⟩
      obtain ⟨ly,hly⟩:∃ ly,Hid ((if i=0 then la else lb)=ly):=⟨_,rfl⟩
      have HTY:Hid (Tx y ly):=by
       unfold Hid
       rw [← hy.out,← hly.out]
       split
       ·exact HLA.out
       ·exact HLB.out
      have hys:ly.length≤270000:=by
       rw [← HTY.out.size,← hy.out]
       split <;> omega
      have hcy:w2.cell? ⟨g,i,none⟩=some (.string y):=by
       rcases (show i=0∨i=1 by omega) with rfl | rfl
       ·rw [← hy.out,if_pos rfl];exact HB2.out.cell 0
       ·rw [← hy.out,if_neg (by decide)];exact HB2.out.cell 1
      have HCY:=Lib.hid hcy
      have hgw:g<w2.heap.size:=HB2.out.lt
      have HGW:=Lib.hid hgw
      have hi2I:(i:Int)<2:=by omega
      have hlas:=HLA.out.size
      have hlbs:=HLB.out.size
      have hpl:=pref_len K la lb i
      have hwl:=word_len K
      have HL2:Hid (((wordK K++prefS K la lb i++[x]).length:Int)+(ly.length:Int)≤1000000):=by unfold Hid;rw [List.length_append,List.length_append];simp;omega
      clear h62 hi2 hpre hcy hgw hys hlas hlbs hpl hwl
      go_wp2_with (first
       | (refine wpList_appB _ (o:=⟨some 50,_,_,_,_,_⟩) rfl _ _ _ _ 5 rfl Tryz.underlying22 info_u8 w2.heap.size u11 _ [x] rfl HOWa.out _ rfl HSRC.out h63 HB5.out ?_;intro v4 w4 hown4 hgb4;have HOW4:=Lib.hid hown4;have HNX4:Hid (Nx w2 w4):=hgb4.to (HNX.out.trans (nx0 wr _)) (fun k e=>(HOW.out.own k e).1);have hcy:w4.cell? ⟨g,i,none⟩=some (.string y):=(HNX4.out.cell (p:=⟨g,i,none⟩) HGW.out).trans HCY.out;have HB6:=Lib.hid HNX4.out.size;have HSRC2:=Lib.hid (src_str Tryz.prog w4 9 y ly HTY.out Tryz.underlying9);clear hown4 hgb4)
       | (refine wpList_appB _ (o:=⟨some 57,_,_,_,_,_⟩) rfl _ _ _ _ 5 rfl Tryz.underlying22 info_u8 w2.heap.size v4 _ ly rfl HOW4.out _ rfl HSRC2.out HL2.out HB6.out ?_;intro v5 w5 hown5 hgb5;have HOW5:=Lib.hid hown5;have HGB5:=Lib.hid hgb5;clear hown5 hgb5 hcy))
      have hnx5:Nx w2 w5:=HGB5.out.to HNX4.out (fun k e=>(HOW4.out.own k e).1)
      have hh:i<stopN K:=HHI.out
      refine ⟨⟨i+1,by go_num,hh,?_,hnx5⟩,by simp [intOf];omega⟩
      have h1:=HOW5.out
      rw [HPRE.out la lb,hly.out]
      have e2:wordK K++prefS K la lb i++[x]++ly=wordK K++(prefS K la lb i++x :: ly):=by simp
      rw [e2] at h1
      exact h1
    ·obtain rfl:i=stopN K:=by omega
     have hlk:=look_at HSGr.out K (stopN K) HK17.out hi3 (stopN K:Int) rfl _ (sign_stop K) 0 rfl false rfl
     obtain ⟨g',c',hv,hrd⟩:=HOW.out.rd
     rw [pref_stop] at hv hrd
     have HRD:=Lib.hid hrd
     subst hv
     clear hrd hlt hi
     go_wp2_with (refine wpList_str _ (o:=⟨some 46,_,_,_,_,_⟩) rfl _ rfl Tryz.underlying22 Tryz.underlying5 Tryz.underlying9 _ _ _ rfl HRD.out ?_;intro t HT ht1 ht2)
     go_ret
     rw [HT.out]
     exact ⟨rfl,HN2.out.trans HNX.out⟩
end Go.Proofs.YtpfecpcgdfbekaaGreatDoor
namespace Go.Proofs.YtpfecpcgdfbekaaGreatDoor
open Go.RowKit
theorem results_c_t {P:Program} {fn:Func} {p a:Tmp} {ty:TypeId} (h:fn.results=#[.cell p ty,.tmp a]) (tmps:Array Value) (w:World) (g:Nat) (t:TypeId) (cs:Array Value) (fr:Nat×Nat) (d:TypeDesc)
  (hp:tmps.getD p undef = .pointer (some ⟨g,0,none⟩)) (hg:w.heap[g]? = some (.cells cs t fr))
  (hu:P.underlying ty=some d) (hd:(match d with | .struct _ | .array _ _=>true | _=>false)=true) (hi:(P.info? ty).map (·.size)=some cs.size) :
  (results fn tmps).run P w = .ok (.tuple #[.agg cs,tmps.getD a undef]) w:=by
 have hp':tmps[p]?.getD undef = .pointer (some ⟨g,0,none⟩):=by simpa using hp
 simp [results,h,hp',asAddr,run_loadVar_row w g t ty cs fr d hg hu hd hi]
def rsL (r:Rs):List Value:=[.string ⟨r.tx.toArray⟩,.int .i64 (r.k:Int),.int .i64 (r.d:Int)]
set_option maxRecDepth 100000 in
set_option maxHeartbeats 3200000 in
theorem around_any (w:World) (k:Nat) (a b:Rs) (hk:k≤100) (ha:rsB a=true) (hb:rsB b=true) (ht:TabK w) :
  Calls Tryz.prog 59 #[.int .i64 (k:Int),.agg (rsL a).toArray,.agg (rsL b).toArray] w fun e w'=>e = .returned (.agg (rsL (aroP k a b)).toArray)∧Nx w w':=by
 obtain ⟨ta,ka,da⟩:=a
 obtain ⟨tb,kb,db⟩:=b
 simp only [rsB,Bool.and_eq_true,decide_eq_true_eq] at ha hb
 obtain ⟨⟨ha1,ha2⟩,ha3⟩:=ha
 obtain ⟨⟨hb1,hb2⟩,hb3⟩:=hb
 obtain ⟨M,hM⟩:∃ M,max da db=M:=⟨_,rfl⟩
 have hMi:max (da:Int) (db:Int)=(M:Int):=by omega
 have hMj:(if (da:Int)<(db:Int) then (db:Int) else (da:Int))=(M:Int):=by split <;> omega
 have hMb:M≤100000:=by omega
 have HT:=Lib.hid ht
 obtain ⟨D,hD⟩:∃ D:Nat,1+M=D:=⟨_,rfl⟩
 have hDi:(1:Int)+(M:Int)=(D:Int):=by omega
 have hDb:D≤100001:=by omega
 have HA1:=Lib.hid ha1
 have HB1:=Lib.hid hb1
 obtain ⟨g1,hg1⟩:∃ g,w.heap.size=g:=⟨_,rfl⟩
 obtain ⟨g2,hg2⟩:∃ g,g1+1=g:=⟨_,rfl⟩
 obtain ⟨g3,hg3⟩:∃ g,g2+1=g:=⟨_,rfl⟩
 obtain ⟨g4,hg4⟩:∃ g,g3+1=g:=⟨_,rfl⟩
 obtain ⟨w1,hw⟩:∃ w1,((w.alloc (.cells #[.string ⟨ta.toArray⟩,.int .i64 (ka:Int),.int .i64 (da:Int)] 82)).alloc (.cells #[.string ⟨tb.toArray⟩,.int .i64 (kb:Int),.int .i64 (db:Int)] 82)).alloc (.cells #[.string ⟨#[]⟩,.int .i64 0,.int .i64 0] 82)=w1:=⟨_,rfl⟩
 have hs1:(w.alloc (.cells #[.string ⟨ta.toArray⟩,.int .i64 (ka:Int),.int .i64 (da:Int)] 82)).heap.size=g2:=by simp;omega
 have hs2:((w.alloc (.cells #[.string ⟨ta.toArray⟩,.int .i64 (ka:Int),.int .i64 (da:Int)] 82)).alloc (.cells #[.string ⟨tb.toArray⟩,.int .i64 (kb:Int),.int .i64 (db:Int)] 82)).heap.size=g3:=by simp;omega
 have HBA:Hid (Blk w1 g1 g1 #[.string ⟨ta.toArray⟩,.int .i64 (ka:Int),.int .i64 (da:Int)] 82):=by unfold Hid;rw [← hw,← hg1];exact ((Blk.new w _ _).alloc _).alloc _
 have HBQ:Hid (Blk w1 g2 g2 #[.string ⟨tb.toArray⟩,.int .i64 (kb:Int),.int .i64 (db:Int)] 82):=by unfold Hid;rw [← hw,← hs1];exact (Blk.new _ _ _).alloc _
 have HBR:Hid (Blk w1 g3 g3 #[.string ⟨#[]⟩,.int .i64 0,.int .i64 0] 82):=by unfold Hid;rw [← hw,← hs2];exact Blk.new _ _ _
 have HN1:Hid (Nx w w1):=by unfold Hid;rw [← hw];exact Nx.al (Nx.al (nx0 w _) _) _
 have hz1:w1.heap.size=g4:=by rw [← hw];simp;omega
 have HSZ:Hid (w.heap.size=g1):=hg1
 have HRD:Hid ((if D≤12 then showS k [] ta tb else [])=(aroP k ⟨ta,ka,da⟩ ⟨tb,kb,db⟩).tx∧(aroP k ⟨ta,ka,da⟩ ⟨tb,kb,db⟩).k=k∧(aroP k ⟨ta,ka,da⟩ ⟨tb,kb,db⟩).d=D):=by
  unfold Hid aroP;dsimp only;rw [hM,hD];exact ⟨rfl,rfl,rfl⟩
 obtain ⟨w2,hw2⟩:∃ w2,w1.alloc (.cells #[.string ⟨#[]⟩,.int .i64 (k:Int),.int .i64 (D:Int)] 82)=w2:=⟨_,rfl⟩
 have hb4:Blk w2 g4 g4 #[.string ⟨#[]⟩,.int .i64 (k:Int),.int .i64 (D:Int)] 82:=by rw [← hw2,← hz1];exact Blk.new w1 _ _
 have hn2:Nx w1 w2:=by rw [← hw2];exact nx0 _ _
 have HB4:=Lib.hid hb4
 have hba:=HBA.out.below hn2
 have hbb:=HBQ.out.below hn2
 have HBA2:=Lib.hid hba
 have HBB2:=Lib.hid hbb
 have HBR2:=Lib.hid (HBR.out.below hn2)
 have HN2:=Lib.hid (HN1.out.trans hn2)
 have HG:Hid (g1<g2∧g2<g3∧g3<g4):=by unfold Hid;omega
 have d34:¬ g3=g4:=by omega
 have d43:¬ g4=g3:=by omega
 clear hD hM ha1 hb1 ht hs1 hs2 hn2 hb4
 show Calls _ _ #[.int .i64 (k:Int),.agg #[.string ⟨ta.toArray⟩,.int .i64 (ka:Int),.int .i64 (da:Int)] ,.agg #[.string ⟨tb.toArray⟩,.int .i64 (kb:Int),.int .i64 (db:Int)] ] _ _
 go_enter Tryz.func59,Tryz.ntmps59
 go_upto_region 1 with (fail)
 try rw [hw]
 clear hw hg1 hg2 hg3 hg4
 have xa:w1.cell? ⟨g1,2,none⟩=some (.int .i64 (da:Int)):=HBA.out.cell 2
 have xb:w1.cell? ⟨g2,2,none⟩=some (.int .i64 (db:Int)):=HBQ.out.cell 2
 have y2:w2.cell? ⟨g4,2,none⟩=some (.int .i64 (D:Int)):=HB4.out.cell 2
 have y0:w2.cell? ⟨g4,0,none⟩=some (.string ⟨#[]⟩):=HB4.out.cell 0
 have y1:w2.cell? ⟨g4,1,none⟩=some (.int .i64 (k:Int)):=HB4.out.cell 1
 have za:w2.cell? ⟨g1,0,none⟩=some (.string ⟨ta.toArray⟩):=hba.cell 0
 have zb:w2.cell? ⟨g2,0,none⟩=some (.string ⟨tb.toArray⟩):=hbb.cell 0
 have r0:=HBR2.out.free 0
 have r1:=HBR2.out.free 1
 have r2:=HBR2.out.free 2
 have z0:w2.cell? ⟨g3,0,none⟩=some (.string ⟨#[]⟩):=HBR2.out.cell 0
 have z1:w2.cell? ⟨g3,1,none⟩=some (.int .i64 0):=HBR2.out.cell 1
 have z2:w2.cell? ⟨g3,2,none⟩=some (.int .i64 0):=HBR2.out.cell 2
 clear hba hbb
 by_cases hd:D≤12
 ·have q1:decide ((D:Int)≤12)=true:=decide_eq_true (by omega)
  have q2:(D:Int)≤12:=by omega
  have HR1:=HRD.out
  rw [if_pos hd] at HR1
  have HRD:=Lib.hid HR1
  have HSH:=Lib.hid (show_any w2 (k:Int) ⟨#[]⟩ ⟨ta.toArray⟩ ⟨tb.toArray⟩ [] ta tb (Tx.of []) (Tx.of ta) (Tx.of tb) (by omega) (by omega) (by simp [ByteArray.size];have:=HA1.out;omega) (by simp [ByteArray.size];have:=HB1.out;omega) (HT.out.nx HN2.out))
  clear hd HR1
  go_wp2_with fail
  refine HSH.out.mono ?_;rintro e w3 ⟨rfl,hn3⟩
  dsimp only [bA]
  have HN3:=Lib.hid (HN2.out.trans hn3)
  have HB5:=Lib.hid (HB4.out.below hn3)
  have HR3:=Lib.hid (HBR2.out.below hn3)
  have b0:w3.cell? ⟨g4,0,none⟩=some (.string ⟨#[]⟩):=HB5.out.cell 0
  have b1:w3.cell? ⟨g4,1,none⟩=some (.int .i64 (k:Int)):=HB5.out.cell 1
  have b2:w3.cell? ⟨g4,2,none⟩=some (.int .i64 (D:Int)):=HB5.out.cell 2
  have f0:=HB5.out.free 0
  have u0:=HR3.out.free 0
  have u1:=HR3.out.free 1
  have u2:=HR3.out.free 2
  have v0:w3.cell? ⟨g3,0,none⟩=some (.string ⟨#[]⟩):=HR3.out.cell 0
  have v1:w3.cell? ⟨g3,1,none⟩=some (.int .i64 0):=HR3.out.cell 1
  have v2:w3.cell? ⟨g3,2,none⟩=some (.int .i64 0):=HR3.out.cell 2
  clear y0 y1 y2 z0 z1 z2 r0 r1 r2 hn3 za zb
  go_wp2_with fail
  refine bodyPost_ret (results_cell_row rfl _ _ g3 _ _ _ _ rfl ((HR3.out.other d43 0 (.string ⟨(showS (k:Int) [] ta tb).toArray⟩)).putAll [.string ⟨(showS (k:Int) [] ta tb).toArray⟩,.int .i64 (k:Int),.int .i64 (D:Int)] rfl).2 (Tryz.underlying82) rfl (by kernel_rfl)) rfl ?_
  obtain ⟨e1,e2,e3⟩:=HRD.out
  refine ⟨?_,(HN3.out.put' (show w.heap.size≤g4 by have:=HG.out;have:=HSZ.out;omega) 0 _).puts (show w.heap.size≤g3 by have:=HG.out;have:=HSZ.out;omega) [.string ⟨(showS (k:Int) [] ta tb).toArray⟩,.int .i64 (k:Int),.int .i64 (D:Int)] 0⟩
  unfold rsL
  rw [← e1,e2,e3]
 ·have q1:decide ((D:Int)≤12)=false:=decide_eq_false (by omega)
  have q2:¬ (D:Int)≤12:=by omega
  have HR1:=HRD.out
  rw [if_neg hd] at HR1
  have HRE:=Lib.hid HR1
  clear hd HR1 HRD
  go_wp2_with fail
  refine bodyPost_ret (results_cell_row rfl _ _ g3 _ _ _ _ rfl (HBR2.out.putAll [.string ⟨#[]⟩,.int .i64 (k:Int),.int .i64 (D:Int)] rfl).2 (Tryz.underlying82) rfl (by kernel_rfl)) rfl ?_
  obtain ⟨e1,e2,e3⟩:=HRE.out
  refine ⟨?_,HN2.out.puts (show w.heap.size≤g3 by have:=HG.out;have:=HSZ.out;omega) [.string ⟨#[]⟩,.int .i64 (k:Int),.int .i64 (D:Int)] 0⟩
  unfold rsL
  rw [← e1,e2,e3]
end Go.Proofs.YtpfecpcgdfbekaaGreatDoor
namespace Go.Proofs.YtpfecpcgdfbekaaGreatDoor
open Go.RowKit
structure AlS (W w:World) (gm:Nat) (vis:Vis):Prop where
 nx:Nx W w
 ge:W.heap.size≤gm
 mp:MpG kvA vvA okA w gm vis
theorem AlS.on {W w w':World} {gm:Nat} {vis:Vis} (h:AlS W w gm vis) (hn:Nx w w'):AlS W w' gm vis:=⟨h.nx.trans hn,h.ge,h.mp.nx hn⟩
theorem AlS.oth {W w w':World} {gm:Nat} {vis vis':Vis} (h:AlS W w gm vis) (ho:Oth gm w w') (hm:MpG kvA vvA okA w' gm vis'):AlS W w' gm vis':=⟨ho.to h.nx h.ge,h.ge,hm⟩
theorem MpG.put3 {X:World} {gm g:Nat} {vis:Vis} (h:MpG kvA vvA okA X gm vis) (hne:gm≠g) (a b c:Value):MpG kvA vvA okA (wputs X g 0 [a,b,c]) gm vis :=
 h.keep (((((Oth.refl g X).own (i:=0) (v:=a)).own (i:=1) (v:=b)).own (i:=2) (v:=c)).block gm h.lt hne)
theorem setBlock_oth2 (w:World) (g:Nat) (o:Obj):Oth g w (ChangeMaps.setBlock w g o):=⟨rfl,rfl,rfl,by simp [ChangeMaps.setBlock],fun k _ hk=>setBlock_keep hk⟩
def AlR (gm:Nat) (A:Alo) (w:World) (e:Ending) (w':World):Prop:=e = .returned (.tuple #[.agg (rsL A.r).toArray,.int .i64 (A.e:Int)])∧Oth gm w w'∧MpG kvA vvA okA w' gm A.vis
def AlC (W:World) (nA fA:Option Addr) (n nc fc gm:Nat) (rec:Vis→List UInt8→List UInt8→Alo):Prop:=∀ (w:World) (vis:Vis) (file t:List UInt8),AlS W w gm vis→(rec vis file t).e≠99 →
 Calls Tryz.prog 22 #[.agg #[.slice nA n nc,.slice fA n fc,.map (some gm)],.string ⟨file.toArray⟩,.string ⟨t.toArray⟩] w (AlR gm (rec vis file t) w)
set_option maxRecDepth 100000 in
set_option maxHeartbeats 3200000 in
theorem typedef_any {W:World} {nA fA:Option Addr} {n nc fc gm:Nat} {rec:Vis→List UInt8→List UInt8→Alo} (hr:AlC W nA fA n nc fc gm rec) (w:World) (vis:Vis) (ks kt t:List UInt8) (hs:AlS W w gm vis) (hk:okA (ks,kt)) (h99:(typW rec vis (ks,kt) t).e≠99) :
  Calls Tryz.prog 58 #[.agg #[.slice nA n nc,.slice fA n fc,.map (some gm)],.agg #[.string ⟨ks.toArray⟩,.string ⟨kt.toArray⟩],.string ⟨t.toArray⟩] w (AlR gm (typW rec vis (ks,kt) t) w):=by
 have HR:=Lib.hid hr
 have HS:=Lib.hid hs
 have HK:=Lib.hid hk
 have H99:=Lib.hid h99
 obtain ⟨g1,hg1⟩:∃ g,w.heap.size=g:=⟨_,rfl⟩
 obtain ⟨g2,hg2⟩:∃ g,g1+1=g:=⟨_,rfl⟩
 obtain ⟨g3,hg3⟩:∃ g,g2+1=g:=⟨_,rfl⟩
 obtain ⟨g4,hg4⟩:∃ g,g3+1=g:=⟨_,rfl⟩
 obtain ⟨w1,hw⟩:∃ w1,((w.alloc (.cells #[.slice nA n nc,.slice fA n fc,.map (some gm)] 80)).alloc (.cells #[.string ⟨ks.toArray⟩,.string ⟨kt.toArray⟩] 139)).alloc (.cells #[.string ⟨#[]⟩,.int .i64 0,.int .i64 0] 82)=w1:=⟨_,rfl⟩
 have hs1:(w.alloc (.cells #[.slice nA n nc,.slice fA n fc,.map (some gm)] 80)).heap.size=g2:=by simp;omega
 have hs2:((w.alloc (.cells #[.slice nA n nc,.slice fA n fc,.map (some gm)] 80)).alloc (.cells #[.string ⟨ks.toArray⟩,.string ⟨kt.toArray⟩] 139)).heap.size=g3:=by simp;omega
 have hba:Blk w1 g1 g1 #[.slice nA n nc,.slice fA n fc,.map (some gm)] 80:=by rw [← hw,← hg1];exact ((Blk.new w _ _).alloc _).alloc _
 have hbk:Blk w1 g2 g2 #[.string ⟨ks.toArray⟩,.string ⟨kt.toArray⟩] 139:=by rw [← hw,← hs1];exact (Blk.new _ _ _).alloc _
 have hbr:Blk w1 g3 g3 #[.string ⟨#[]⟩,.int .i64 0,.int .i64 0] 82:=by rw [← hw,← hs2];exact Blk.new _ _ _
 have hn1:Nx w w1:=by rw [← hw];exact Nx.al (Nx.al (nx0 w _) _) _
 have hz1:w1.heap.size=g4:=by rw [← hw];simp;omega
 have hlt:gm<g1:=by rw [← hg1];exact hs.mp.lt
 have HG:Hid (w.heap.size=g1∧gm<g1∧g1<g2∧g2<g3∧g3<g4):=by unfold Hid;omega
 have hm1:=hs.mp.nx hn1
 have hlk:=(mapA.look hm1 (ks,kt) hk).2
 obtain ⟨G,hG⟩:∃ G,getG vis (ks,kt)=G:=⟨_,rfl⟩
 have HGE:=Lib.hid hG
 rw [hG] at hlk
 obtain ⟨V,hV⟩:∃ V,G.getD vi0=V:=⟨_,rfl⟩
 obtain ⟨B,hB⟩:∃ B,G.isSome=B:=⟨_,rfl⟩
 rw [hV,hB] at hlk
 obtain ⟨Ven,⟨Vt,Vk,Vd⟩⟩:=V
 unfold kvA vvA bt at hlk
 dsimp only at hlk
 obtain ⟨w2,hw2⟩:∃ w2,w1.alloc (.cells #[.bool Ven,.string ⟨Vt.toArray⟩,.int .i64 (Vk:Int),.int .i64 (Vd:Int)] 169)=w2:=⟨_,rfl⟩
 have hb4:Blk w2 g4 g4 #[.bool Ven,.string ⟨Vt.toArray⟩,.int .i64 (Vk:Int),.int .i64 (Vd:Int)] 169:=by rw [← hw2,← hz1];exact Blk.new w1 _ _
 have hn2:Nx w1 w2:=by rw [← hw2];exact nx0 _ _
 have HN2:=Lib.hid (hn1.trans hn2)
 have HBA:=Lib.hid (hba.below hn2)
 have HBK:=Lib.hid (hbk.below hn2)
 have HBR:=Lib.hid (hbr.below hn2)
 have HM2:=Lib.hid (hm1.nx hn2)
 have a2:w1.cell? ⟨g1,2,none⟩=some (.map (some gm)):=hba.cell 2
 have k0:w1.cell? ⟨g2,0,none⟩=some (.string ⟨ks.toArray⟩):=hbk.cell 0
 have k1:w1.cell? ⟨g2,1,none⟩=some (.string ⟨kt.toArray⟩):=hbk.cell 1
 have v0:w2.cell? ⟨g4,0,none⟩=some (.bool Ven):=hb4.cell 0
 have v1:w2.cell? ⟨g4,1,none⟩=some (.string ⟨Vt.toArray⟩):=hb4.cell 1
 have v2:w2.cell? ⟨g4,2,none⟩=some (.int .i64 (Vk:Int)):=hb4.cell 2
 have v3:w2.cell? ⟨g4,3,none⟩=some (.int .i64 (Vd:Int)):=hb4.cell 3
 have r0:w2.cell? ⟨g3,0,none⟩=some (.string ⟨#[]⟩):=HBR.out.cell 0
 have r1:w2.cell? ⟨g3,1,none⟩=some (.int .i64 0):=HBR.out.cell 1
 have r2:w2.cell? ⟨g3,2,none⟩=some (.int .i64 0):=HBR.out.cell 2
 have f0:=HBR.out.free 0
 have f1:=HBR.out.free 1
 have f2:=HBR.out.free 2
 have HV:=Lib.hid hV
 have HB:=Lib.hid hB
 clear hr hs hk h99 hs1 hs2 hba hbk hbr hlt hm1 hG hV hB hb4 hn1 hn2
 go_enter Tryz.func58,Tryz.ntmps58
 go_upto_region 1 with (fail)
 try rw [hw]
 clear hw hg1 hg2 hg3 hg4
 cases G with
 | some v =>
  obtain rfl:v=⟨Ven,⟨Vt,Vk,Vd⟩⟩:=HV.out
  obtain rfl:true=B:=HB.out
  cases Ven with
  | true =>
   have HA:Hid (typW rec vis (ks,kt) t=⟨0,⟨Vt,Vk,Vd⟩,vis⟩):=by unfold Hid typW;rw [HGE.out];rfl
   go_wp2_with fail
   refine bodyPost_ret (results_c_t rfl _ _ g3 _ _ _ _ rfl (HBR.out.putAll [.string ⟨Vt.toArray⟩,.int .i64 (Vk:Int),.int .i64 (Vd:Int)] rfl).2 (Tryz.underlying82) rfl (by kernel_rfl)) rfl ?_
   have HG:=HG.out
   show AlR _ _ _ _ _
   rw [HA.out]
   exact ⟨rfl,(Oth.nx HN2.out).puts (by omega) [.string ⟨Vt.toArray⟩,.int .i64 (Vk:Int),.int .i64 (Vd:Int)] 0,HM2.out.put3 (g:=g3) (by omega) _ _ _⟩
  | false =>
   have HA:Hid (typW rec vis (ks,kt) t=noAl 9 vis):=by unfold Hid typW;rw [HGE.out];rfl
   go_wp2_with fail
   refine bodyPost_ret (results_c_t rfl _ _ g3 _ _ _ _ rfl (HBR.out.putAll [.string ⟨#[]⟩,.int .i64 0,.int .i64 0] rfl).2 (Tryz.underlying82) rfl (by kernel_rfl)) rfl ?_
   have HG:=HG.out
   show AlR _ _ _ _ _
   rw [HA.out]
   exact ⟨rfl,(Oth.nx HN2.out).puts (by omega) [.string ⟨#[]⟩,.int .i64 0,.int .i64 0] 0,HM2.out.put3 (g:=g3) (by omega) _ _ _⟩
 | none =>
  obtain ⟨rfl,rfl,rfl,rfl⟩:false=Ven∧[]=Vt∧0=Vk∧0=Vd:=by have:=HV.out;unfold vi0 rs0 at this;simpa using this
  obtain rfl:false=B:=HB.out
  have HW2:Hid (w1.alloc (.cells #[.bool false,.string ⟨#[]⟩,.int .i64 0,.int .i64 0] 169)=w2):=hw2
  clear hw2
  go_upto_region 2 with (fail)
  rw [HW2.out]
  replace v1:w2.cell? ⟨g4,1,none⟩=some (.string ⟨#[]⟩):=v1
  replace v2:w2.cell? ⟨g4,2,none⟩=some (.int .i64 0):=v2
  replace v3:w2.cell? ⟨g4,3,none⟩=some (.int .i64 0):=v3
  obtain ⟨A,hA⟩:∃ A,rec (putG vis (ks,kt) vi0) ks t=A:=⟨_,rfl⟩
  have HT:Hid (typW rec vis (ks,kt) t=if A.e≠0 then A else ⟨0,A.r,putG A.vis (ks,kt) ⟨true,A.r⟩⟩):=by unfold Hid typW;rw [HGE.out];dsimp only;rw [hA]
  have H9A:Hid (A.e≠99):=by
   unfold Hid;have h:=H99.out;rw [HT.out] at h
   by_cases h0:A.e=0
   ·rw [h0];decide
   ·rw [if_pos h0] at h;exact h
  obtain ⟨o,hpr,hpm⟩:=mapA.put HM2.out (ks,kt) vi0 HK.out
  obtain ⟨w3,hw3⟩:∃ x,ChangeMaps.setBlock w2 gm o=x:=⟨_,rfl⟩
  have ho3:Oth gm w2 w3:=hw3 ▸ setBlock_oth2 w2 gm o
  rw [hw3] at hpr hpm
  replace hpr:(Instr.mapUpdate 78 (.map (some gm)) (.agg #[.string ⟨ks.toArray⟩,.string ⟨kt.toArray⟩]) (.agg #[.bool false,.string ⟨#[]⟩,.int .i64 0,.int .i64 0])).run Tryz.prog w2 = .ok () w3:=hpr
  have h3:gm≠g1∧gm≠g2∧gm≠g3:=by have:=HG.out;omega
  have hb1:=ho3.blk HBA.out (Ne.symm h3.1)
  have hb2:=ho3.blk HBK.out (Ne.symm h3.2.1)
  have HB1:=Lib.hid hb1
  have HB2:=Lib.hid hb2
  have HB3:=Lib.hid (ho3.blk HBR.out (Ne.symm h3.2.2))
  have x2:w2.cell? ⟨g1,2,none⟩=some (.map (some gm)):=HBA.out.cell 2
  have x3:w2.cell? ⟨g2,0,none⟩=some (.string ⟨ks.toArray⟩):=HBK.out.cell 0
  have x4:w2.cell? ⟨g2,1,none⟩=some (.string ⟨kt.toArray⟩):=HBK.out.cell 1
  have y0:w3.cell? ⟨g1,0,none⟩=some (.slice nA n nc):=hb1.cell 0
  have y1:w3.cell? ⟨g1,1,none⟩=some (.slice fA n fc):=hb1.cell 1
  have y2:w3.cell? ⟨g1,2,none⟩=some (.map (some gm)):=hb1.cell 2
  have y3:w3.cell? ⟨g2,0,none⟩=some (.string ⟨ks.toArray⟩):=hb2.cell 0
  have HO3:Hid (Oth gm w w3):=(Oth.nx HN2.out).trans ho3
  have HRC:=Lib.hid (HR.out w3 (putG vis (ks,kt) vi0) ks t (HS.out.oth HO3.out hpm) (by rw [hA];exact H9A.out))
  have HAE:=Lib.hid hA
  have H3:=Lib.hid h3
  clear hpm hb1 hb2 ho3 hA h3
  go_wp2_with fail
  refine HRC.out.mono ?_;rintro e w4 ⟨rfl,ho4,hm4⟩
  rw [HAE.out] at hm4 ⊢
  obtain ⟨Ae,⟨At,Ak,Ad⟩,Av⟩:=A
  unfold rsL at *
  dsimp only at *
  obtain ⟨g5,hg5⟩:∃ g,w4.heap.size=g:=⟨_,rfl⟩
  obtain ⟨w5,hw5⟩:∃ w5,w4.alloc (.cells #[.string ⟨At.toArray⟩,.int .i64 (Ak:Int),.int .i64 (Ad:Int)] 82)=w5:=⟨_,rfl⟩
  have hb5:Blk w5 g5 g5 #[.string ⟨At.toArray⟩,.int .i64 (Ak:Int),.int .i64 (Ad:Int)] 82:=by rw [← hw5,← hg5];exact Blk.new w4 _ _
  have hn5:Nx w4 w5:=by rw [← hw5];exact nx0 _ _
  have HB5:=Lib.hid hb5
  have HBR5:=Lib.hid ((ho4.blk HB3.out (Ne.symm H3.out.2.2)).below hn5)
  have hba5:=(ho4.blk HB1.out (Ne.symm H3.out.1)).below hn5
  have hbk5:=(ho4.blk HB2.out (Ne.symm H3.out.2.1)).below hn5
  have hm5:=hm4.nx hn5
  have h5:gm<g5:=by rw [← hg5];exact hm4.lt
  have H5:=Lib.hid h5
  have HO5:=Lib.hid ((HO3.out.trans ho4).trans (Oth.nx hn5))
  obtain ⟨o2,hpr2,hpm2⟩:=mapA.put hm5 (ks,kt) ⟨true,⟨At,Ak,Ad⟩⟩ HK.out
  obtain ⟨w6,hw6⟩:∃ x,ChangeMaps.setBlock w5 gm o2=x:=⟨_,rfl⟩
  have ho6:Oth gm w5 w6:=hw6 ▸ setBlock_oth2 w5 gm o2
  rw [hw6] at hpr2 hpm2
  unfold kvA vvA bt at hpr2
  dsimp only at hpr2
  have HM5:=Lib.hid hm5
  have HM6:=Lib.hid hpm2
  have HO6:=Lib.hid ho6
  have d0:w5.cell? ⟨g5,0,none⟩=some (.string ⟨At.toArray⟩):=hb5.cell 0
  have d1:w5.cell? ⟨g5,1,none⟩=some (.int .i64 (Ak:Int)):=hb5.cell 1
  have d2:w5.cell? ⟨g5,2,none⟩=some (.int .i64 (Ad:Int)):=hb5.cell 2
  clear y0 y1 y2 y3 x2 x3 x4 a2 k0 k1 v0 v1 v2 v3 r0 r1 r2 f0 f1 f2 hm4 ho4 hn5
  by_cases h0:Ae=0
  ·subst h0
   have z2:w5.cell? ⟨g1,2,none⟩=some (.map (some gm)):=hba5.cell 2
   have z3:w5.cell? ⟨g2,0,none⟩=some (.string ⟨ks.toArray⟩):=hbk5.cell 0
   have z4:w5.cell? ⟨g2,1,none⟩=some (.string ⟨kt.toArray⟩):=hbk5.cell 1
   have hb6:=ho6.blk hb5 (by omega)
   have hr6:=ho6.blk HBR5.out (Ne.symm H3.out.2.2)
   have HR6:=Lib.hid hr6
   have e0:w6.cell? ⟨g5,0,none⟩=some (.string ⟨At.toArray⟩):=hb6.cell 0
   have e1:w6.cell? ⟨g5,1,none⟩=some (.int .i64 (Ak:Int)):=hb6.cell 1
   have e2:w6.cell? ⟨g5,2,none⟩=some (.int .i64 (Ad:Int)):=hb6.cell 2
   have r0:w6.cell? ⟨g3,0,none⟩=some (.string ⟨#[]⟩):=hr6.cell 0
   have r1:w6.cell? ⟨g3,1,none⟩=some (.int .i64 0):=hr6.cell 1
   have r2:w6.cell? ⟨g3,2,none⟩=some (.int .i64 0):=hr6.cell 2
   have f0:=hr6.free 0
   have f1:=hr6.free 1
   have f2:=hr6.free 2
   clear hb5 hba5 hbk5 hm5 h5 ho6 hpm2 hb6 hr6
   go_wp2_with fail
   refine bodyPost_ret (results_c_t rfl _ _ g3 _ _ _ _ rfl (HR6.out.putAll [.string ⟨At.toArray⟩,.int .i64 (Ak:Int),.int .i64 (Ad:Int)] rfl).2 (Tryz.underlying82) rfl (by kernel_rfl)) rfl ?_
   have HG:=HG.out
   show AlR _ _ _ _ _
   rw [HT.out,if_neg (by decide)]
   exact ⟨rfl,(HO5.out.trans HO6.out).puts (by omega) [.string ⟨At.toArray⟩,.int .i64 (Ak:Int),.int .i64 (Ad:Int)] 0,HM6.out.put3 (g:=g3) (by omega) _ _ _⟩
  ·have q1:decide ((Ae:Int)=0)=false:=decide_eq_false (by omega)
   have q2:¬ (Ae:Int)=0:=by omega
   have HE0:=Lib.hid h0
   have r0:w5.cell? ⟨g3,0,none⟩=some (.string ⟨#[]⟩):=HBR5.out.cell 0
   have r1:w5.cell? ⟨g3,1,none⟩=some (.int .i64 0):=HBR5.out.cell 1
   have r2:w5.cell? ⟨g3,2,none⟩=some (.int .i64 0):=HBR5.out.cell 2
   have f0:=HBR5.out.free 0
   have f1:=HBR5.out.free 1
   have f2:=HBR5.out.free 2
   clear hb5 hba5 hbk5 hm5 h5 ho6 hpm2 h0 hpr2
   go_wp2_with fail
   refine bodyPost_ret (results_c_t rfl _ _ g3 _ _ _ _ rfl (HBR5.out.putAll [.string ⟨At.toArray⟩,.int .i64 (Ak:Int),.int .i64 (Ad:Int)] rfl).2 (Tryz.underlying82) rfl (by kernel_rfl)) rfl ?_
   have HG:=HG.out
   show AlR _ _ _ _ _
   rw [HT.out,if_pos HE0.out]
   exact ⟨rfl,HO5.out.puts (by omega) [.string ⟨At.toArray⟩,.int .i64 (Ak:Int),.int .i64 (Ad:Int)] 0,HM5.out.put3 (g:=g3) (by omega) _ _ _⟩
end Go.Proofs.YtpfecpcgdfbekaaGreatDoor
