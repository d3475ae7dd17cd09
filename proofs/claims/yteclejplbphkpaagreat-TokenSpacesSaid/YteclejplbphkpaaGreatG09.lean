/- The contract of dec.Parse: the document's parse. -/
import Derived.Test.YteclejplbphkpaaGreatG01
import Derived.Test.YteclejplbphkpaaGreatG07
import Derived.Test.YteclejplbphkpaaGreatG04
import Derived.Test.YteclejplbphkpaaGreatG08
set_option linter.unusedVariables false
set_option linter.unusedSimpArgs false
set_option linter.unnecessarySimpa false
namespace Go.Proofs.YteclejplbphkpaaGreat
open Go.RowKit
set_option maxRecDepth 100000 in
set_option maxHeartbeats 3200000 in
theorem parse_any (s:ByteArray) (l:List UInt8) (w:World) (hl:Tx s l) (hs:(l.length:Int)≤8000) :
  Calls Tryz.prog 66 #[.string s] w fun e w'=>e = .returned (.tuple #[.int .u64 ((parseS l).1:Nat),.int .i64 ((parseS l).2:Nat)])∧Nx w w':=by
 obtain ⟨R1,HR1⟩:∃ R,Hid ((parseS l)=R):=⟨_,rfl⟩
 rw [HR1.out]
 obtain ⟨b,e⟩:=R1
 go_enter Tryz.func66,Tryz.ntmps66
 go_wp2_with fail
 refine (takeApart_any s l _ hl hs).mono ?_;rintro e w1 ⟨sg,wv,fv,ev,ok,rfl,HT,hw1⟩
 have hp:=parse_take l sg wv fv ev ok HT.out
 cases ok
 ·have h1:=hp.1 rfl
  rw [HR1.out] at h1
  obtain ⟨rfl,rfl⟩:=Prod.mk.inj h1
  clear hp
  go_wp2_with fail
  go_ret2
  exact ⟨rfl,Nx.trans hw1 (nx0 _ _)⟩
 ·obtain ⟨W,F,hW,hF,hdW,hdF,hWF,S,rfl,hS,hpar⟩:=hp.2 rfl
  rw [HR1.out] at hpar
  clear hp
  obtain ⟨g,hg⟩:∃ g,w1.heap.size=g:=⟨_,rfl⟩
  have hN0:Nx w (w1.alloc (Obj.cells #[.int .u64 (S:Int),.string wv,.string fv,.int .i64 ev] 120)):=Nx.trans hw1 (nx0 _ _)
  have hB0:Blk (w1.alloc (Obj.cells #[.int .u64 (S:Int),.string wv,.string fv,.int .i64 ev] 120)) g g #[.int .u64 (S:Int),.string wv,.string fv,.int .i64 ev] 120:=by rw [← hg];exact Blk.new _ _ _
  have hsz1:=hW.size
  have hsz2:=hF.size
  have hWl:(W.length:Int)≤8000:=by omega
  have hFl:(F.length:Int)≤8000:=by omega
  by_cases h60:60<W.length+F.length
  ·rw [if_pos h60] at hpar
   obtain ⟨rfl,rfl⟩:=Prod.mk.inj hpar
   have b1:decide ((60:Int)<(W.length:Int)+(F.length:Int))=true:=decide_eq_true (by omega)
   clear hpar h60
   go_wp2_with fail
   go_ret2
   exact ⟨rfl,hN0⟩
  ·rw [if_neg h60] at hpar
   have b1:decide ((60:Int)<(W.length:Int)+(F.length:Int))=false:=decide_eq_false (by omega)
   by_cases h400:400<ev
   ·rw [if_pos (.inl h400)] at hpar
    obtain ⟨rfl,rfl⟩:=Prod.mk.inj hpar
    have b2:decide (400<ev)=true:=decide_eq_true h400
    clear hpar h60 h400
    go_wp2_with fail
    go_ret2
    exact ⟨rfl,hN0⟩
   ·have b2:decide (400<ev)=false:=decide_eq_false h400
    by_cases hm400:ev < -400
    ·rw [if_pos (.inr hm400)] at hpar
     obtain ⟨rfl,rfl⟩:=Prod.mk.inj hpar
     have b3:decide (ev < -400)=true:=decide_eq_true hm400
     clear hpar h60 h400 hm400
     go_wp2_with fail
     go_ret2
     exact ⟨rfl,hN0⟩
    ·rw [if_neg (by omega)] at hpar
     have b3:decide (ev < -400)=false:=decide_eq_false hm400
     obtain ⟨N,HN⟩:∃ N,Hid (numS (valS (W++F)) (ev - F.length)=N):=⟨_,rfl⟩
     rw [HN.out] at hpar
     obtain ⟨k,hk⟩:∃ k:Int,ev - (F.length:Int)=k:=⟨_,rfl⟩
     have HK:=Lib.hid hk
     have hk1 : -460≤k:=by omega
     have hk2:k≤400:=by omega
     have hNK:=near_numS (valS (W++F)) k
     rw [← hk,HN.out,hk] at hNK
     have HNK:=Lib.hid hNK
     have hdd:digs (W++F):=fun c hc=>(List.mem_append.1 hc).elim (hdW c) (hdF c)
     have hVl:valS (W++F)<2 ^ 240:=by
      have h1:=valS_lt (W++F) hdd (W++F).length (Nat.le_refl _)
      rw [List.take_length] at h1
      refine Nat.lt_of_lt_of_le h1 (Nat.le_trans (ten_two _) (Nat.pow_le_pow_right (by decide) ?_))
      rw [List.length_append];omega
     have hx:Hid (Tx (wv++fv) (W++F)):=hW.app hF
     have hwl:((W++F).length:Int)≤1000:=by rw [List.length_append];omega
     have hsum:wv.size+fv.size≤9223372036854775807:=by omega
     obtain ⟨V,HV⟩:∃ V,Hid (valS (W++F)=V):=⟨_,rfl⟩
     rw [HV.out] at hVl HNK
     have HX:=Lib.hid hdd
     have HPAR:=Lib.hid hpar
     clear h60 h400 hm400 hNK hdd hdW hdF hpar
     go_wp2_with fail
     refine (natural_any _ (W++F) _ hx.out HX.out hwl).mono ?_;rintro e w2 ⟨v2,rfl,hv2,hw2⟩
     rw [HV.out] at hv2
     obtain ⟨A2,l2,c2,rfl⟩:=hv2.sl
     go_wp2_with fail
     refine (of_any 1 _ (by decide)).mono ?_;rintro e w3 ⟨v3,rfl,hv3,hw3⟩
     obtain ⟨A3,l3,c3,rfl⟩:=hv3.sl
     have hv23:=(hv2.below hw3).below (nx0 w3 (Obj.cells #[.slice A2 l2 c2,.slice A3 l3 c3] 125))
     have hv33:=hv3.below (nx0 w3 (Obj.cells #[.slice A2 l2 c2,.slice A3 l3 c3] 125))
     have hN3:=Nx.al (Nx.trans (Nx.trans hN0 hw2) hw3) (Obj.cells #[.slice A2 l2 c2,.slice A3 l3 c3] 125)
     have hB3:=(hB0.below (Nx.trans hw2 hw3)).alloc (Obj.cells #[.slice A2 l2 c2,.slice A3 l3 c3] 125)
     have q0:(w3.alloc (Obj.cells #[.slice A2 l2 c2,.slice A3 l3 c3] 125)).cell? ⟨g,0,none⟩=some (.int .u64 (S:Int)):=hB3.cell 0
     have q2:(w3.alloc (Obj.cells #[.slice A2 l2 c2,.slice A3 l3 c3] 125)).cell? ⟨g,2,none⟩=some (.string fv):=hB3.cell 2
     have q3:(w3.alloc (Obj.cells #[.slice A2 l2 c2,.slice A3 l3 c3] 125)).cell? ⟨g,3,none⟩=some (.int .i64 ev):=hB3.cell 3
     go_wp2_with fail
     refine (timesTen_any _ V 1 240 k _ ⟨_,_,rfl,hv23,hv33,hVl,Nat.one_lt_two_pow (by decide)⟩ (by decide) (by omega) (by omega)).mono ?_;rintro e w4 ⟨r4,rfl,hr4,hw4⟩
     obtain ⟨v4,u4,rfl,hv4,hu4,hx4,hy4⟩:=hr4
     have HR4:=Lib.hid (show Ra w4 (.agg #[v4,u4]) _ _ _ from ⟨v4,u4,rfl,hv4,hu4,hx4,hy4⟩)
     clear hv4 hu4 hx4 hy4
     go_wp2_with fail
     refine (nearest_any _ _ _ _ _ HR4.out (by omega) (by rw [Nat.one_mul];exact Nat.pos_iff_ne_zero.1 (Nat.pow_pos (by decide)))).mono ?_;rintro e w5 ⟨rfl,hw5⟩
     rw [HNK.out]
     have hN5:=Nx.trans (Nx.trans hN3 hw4) hw5
     have hB5:=hB3.below (Nx.trans hw4 hw5)
     have q0':w5.cell? ⟨g,0,none⟩=some (.int .u64 (S:Int)):=hB5.cell 0
     clear q0 q2 q3
     have hpar:=HPAR.out
     by_cases hlim:N<LIM
     ·rw [if_pos hlim] at hpar
      obtain ⟨rfl,rfl⟩:=Prod.mk.inj hpar
      unfold LIM at hlim
      have b4:decide ((9218868437227405312:Int)≤(N:Int))=false:=decide_eq_false (by omega)
      have hN63:N<9223372036854775808:=by omega
      clear hpar hlim
      rcases hS with rfl | rfl
      ·have HO:=Lib.hid (or_zero N hN63)
       clear hN63
       go_wp2_with fail
       go_ret2
       refine ⟨?_,hN5⟩
       rw [Nat.zero_add]
       exact congrArg (fun z=>Ending.returned (Value.tuple #[Value.int .u64 z,Value.int .i64 0])) HO.out
      ·have HO:=Lib.hid (or_sign N hN63)
       clear hN63
       go_wp2_with fail
       go_ret2
       refine ⟨?_,hN5⟩
       exact congrArg (fun z=>Ending.returned (Value.tuple #[Value.int .u64 z,Value.int .i64 0])) HO.out
     ·rw [if_neg hlim] at hpar
      obtain ⟨rfl,rfl⟩:=Prod.mk.inj hpar
      unfold LIM at hlim
      have b4:decide ((9218868437227405312:Int)≤(N:Int))=true:=decide_eq_true (by omega)
      clear hpar hlim
      go_wp2_with fail
      go_ret2
      exact ⟨rfl,hN5⟩
end Go.Proofs.YteclejplbphkpaaGreat
