/- The contracts of token's names, quoted texts. The contracts of token's numbers and first words (what is plain of it). The contracts of token's numbers and first words. The contract of token's first word (what is plain of it). The contract of token's first word. The contracts of token's cursor (what is plain of it). -/
import Derived.Test.YteclejplbphkpaaGreatG13
import Derived.Test.YteclejplbphkpaaGreatG14
import Derived.Test.YteclejplbphkpaaGreatG11
import Derived.Lib.SmallJoins
import Derived.Laws.Rows
import Derived.Laws.ResultCell
import Derived.Test.YteclejplbphkpaaGreatG07
import Derived.Test.YteclejplbphkpaaGreatG09
import Derived.Test.YteclejplbphkpaaGreatG04
import Derived.Test.YteclejplbphkpaaGreatG08
set_option linter.unusedVariables false
set_option linter.unusedSimpArgs false
set_option linter.unnecessarySimpa false
namespace Go.Proofs.YteclejplbphkpaaGreat
open Go.RowKit
set_option maxRecDepth 100000 in
set_option maxHeartbeats 800000 in
theorem tfresh_any (s:ByteArray) (l:List UInt8) (w:World) (hl:Tx s l) :
  Calls Tryz.prog 45 #[.string s] w fun e w'=>e = .returned (.string ⟨l.toArray⟩)∧Nx w w':=by
 go_enter Tryz.func45,Tryz.ntmps45
 go_wp2_with (first
  | (refine twpList_bytes _ (o:=⟨some 4,_,_,_,_,_⟩) rfl _ rfl Tryz.underlying9 Tryz.underlying22 Tryz.underlying5 s l hl rfl ?_;intro c1 w1 hr1 hw1)
  | (refine wpList_str _ (o:=⟨some 5,_,_,_,_,_⟩) rfl _ rfl Tryz.underlying22 Tryz.underlying5 Tryz.underlying9 _ l _ rfl hr1 ?_;intro t HT ht1 ht2))
 go_ret
 rw [HT.out]
 exact ⟨rfl,hw1⟩
set_option maxRecDepth 100000 in
set_option maxHeartbeats 1600000 in
theorem name_any (s:ByteArray) (l:List UInt8) (w:World) (hl:Tx s l) (hs:(l.length:Int)≤100000) (hm:MaxC w) :
  Calls Tryz.prog 40 #[.string s] w fun e w'=>TokR e (nameS l)∧Nx w w':=by
 have HL:=Lib.hid hl
 have hz:(s.size:Int)=(l.length:Int):=by rw [hl.size]
 have HM:=Lib.hid hm
 obtain ⟨N,hN⟩:∃ N,Hid (spanN isNmS l=N):=⟨_,rfl⟩
 have hNl:(N:Int)≤(l.length:Int):=by have:=spanN_le isNmS l;rw [hN.out] at this;omega
 obtain ⟨u,hu,HU⟩:=HL.out.upto N
 have HUD:Hid (u.data.toList=l.take N):=HU.out
 obtain ⟨b1,hb1⟩:∃ b,Hid (Lib.hasSuffix (l.take N) [46]=b):=⟨_,rfl⟩
 obtain ⟨b2,hb2⟩:∃ b,Hid (Lib.contains (l.take N) [46,46]=b):=⟨_,rfl⟩
 have HX:Hid (nameS l=if 120<N then (4,tok0,0) else if (b1 || b2) then (2,tok0,0) else (0,⟨1,l.take N,0,0,0⟩,N)):=by
  unfold Hid nameS;rw [hN.out,dot_is,hb1.out,hb2.out]
 have hus:(u.size:Int)≤100000:=by rw [HU.out.size];simp;omega
 clear hl hm
 go_enter Tryz.func40,Tryz.ntmps40
 go_wp2_with fail
 refine (span_any _ isNmS such_name s l _ HL.out (by omega)).mono ?_;rintro e w' ⟨rfl,rfl⟩
 rw [hN.out]
 by_cases h1:120<N
 ·have g1:decide ((120:Int)<(N:Int))=true:=decide_eq_true (by omega)
  have HX2:Hid (nameS l=(4,tok0,0)):=by unfold Hid;rw [HX.out,if_pos h1]
  clear h1
  go_wp2_with fail
  refine bodyPost_ret (results_cell_tmp2_row rfl _ _ w.heap.size _ _ _ _ rfl (heap_alloc_new w _) Tryz.underlying40 rfl (by kernel_rfl)) rfl ?_
  refine ⟨⟨_,_,_,_,_,_,by rw [HX2.out];rfl,fun h=>?_⟩,nx0 _ _⟩
  rw [HX2.out] at h;cases h
 ·have g1:decide ((120:Int)<(N:Int))=false:=decide_eq_false (by omega)
  have HX2:Hid (nameS l=if (b1 || b2) then (2,tok0,0) else (0,⟨1,l.take N,0,0,0⟩,N)):=by unfold Hid;rw [HX.out,if_neg h1]
  clear h1
  go_wp2_with fail
  refine (Tryz.strings_HasSuffix u ⟨#[46]⟩ _ (by omega)).mono ?_;rintro e w' ⟨rfl,rfl⟩
  rw [HUD.out,show (ByteArray.mk #[46]).data.toList=[46] from rfl,hb1.out]
  cases b1
  ·go_wp2_with fail
   obtain ⟨m,hmm⟩:=HM.out.nx (nx0 w (.cells #[.int .i64 0,.string ⟨#[]⟩,.int .i64 0,.int .u64 0,.int .i64 0] 40))
   refine (Tryz.strings_Contains u ⟨#[46,46]⟩ m _ (by omega) hmm).mono ?_;rintro e w' ⟨rfl,rfl⟩
   rw [HUD.out,show (ByteArray.mk #[46,46]).data.toList=[46,46] from rfl,hb2.out]
   cases b2
   ·have HX3:Hid (nameS l=(0,⟨1,l.take N,0,0,0⟩,N)):=HX2
    clear hmm
    obtain ⟨g,hg⟩:∃ g,w.heap.size=g:=⟨_,rfl⟩
    have hB0:=Blk.new w #[.int .i64 0,.string ⟨#[]⟩,.int .i64 0,.int .u64 0,.int .i64 0] 40
    rw [hg] at hB0
    have hN0:Nx w (w.alloc (Obj.cells #[.int .i64 0,.string ⟨#[]⟩,.int .i64 0,.int .u64 0,.int .i64 0] 40)):=nx0 _ _
    go_wp2_with fail
    refine (tfresh_any u (l.take N) _ HU.out).mono ?_;rintro e w2 ⟨rfl,hw2⟩
    have hB2:=hB0.below hw2
    have hN2:=Nx.trans hN0 hw2
    have c0:w2.cell? ⟨g,0,none⟩=some (.int .i64 0):=hB2.cell 0
    have c1:w2.cell? ⟨g,1,none⟩=some (.string ⟨#[]⟩):=hB2.cell 1
    have c2:w2.cell? ⟨g,2,none⟩=some (.int .i64 0):=hB2.cell 2
    have c3:w2.cell? ⟨g,3,none⟩=some (.int .u64 0):=hB2.cell 3
    have c4:w2.cell? ⟨g,4,none⟩=some (.int .i64 0):=hB2.cell 4
    have f0:=hB2.free 0
    have f1:=hB2.free 1
    have f2:=hB2.free 2
    have f3:=hB2.free 3
    have f4:=hB2.free 4
    go_wp2_with fail
    refine bodyPost_ret (results_cell_tmp2_row rfl _ _ g _ _ _ _ rfl hB2.put5.2 Tryz.underlying40 rfl (by kernel_rfl)) rfl ?_
    refine ⟨⟨_,_,_,_,_,_,by rw [HX3.out];rfl,fun _=>?_⟩,hN2.put5 (by omega)⟩
    rw [HX3.out]
    exact ⟨rfl,rfl⟩
   ·have HX3:Hid (nameS l=(2,tok0,0)):=HX2
    clear hmm
    go_wp2_with fail
    refine bodyPost_ret (results_cell_tmp2_row rfl _ _ w.heap.size _ _ _ _ rfl (heap_alloc_new w _) Tryz.underlying40 rfl (by kernel_rfl)) rfl ?_
    refine ⟨⟨_,_,_,_,_,_,by rw [HX3.out];rfl,fun h=>?_⟩,nx0 _ _⟩
    rw [HX3.out] at h;cases h
  ·have HX3:Hid (nameS l=(2,tok0,0)):=HX2
   go_wp2_with fail
   refine bodyPost_ret (results_cell_tmp2_row rfl _ _ w.heap.size _ _ _ _ rfl (heap_alloc_new w _) Tryz.underlying40 rfl (by kernel_rfl)) rfl ?_
   refine ⟨⟨_,_,_,_,_,_,by rw [HX3.out];rfl,fun h=>?_⟩,nx0 _ _⟩
   rw [HX3.out] at h;cases h
set_option maxRecDepth 100000 in
set_option maxHeartbeats 1600000 in
theorem quoted_any (s:ByteArray) (q:UInt8) (r:List UInt8) (w:World) (hl:Tx s (q :: r)) (hs:(r.length:Int)≤100000) :
  Calls Tryz.prog 43 #[.string s] w fun e w'=>TokR e (quotedS q r)∧Nx w w':=by
 obtain ⟨hp,t,e0,e1,ht,e2,e3⟩:=hl.cons
 have HT:=Lib.hid ht
 have hz:(t.size:Int)=(r.length:Int):=by rw [ht.size]
 have hz2:(1:Int)≤(s.size:Int):=by omega
 obtain ⟨N,hN⟩:∃ N,Hid (quoteN q r=N):=⟨_,rfl⟩
 obtain ⟨K,hK⟩:∃ K,Hid (lineN r=K):=⟨_,rfl⟩
 have hNl:N≤r.length:=by have:=spanN_le (fun c=>decide (c≠q)) r;rw [show spanN (fun c=>decide (c≠q)) r=N from hN.out] at this;exact this
 have HI:Hid (Lib.indexByte t.data.toList (q.toNat:Int).toNat.toUInt8=if N<r.length then (N:Int) else -1):=by
  unfold Hid
  have hq:(q.toNat:Int).toNat.toUInt8=q:=by rw [Int.toNat_natCast];exact UInt8.ofNat_toNat
  rw [hq,show t.data.toList=r from ht,index_other,show spanN (fun c=>decide (c≠q)) r=N from hN.out]
 have HX:Hid (quotedS q r=if N=r.length∨K<N then (2,tok0,0) else (0,⟨4,r.take N,0,0,0⟩,N+2)):=by
  unfold Hid quotedS;rw [hN.out,hK.out]
 clear hl ht
 obtain ⟨g,hg⟩:∃ g,w.heap.size=g:=⟨_,rfl⟩
 have hB0:=Blk.new w #[.int .i64 0,.string ⟨#[]⟩,.int .i64 0,.int .u64 0,.int .i64 0] 40
 rw [hg] at hB0
 have hN0:Nx w (w.alloc (Obj.cells #[.int .i64 0,.string ⟨#[]⟩,.int .i64 0,.int .u64 0,.int .i64 0] 40)):=nx0 _ _
 go_enter Tryz.func43,Tryz.ntmps43
 go_wp2_with fail
 go_quiet (fail)
 go_wp2_with fail
 generalize hW1:World.drewN _ _=w1
 have hB1:Blk w1 g g #[.int .i64 0,.string ⟨#[]⟩,.int .i64 0,.int .u64 0,.int .i64 0] 40:=by rw [← hW1];exact hB0.drew _
 have hN1:Nx w w1:=by rw [← hW1];exact hN0.dr _
 clear hW1 hB0 hN0
 refine (Tryz.strings_IndexByte t (q.toNat:Int) w1).mono ?_;rintro e w' ⟨rfl,rfl⟩
 rw [HI.out]
 obtain ⟨c0,c1,c2,c3,c4,f0,f1,f2,f3,f4⟩:=cells5 hB1
 have hB:=Lib.hid hB1
 clear hB1
 by_cases hlt:N<r.length
 ·rw [if_pos hlt]
  obtain ⟨u,hu,HU⟩:=HT.out.upto N
  have HX2:Hid (quotedS q r=if K<N then (2,tok0,0) else (0,⟨4,r.take N,0,0,0⟩,N+2)):=by
   unfold Hid;rw [HX.out]
   by_cases hk:K<N
   ·rw [if_pos (.inr hk),if_pos hk]
   ·rw [if_neg (by omega),if_neg hk]
  have HI2:Hid (Lib.indexByte u.data.toList (10:Int).toNat.toUInt8=if K<N then (K:Int) else -1):=by
   unfold Hid
   have h1:=index_other (r.take N) 10
   have h2:spanN (fun c=>decide (c≠10)) r=K:=hK.out
   rw [spanN_cut,h2,List.length_take,Nat.min_eq_left (show N≤r.length by omega)] at h1
   rw [show u.data.toList=r.take N from HU.out]
   refine h1.trans ?_
   by_cases hk:K<N
   ·rw [if_pos hk,if_pos (by omega),Nat.min_eq_left (by omega)]
   ·rw [if_neg hk,if_neg (by omega)]
  have hN0:(N:Int)≤(r.length:Int):=by omega
  go_wp2_with fail
  refine (Tryz.strings_IndexByte u 10 w').mono ?_;rintro e w' ⟨rfl,rfl⟩
  rw [HI2.out]
  by_cases hk:K<N
  ·have HX3:Hid (quotedS q r=(2,tok0,0)):=by unfold Hid;rw [HX2.out,if_pos hk]
   rw [if_pos hk]
   clear hk
   go_wp2_with fail
   refine bodyPost_ret (results_cell_tmp2_row rfl _ _ g _ _ _ _ rfl hB.out.put5.2 Tryz.underlying40 rfl (by kernel_rfl)) rfl ?_
   refine ⟨⟨_,_,_,_,_,_,by rw [HX3.out];rfl,fun h=>?_⟩,hN1.put5 (by omega)⟩
   rw [HX3.out] at h;cases h
  ·have HX3:Hid (quotedS q r=(0,⟨4,r.take N,0,0,0⟩,N+2)):=by unfold Hid;rw [HX2.out,if_neg hk]
   rw [if_neg hk]
   clear hk c0 c1 c2 c3 c4 f0 f1 f2 f3 f4
   go_wp2_with fail
   refine (tfresh_any u (r.take N) _ HU.out).mono ?_;rintro e w2 ⟨rfl,hw2⟩
   have hB2:=hB.out.below hw2
   have hN2:=Nx.trans hN1 hw2
   obtain ⟨c0,c1,c2,c3,c4,f0,f1,f2,f3,f4⟩:=cells5 hB2
   go_wp2_with fail
   refine bodyPost_ret (results_cell_tmp2_row rfl _ _ g _ _ _ _ rfl hB2.put5.2 Tryz.underlying40 rfl (by kernel_rfl)) rfl ?_
   refine ⟨⟨_,_,_,_,_,_,by rw [HX3.out];rfl,fun _=>?_⟩,hN2.put5 (by omega)⟩
   rw [HX3.out]
   exact ⟨rfl,rfl⟩
 ·rw [if_neg hlt]
  have HX3:Hid (quotedS q r=(2,tok0,0)):=by unfold Hid;rw [HX.out,if_pos (.inl (by omega))]
  go_wp2_with fail
  refine bodyPost_ret (results_cell_tmp2_row rfl _ _ g _ _ _ _ rfl hB.out.put5.2 Tryz.underlying40 rfl (by kernel_rfl)) rfl ?_
  refine ⟨⟨_,_,_,_,_,_,by rw [HX3.out];rfl,fun h=>?_⟩,hN1.put5 (by omega)⟩
  rw [HX3.out] at h;cases h
end Go.Proofs.YteclejplbphkpaaGreat
namespace Go.Proofs.YteclejplbphkpaaGreat
open Go.RowKit
theorem hexN_le (l:List UInt8):hexN l≤l.length∧(hexN l≠0→3≤hexN l)∧(∀ c ∈ (l.take (hexN l)).drop 2,isHexS c=true):=by
 cases l with
 | nil=>exact ⟨Nat.le_refl _,fun h=>absurd rfl h,fun c h=>by simp [hexN] at h⟩
 | cons c r=>cases r with
  | nil=>exact ⟨Nat.zero_le _,fun h=>absurd rfl h,fun c h=>by simp [hexN] at h⟩
  | cons d r =>
   unfold hexN
   dsimp only
   split
   ·rename_i h
    have:=spanN_le isHexS r
    refine ⟨by simp;omega,fun _=>by omega,fun e he=>?_⟩
    rw [Nat.add_comm,List.take_succ_cons,List.take_succ_cons] at he
    exact spanN_take isHexS r e he
   ·exact ⟨Nat.zero_le _,fun h=>absurd rfl h,fun c h=>by simp at h⟩
theorem decN_le (l:List UInt8):decN l≤l.length:=by
 unfold decN
 dsimp only
 have h1:=(sgnN_le l).1
 have h2:=digN_le (l.drop (sgnN l))
 have h3:=fracN_le (l.drop (sgnN l+digN (l.drop (sgnN l))))
 split
 ·omega
 ·have h4:=expN_le (l.drop (sgnN l+(digN (l.drop (sgnN l))+fracN (l.drop (sgnN l+digN (l.drop (sgnN l)))))))
  simp at h2 h3 h4
  omega
theorem take_digits (l:List UInt8) (h:wholeB l=true):∀ c ∈ l.drop (sgnN l),isDig c=true:=by
 have h1:=of_decide_eq_true h
 have h2:=spanN_take isDig (l.drop (sgnN l))
 have h3:spanN isDig (l.drop (sgnN l))=(l.drop (sgnN l)).length:=by
  have:digN (l.drop (sgnN l))=(l.drop (sgnN l)).length:=by simp;omega
  exact this
 rw [h3,List.take_length] at h2
 exact h2
end Go.Proofs.YteclejplbphkpaaGreat
namespace Go.Proofs.YteclejplbphkpaaGreat
open Go.RowKit
set_option maxRecDepth 100000 in
set_option maxHeartbeats 3200000 in
theorem number_any (s:ByteArray) (l:List UInt8) (w:World) (hl:Tx s l) (hs:(l.length:Int)≤8000) :
  Calls Tryz.prog 42 #[.string s] w fun e w'=>TokR e (numberS l)∧Nx w w':=by
 have HL:=Lib.hid hl
 have hz:(s.size:Int)=(l.length:Int):=by rw [hl.size]
 obtain ⟨N,hN⟩:∃ N,hexN l=N:=⟨_,rfl⟩
 obtain ⟨hN1,hN2,hN3⟩:=hexN_le l
 rw [hN] at hN1 hN2 hN3
 obtain ⟨K,hK⟩:∃ K,decN l=K:=⟨_,rfl⟩
 have hK1:=decN_le l
 rw [hK] at hK1
 have HX:Hid (numberS l=if N≠0 then ((hexS ((l.take N).drop 2)).2,⟨2,[],(hexS ((l.take N).drop 2)).1,0,0⟩,N)
   else if K=0 then (2,tok0,0) else if wholeB (l.take K) then ((wholeS (l.take K)).2,⟨2,[],(wholeS (l.take K)).1,0,0⟩,K)
   else ((parseS (l.take K)).2,⟨3,[],0,(parseS (l.take K)).1,0⟩,K)):=by
  unfold Hid numberS;rw [hN,hK]
 have HN:=Lib.hid hN
 have HN3:=Lib.hid hN3
 have HK:=Lib.hid hK
 have hNI:(N:Int)≤(l.length:Int):=by omega
 have hKI:(K:Int)≤(l.length:Int):=by omega
 clear hl hN hK hN1 hK1 hN3
 obtain ⟨g,hg⟩:∃ g,w.heap.size=g:=⟨_,rfl⟩
 have hB0:=Blk.new w #[.int .i64 0,.string ⟨#[]⟩,.int .i64 0,.int .u64 0,.int .i64 0] 40
 rw [hg] at hB0
 have hN0:Nx w (w.alloc (Obj.cells #[.int .i64 0,.string ⟨#[]⟩,.int .i64 0,.int .u64 0,.int .i64 0] 40)):=nx0 _ _
 go_enter Tryz.func42,Tryz.ntmps42
 go_wp2_with fail
 generalize hW1:World.alloc _ _=w1 at *
 refine (hexLength_any s l w1 HL.out (by omega)).mono ?_;rintro e w' ⟨rfl,rfl⟩
 rw [HN.out]
 obtain ⟨c0,c1,c2,c3,c4,f0,f1,f2,f3,f4⟩:=cells5 hB0
 by_cases h0:N=0
 ·subst h0
  have HX2:Hid (numberS l=if K=0 then (2,tok0,0) else if wholeB (l.take K) then ((wholeS (l.take K)).2,⟨2,[],(wholeS (l.take K)).1,0,0⟩,K)
   else ((parseS (l.take K)).2,⟨3,[],0,(parseS (l.take K)).1,0⟩,K)):=by unfold Hid;rw [HX.out,if_neg (by simp)]
  go_wp2_with fail
  refine (decimalLength_any s l _ HL.out (by omega)).mono ?_;rintro e w' ⟨rfl,rfl⟩
  rw [HK.out]
  by_cases hk:K=0
  ·have HX3:Hid (numberS l=(2,tok0,0)):=by unfold Hid;rw [HX2.out,if_pos hk]
   have b1:((K:Int) == 0)=true:=by rw [beq_iff_eq];omega
   clear hk
   go_wp2_with fail
   refine bodyPost_ret (results_cell_tmp2_row rfl _ _ g _ _ _ _ rfl hB0.put5.2 Tryz.underlying40 rfl (by kernel_rfl)) rfl ?_
   refine ⟨⟨_,_,_,_,_,_,by rw [HX3.out];rfl,fun h=>?_⟩,hN0.put5 (by omega)⟩
   rw [HX3.out] at h;cases h
  ·have HX3:Hid (numberS l=if wholeB (l.take K) then ((wholeS (l.take K)).2,⟨2,[],(wholeS (l.take K)).1,0,0⟩,K)
    else ((parseS (l.take K)).2,⟨3,[],0,(parseS (l.take K)).1,0⟩,K)):=by unfold Hid;rw [HX2.out,if_neg hk]
   have b1:((K:Int) == 0)=false:=by rw [beq_eq_false_iff_ne];omega
   obtain ⟨u,hu,HU⟩:=HL.out.upto K
   have hne:l.take K≠[]:=by
    intro h
    have:(l.take K).length=0:=by rw [h];rfl
    rw [List.length_take] at this
    omega
   have HNE:=Lib.hid hne
   clear hk hne
   go_wp2_with fail
   refine (isWhole_any u (l.take K) _ HU.out (by simp;omega)).mono ?_;rintro e w' ⟨rfl,rfl⟩
   obtain ⟨b,hb⟩:∃ b,Hid (wholeB (l.take K)=b):=⟨_,rfl⟩
   rw [hb.out] at HX3 ⊢
   cases b
   ·have HX4:Hid (numberS l=((parseS (l.take K)).2,⟨3,[],0,(parseS (l.take K)).1,0⟩,K)):=HX3
    clear c0 c1 c2 c3 c4 f0 f1 f2 f3 f4
    go_wp2_with fail
    refine (parse_any u (l.take K) _ HU.out (by simp;omega)).mono ?_;rintro e w2 ⟨rfl,hw2⟩
    have hB2:=hB0.below hw2
    have hN2:=Nx.trans hN0 hw2
    obtain ⟨c0,c1,c2,c3,c4,f0,f1,f2,f3,f4⟩:=cells5 hB2
    generalize parseS (l.take K)=P at *
    obtain ⟨p1,p2⟩:=P
    go_wp2_with fail
    refine bodyPost_ret (results_cell_tmp2_row rfl _ _ g _ _ _ _ rfl hB2.put5.2 Tryz.underlying40 rfl (by kernel_rfl)) rfl ?_
    refine ⟨⟨_,_,_,_,_,_,by rw [HX4.out];rfl,fun _=>?_⟩,hN2.put5 (by omega)⟩
    rw [HX4.out]
    exact ⟨rfl,rfl⟩
   ·have HX4:Hid (numberS l=((wholeS (l.take K)).2,⟨2,[],(wholeS (l.take K)).1,0,0⟩,K)):=HX3
    go_wp2_with fail
    refine (wholeValue_any u (l.take K) _ HU.out HNE.out (take_digits _ hb.out) (by simp;omega)).mono ?_;rintro e w2 ⟨rfl,rfl⟩
    generalize wholeS (l.take K)=P at *
    obtain ⟨p1,p2⟩:=P
    go_wp2_with fail
    refine bodyPost_ret (results_cell_tmp2_row rfl _ _ g _ _ _ _ rfl hB0.put5.2 Tryz.underlying40 rfl (by kernel_rfl)) rfl ?_
    refine ⟨⟨_,_,_,_,_,_,by rw [HX4.out];rfl,fun _=>?_⟩,hN0.put5 (by omega)⟩
    rw [HX4.out]
    exact ⟨rfl,rfl⟩
 ·have HX2:Hid (numberS l=((hexS ((l.take N).drop 2)).2,⟨2,[],(hexS ((l.take N).drop 2)).1,0,0⟩,N)):=by unfold Hid;rw [HX.out,if_pos h0]
  have g1:decide ((0:Int)<(N:Int))=true:=decide_eq_true (by omega)
  have g2:(3:Int)≤(N:Int):=by have:=hN2 h0;omega
  obtain ⟨u,hu,HU⟩:=HL.out.mid 2 N
  have hul:(((l.take N).drop 2).length:Int)≤8000:=by simp;omega
  clear h0 hN2
  go_wp2_with fail
  refine (hexValue_any u _ _ HU.out HN3.out (by omega)).mono ?_;rintro e w2 ⟨rfl,rfl⟩
  generalize hexS ((l.take N).drop 2)=P at *
  obtain ⟨p1,p2⟩:=P
  go_wp2_with fail
  refine bodyPost_ret (results_cell_tmp2_row rfl _ _ g _ _ _ _ rfl hB0.put5.2 Tryz.underlying40 rfl (by kernel_rfl)) rfl ?_
  refine ⟨⟨_,_,_,_,_,_,by rw [HX2.out];rfl,fun _=>?_⟩,hN0.put5 (by omega)⟩
  rw [HX2.out]
  exact ⟨rfl,rfl⟩
end Go.Proofs.YteclejplbphkpaaGreat
namespace Go.Proofs.YteclejplbphkpaaGreat
open Go.RowKit
theorem index_signs (c:UInt8):(0≤Lib.indexByte signsL c∧signsL.contains c=true)∨(Lib.indexByte signsL c = -1∧signsL.contains c=false):=by
 suffices h:∀ l:List UInt8,(0≤Lib.indexByte l c∧l.contains c=true)∨(Lib.indexByte l c = -1∧l.contains c=false) from h _
 intro l
 induction l with
 | nil=>exact .inr ⟨rfl,rfl⟩
 | cons d l ih =>
  unfold Lib.indexByte
  by_cases h:d=c
  ·subst h;left;simp
  ·have h1:(d == c)=false:=by simpa using h
   have h2:(c == d)=false:=by simpa using fun e=>h e.symm
   rw [h1,List.contains_cons,h2,Bool.false_or]
   rcases ih with ⟨i1,i2⟩ | ⟨i1,i2⟩
   ·left
    have h3:(Lib.indexByte l c == -1)=false:=by rw [beq_eq_false_iff_ne];omega
    rw [h3]
    exact ⟨by simp;omega,i2⟩
   ·right
    rw [i1]
    exact ⟨rfl,i2⟩
end Go.Proofs.YteclejplbphkpaaGreat
namespace Go.Proofs.YteclejplbphkpaaGreat
open Go.RowKit
set_option maxRecDepth 100000 in
set_option maxHeartbeats 3200000 in
theorem first_any (s:ByteArray) (l:List UInt8) (w:World) (hl:Tx s l) (hs:(l.length:Int)≤8000) (hm:MaxC w) :
  Calls Tryz.prog 18 #[.string s] w fun e w'=>TokR e (firstS l)∧Nx w w':=by
 obtain ⟨g,hg⟩:∃ g,w.heap.size=g:=⟨_,rfl⟩
 have hB0:=Blk.new w #[.int .i64 0,.string ⟨#[]⟩,.int .i64 0,.int .u64 0,.int .i64 0] 40
 rw [hg] at hB0
 have hN0:Nx w (w.alloc (Obj.cells #[.int .i64 0,.string ⟨#[]⟩,.int .i64 0,.int .u64 0,.int .i64 0] 40)):=nx0 _ _
 have HM:=Lib.hid (hm.nx hN0)
 cases l with
 | nil =>
  have e1:=hl.nil.1
  clear hl HM
  go_enter Tryz.func18,Tryz.ntmps18
  go_wp2_with fail
  try simp only [Exit.inBlock,Exit.then]
  refine bodyPost_ret (results_cell_tmp2_row rfl _ _ w.heap.size _ _ _ _ (by rw [hg];rfl) (heap_alloc_new w _) Tryz.underlying40 rfl (by kernel_rfl)) rfl ?_
  exact ⟨⟨_,_,_,_,_,_,rfl,fun _=>⟨rfl,rfl⟩⟩,nx0 _ _⟩
 | cons c r =>
  have HL:=Lib.hid hl
  obtain ⟨hp,t0,e0,e1,ht,e2,e3⟩:=hl.cons
  have hz:(s.size:Int)=(r.length:Int)+1:=by rw [hl.size];simp
  have hrl:(r.length:Int)≤8000:=by simp at hs;omega
  obtain ⟨bl,hbl⟩:∃ b,Hid (isLetS c=b):=⟨_,rfl⟩
  obtain ⟨bd,hbd⟩:∃ b,Hid (isDig c=b):=⟨_,rfl⟩
  have HX:Hid (firstS (c :: r)=if bl || decide (c.toNat=95) then nameS (c :: r)
   else if bd || decide (c.toNat=43) || decide (c.toNat=45) || decide (c.toNat=46) then numberS (c :: r)
   else if c.toNat=34∨c.toNat=39 then quotedS c r
   else if signsL.contains c then (0,⟨5,[c],0,0,0⟩,1) else (2,tok0,0)):=by
   unfold Hid;rw [← hbl.out,← hbd.out];rfl
  obtain ⟨u,hu,HU⟩:=HL.out.upto 1
  have HU2:Hid (Tx u [c]):=HU
  clear hl ht e1 HU
  go_enter Tryz.func18,Tryz.ntmps18
  go_wp2_with fail
  generalize hW1:World.alloc _ _=w1 at *
  refine (isLetter_any c w1).mono ?_;rintro e w' ⟨rfl,rfl⟩
  rw [hbl.out]
  obtain ⟨c0,c1,c2,c3,c4,f0,f1,f2,f3,f4⟩:=cells5 hB0
  have hB:=Lib.hid hB0
  have hNm:bl=true∨(bl=false∧((c.toNat:Int) == 95)=true)∨(bl=false∧((c.toNat:Int) == 95)=false∧c.toNat≠95):=by
   cases bl
   ·by_cases h:c.toNat=95
    ·exact .inr (.inl ⟨rfl,by rw [beq_iff_eq];omega⟩)
    ·exact .inr (.inr ⟨rfl,by rw [beq_eq_false_iff_ne];omega,h⟩)
   ·exact .inl rfl
  have HXN:Hid ((bl=true∨((c.toNat:Int) == 95)=true)→firstS (c :: r)=nameS (c :: r)):=by
   intro h
   rw [HX.out,if_pos]
   rcases h with h | h
   ·rw [h];rfl
   ·rw [decide_eq_true (show c.toNat=95 by rw [beq_iff_eq] at h;omega)];simp
  rcases hNm with rfl | ⟨rfl,b95⟩ | ⟨rfl,b95,n95⟩
  ·have HX2:=Lib.hid (HXN.out (.inl rfl))
   clear hB0 c0 c1 c2 c3 c4 f0 f1 f2 f3 f4
   go_wp2_with fail
   refine (name_any s (c :: r) w' HL.out (by omega) HM.out).mono ?_;rintro e w2 ⟨⟨k,t,v,d,p,n,rfl,hok⟩,hw2⟩
   have hB2:=hB.out.below hw2
   have hN2:=Nx.trans hN0 hw2
   have HOK:=Lib.hid hok
   obtain ⟨c0,c1,c2,c3,c4,f0,f1,f2,f3,f4⟩:=cells5 hB2
   clear hok
   go_wp2_with fail
   try simp only [Exit.inBlock,Exit.then]
   refine bodyPost_ret (results_cell_tmp2_row rfl _ _ g _ _ _ _ rfl hB2.put5.2 Tryz.underlying40 rfl (by kernel_rfl)) rfl ?_
   rw [HX2.out]
   exact ⟨⟨_,_,_,_,_,_,rfl,HOK.out⟩,hN2.put5 (by omega)⟩
  ·have HX2:=Lib.hid (HXN.out (.inr b95))
   clear hB0 c0 c1 c2 c3 c4 f0 f1 f2 f3 f4
   go_wp2_with fail
   refine (name_any s (c :: r) w' HL.out (by omega) HM.out).mono ?_;rintro e w2 ⟨⟨k,t,v,d,p,n,rfl,hok⟩,hw2⟩
   have hB2:=hB.out.below hw2
   have hN2:=Nx.trans hN0 hw2
   have HOK:=Lib.hid hok
   obtain ⟨c0,c1,c2,c3,c4,f0,f1,f2,f3,f4⟩:=cells5 hB2
   clear hok
   go_wp2_with fail
   try simp only [Exit.inBlock,Exit.then]
   refine bodyPost_ret (results_cell_tmp2_row rfl _ _ g _ _ _ _ rfl hB2.put5.2 Tryz.underlying40 rfl (by kernel_rfl)) rfl ?_
   rw [HX2.out]
   exact ⟨⟨_,_,_,_,_,_,rfl,HOK.out⟩,hN2.put5 (by omega)⟩
  ·have HX2:Hid (firstS (c :: r)=if bd || decide (c.toNat=43) || decide (c.toNat=45) || decide (c.toNat=46) then numberS (c :: r)
    else if c.toNat=34∨c.toNat=39 then quotedS c r
    else if signsL.contains c then (0,⟨5,[c],0,0,0⟩,1) else (2,tok0,0)):=by
    unfold Hid;rw [HX.out,if_neg (by simp;exact n95)]
   clear n95 HXN HX
   go_wp2_with fail
   refine (isDigit_any c _).mono ?_;rintro e w' ⟨rfl,rfl⟩
   rw [hbd.out]
   have hNu:(bd=true∨bd=false∧(((c.toNat:Int) == 43)=true∨((c.toNat:Int) == 43)=false∧(((c.toNat:Int) == 45)=true∨((c.toNat:Int) == 45)=false∧((c.toNat:Int) == 46)=true))) ∨
     (bd=false∧((c.toNat:Int) == 43)=false∧((c.toNat:Int) == 45)=false∧((c.toNat:Int) == 46)=false∧c.toNat≠43∧c.toNat≠45∧c.toNat≠46):=by
    cases bd
    ·by_cases h1:c.toNat=43
     ·exact .inl (.inr ⟨rfl,.inl (by rw [beq_iff_eq];omega)⟩)
     ·have e1:((c.toNat:Int) == 43)=false:=by rw [beq_eq_false_iff_ne];omega
      by_cases h2:c.toNat=45
      ·exact .inl (.inr ⟨rfl,.inr ⟨e1,.inl (by rw [beq_iff_eq];omega)⟩⟩)
      ·have e2:((c.toNat:Int) == 45)=false:=by rw [beq_eq_false_iff_ne];omega
       by_cases h3:c.toNat=46
       ·exact .inl (.inr ⟨rfl,.inr ⟨e1,.inr ⟨e2,by rw [beq_iff_eq];omega⟩⟩⟩)
       ·exact .inr ⟨rfl,e1,e2,by rw [beq_eq_false_iff_ne];omega,h1,h2,h3⟩
    ·exact .inl (.inl rfl)
   rcases hNu with hNu | ⟨rfl,b43,b45,b46,n43,n45,n46⟩
   ·have HX3:Hid (firstS (c :: r)=numberS (c :: r)):=by
     unfold Hid
     rw [HX2.out,if_pos]
     rcases hNu with h | ⟨_,h | ⟨_,h | ⟨_,h⟩⟩⟩
     ·rw [h];rfl
     ·rw [decide_eq_true (show c.toNat=43 by rw [beq_iff_eq] at h;omega)];simp
     ·rw [decide_eq_true (show c.toNat=45 by rw [beq_iff_eq] at h;omega)];simp
     ·rw [decide_eq_true (show c.toNat=46 by rw [beq_iff_eq] at h;omega)];simp
    rcases hNu with rfl | ⟨rfl,b43 | ⟨b43,b45 | ⟨b45,b46⟩⟩⟩
    all_goals
     clear hB0 c0 c1 c2 c3 c4 f0 f1 f2 f3 f4
     go_wp2_with fail
     refine (number_any s (c :: r) w' HL.out hs).mono ?_;rintro e w2 ⟨⟨k,t,v,d,p,n,rfl,hok⟩,hw2⟩
     have hB2:=hB.out.below hw2
     have hN2:=Nx.trans hN0 hw2
     have HOK:=Lib.hid hok
     obtain ⟨c0,c1,c2,c3,c4,f0,f1,f2,f3,f4⟩:=cells5 hB2
     clear hok
     go_wp2_with fail
     try simp only [Exit.inBlock,Exit.then]
     refine bodyPost_ret (results_cell_tmp2_row rfl _ _ g _ _ _ _ rfl hB2.put5.2 Tryz.underlying40 rfl (by kernel_rfl)) rfl ?_
     rw [HX3.out]
     exact ⟨⟨_,_,_,_,_,_,rfl,HOK.out⟩,hN2.put5 (by omega)⟩
   ·have HX3:Hid (firstS (c :: r)=if c.toNat=34∨c.toNat=39 then quotedS c r
     else if signsL.contains c then (0,⟨5,[c],0,0,0⟩,1) else (2,tok0,0)):=by
     unfold Hid;rw [HX2.out,if_neg (by simp;exact ⟨⟨n43,n45⟩,n46⟩)]
    clear n43 n45 n46
    have hQ:(((c.toNat:Int) == 34)=true∨((c.toNat:Int) == 34)=false∧((c.toNat:Int) == 39)=true)∨(((c.toNat:Int) == 34)=false∧((c.toNat:Int) == 39)=false∧¬ (c.toNat=34∨c.toNat=39)):=by
     by_cases h1:c.toNat=34
     ·exact .inl (.inl (by rw [beq_iff_eq];omega))
     ·have e1:((c.toNat:Int) == 34)=false:=by rw [beq_eq_false_iff_ne];omega
      by_cases h2:c.toNat=39
      ·exact .inl (.inr ⟨e1,by rw [beq_iff_eq];omega⟩)
      ·exact .inr ⟨e1,by rw [beq_eq_false_iff_ne];omega,by omega⟩
    rcases hQ with hQ | ⟨b34,b39,hq⟩
    ·have HX4:Hid (firstS (c :: r)=quotedS c r):=by
      unfold Hid
      rw [HX3.out,if_pos]
      rcases hQ with h | ⟨_,h⟩
      ·rw [beq_iff_eq] at h;omega
      ·rw [beq_iff_eq] at h;omega
     rcases hQ with b34 | ⟨b34,b39⟩
     all_goals
      clear hB0 c0 c1 c2 c3 c4 f0 f1 f2 f3 f4
      go_wp2_with fail
      refine (quoted_any s c r w' HL.out (by omega)).mono ?_;rintro e w2 ⟨⟨k,t,v,d,p,n,rfl,hok⟩,hw2⟩
      have hB2:=hB.out.below hw2
      have hN2:=Nx.trans hN0 hw2
      have HOK:=Lib.hid hok
      obtain ⟨c0,c1,c2,c3,c4,f0,f1,f2,f3,f4⟩:=cells5 hB2
      clear hok
      go_wp2_with fail
      try simp only [Exit.inBlock,Exit.then]
      refine bodyPost_ret (results_cell_tmp2_row rfl _ _ g _ _ _ _ rfl hB2.put5.2 Tryz.underlying40 rfl (by kernel_rfl)) rfl ?_
      rw [HX4.out]
      exact ⟨⟨_,_,_,_,_,_,rfl,HOK.out⟩,hN2.put5 (by omega)⟩
    ·have HX4:Hid (firstS (c :: r)=if signsL.contains c then (0,⟨5,[c],0,0,0⟩,1) else (2,tok0,0)):=by
      unfold Hid;rw [HX3.out,if_neg hq]
     clear hq
     go_wp2_with fail
     refine (Tryz.strings_IndexByte ⟨#[123,125,40,41,91,93,60,62,44,59,58,61,42]⟩ (c.toNat:Int) w').mono ?_;rintro e w' ⟨rfl,rfl⟩
     have hI:Hid (Lib.indexByte (ByteArray.mk #[123,125,40,41,91,93,60,62,44,59,58,61,42]).data.toList (c.toNat:Int).toNat.toUInt8=Lib.indexByte signsL c):=by
      have hq:(c.toNat:Int).toNat.toUInt8=c:=by rw [Int.toNat_natCast];exact UInt8.ofNat_toNat
      unfold Hid;rw [hq];rfl
     rw [hI.out]
     obtain ⟨I,hI2⟩:∃ I,Hid (Lib.indexByte signsL c=I):=⟨_,rfl⟩
     have hcase:=index_signs c
     rw [hI2.out] at hcase ⊢
     rcases hcase with ⟨hI0,hcon⟩ | ⟨rfl,hcon⟩
     ·have HX5:Hid (firstS (c :: r)=(0,⟨5,[c],0,0,0⟩,1)):=by unfold Hid;rw [HX4.out,if_pos hcon]
      have b0:decide ((0:Int)≤I)=true:=decide_eq_true hI0
      clear hcon
      clear hB0 c0 c1 c2 c3 c4 f0 f1 f2 f3 f4
      go_wp2_with fail
      refine (tfresh_any u [c] w' HU2.out).mono ?_;rintro e w2 ⟨rfl,hw2⟩
      have hB2:=hB.out.below hw2
      have hN2:=Nx.trans hN0 hw2
      obtain ⟨c0,c1,c2,c3,c4,f0,f1,f2,f3,f4⟩:=cells5 hB2
      go_wp2_with fail
      try simp only [Exit.inBlock,Exit.then]
      refine bodyPost_ret (results_cell_tmp2_row rfl _ _ g _ _ _ _ rfl hB2.put5.2 Tryz.underlying40 rfl (by kernel_rfl)) rfl ?_
      rw [HX5.out]
      exact ⟨⟨_,_,_,_,_,_,rfl,fun _=>⟨rfl,rfl⟩⟩,hN2.put5 (by omega)⟩
     ·have HX5:Hid (firstS (c :: r)=(2,tok0,0)):=by unfold Hid;rw [HX4.out,if_neg (by rw [hcon];decide)]
      clear hcon
      go_wp2_with fail
      try simp only [Exit.inBlock,Exit.then]
      refine bodyPost_ret (results_cell_tmp2_row rfl _ _ g _ _ _ _ rfl hB0.put5.2 Tryz.underlying40 rfl (by kernel_rfl)) rfl ?_
      rw [HX5.out]
      exact ⟨⟨_,_,_,_,_,_,rfl,fun h=>by cases h⟩,hN0.put5 (by omega)⟩
end Go.Proofs.YteclejplbphkpaaGreat
namespace Go.Proofs.YteclejplbphkpaaGreat
open Go.RowKit
def atOf (b:Nat) (w:World):Nat:=match w.cell? ⟨b,1,none⟩ with
 | some (.int _ n)=>n.toNat
 | _=>0
theorem Blk.put_4 {w:World} {B g:Nat} {T:TypeId} {a0 a1 a2 a3 a4 v:Value} (h:Blk w B g #[a0,a1,a2,a3,a4] T):Blk (w.setCell ⟨g,4,none⟩ v) B g #[a0,a1,a2,a3,v] T:=h.put 4 v
theorem Blk.other5 {w:World} {B g k:Nat} {cs:Array Value} {T:TypeId} {v0 v1 v2 v3 v4:Value} (h:Blk w B g cs T) (hk:k≠g) :
  Blk (((((w.setCell ⟨k,0,none⟩ v0).setCell ⟨k,1,none⟩ v1).setCell ⟨k,2,none⟩ v2).setCell ⟨k,3,none⟩ v3).setCell ⟨k,4,none⟩ v4) B g cs T :=
 ((((h.other hk _ _).other hk _ _).other hk _ _).other hk _ _).other hk _ _
theorem numTok_is (x:TokV) (k:Int) (h:k=(x.k:Nat)):(decide (k=2) || decide (k=3))=numTok x:=by
 subst h;unfold numTok;rw [Bool.eq_iff_iff];simp;omega
theorem nameS_len (l:List UInt8):(nameS l).2.2≤l.length:=by
 have:=spanN_le isNmS l
 unfold nameS
 split
 ·exact Nat.zero_le _
 ·split
  ·exact Nat.zero_le _
  ·exact this
theorem numberS_len (l:List UInt8):(numberS l).2.2≤l.length:=by
 have h1:=(hexN_le l).1
 have h2:=decN_le l
 unfold numberS
 split
 ·exact h1
 ·split
  ·exact Nat.zero_le _
  ·split <;> exact h2
theorem quotedS_len (q:UInt8) (r:List UInt8):(quotedS q r).2.2≤r.length+1:=by
 have h1:=spanN_le (fun c=>decide (c≠q)) r
 have h2:quoteN q r≤r.length:=h1
 unfold quotedS
 split
 ·exact Nat.zero_le _
 ·rename_i h
  dsimp only
  omega
theorem first_len (l:List UInt8):(firstS l).2.2≤l.length:=by
 cases l with
 | nil=>exact Nat.le_refl _
 | cons c r =>
  rw [show firstS (c :: r)=if isLetS c || decide (c.toNat=95) then nameS (c :: r)
   else if isDig c || decide (c.toNat=43) || decide (c.toNat=45) || decide (c.toNat=46) then numberS (c :: r)
   else if c.toNat=34∨c.toNat=39 then quotedS c r
   else if signsL.contains c then (0,⟨5,[c],0,0,0⟩,1) else (2,tok0,0) from rfl]
  split
  ·exact nameS_len _
  ·split
   ·exact numberS_len _
   ·split
    ·have:=quotedS_len c r;simp;omega
    ·split
     ·simp
     ·exact Nat.zero_le _
end Go.Proofs.YteclejplbphkpaaGreat
