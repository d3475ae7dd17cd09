/- The contracts of token's cursor. The contract of token.Lex (what is plain of it). The contract of token.Lex. The words of a text rise, and the last one is the end. Plain lemmas; and the laws' test of whether token does anything yet. How many words there are. Plain lemmas. The words of a text: places rise, the last one is the end. Plain lemmas. -/
import Derived.Test.YteclejplbphkpaaGreatG13
import Derived.Test.YteclejplbphkpaaGreatG15
import Derived.Test.YteclejplbphkpaaGreatG04
import Derived.Test.YteclejplbphkpaaGreatG08
set_option linter.unusedVariables false
set_option linter.unusedSimpArgs false
set_option linter.unnecessarySimpa false
namespace Go.Proofs.YteclejplbphkpaaGreat
open Go.RowKit
set_option maxRecDepth 100000 in
set_option maxHeartbeats 800000 in
theorem isNumber_any (k v p:Int) (t:ByteArray) (d:Int) (w:World) :
  Calls Tryz.prog 20 #[.agg #[.int .i64 k,.string t,.int .i64 v,.int .u64 d,.int .i64 p]] w fun e w'=>e = .returned (.bool (decide (k=2) || decide (k=3)))∧Nx w w':=by
 go_enter Tryz.func20,Tryz.ntmps20
 go_wp2_with fail
 all_goals
  go_ret
  refine ⟨congrArg (fun b=>Ending.returned (Value.bool b)) ?_,nx0 _ _⟩
  rw [Bool.eq_iff_iff]
  simp
  try omega
set_option maxRecDepth 100000 in
set_option maxHeartbeats 800000 in
theorem goesOn_any (s:ByteArray) (l:List UInt8) (w:World) (hl:Tx s l) :
  Calls Tryz.prog 21 #[.string s] w fun e w'=>e = .returned (.bool (goesS l))∧w'=w:=by
 cases l with
 | nil =>
  have e1:=hl.nil.1
  clear hl
  go_enter Tryz.func21,Tryz.ntmps21
  go_wp2_with fail
  go_ret
  exact ⟨rfl,rfl⟩
 | cons c r =>
  obtain ⟨hp,t,e0,e1,ht,e2,e3⟩:=hl.cons
  clear hl ht
  go_enter Tryz.func21,Tryz.ntmps21
  go_wp2_with fail
  refine (isOfName_any c w).mono ?_;rintro e w' ⟨rfl,rfl⟩
  have hG:Hid (goesS (c :: r)=isNmS c):=rfl
  obtain ⟨b,hb⟩:∃ b,Hid (isNmS c=b):=⟨_,rfl⟩
  rw [hb.out]
  go_wp2_with fail
  go_ret
  rw [hG.out,hb.out]
  exact ⟨by first | rfl | simp,rfl⟩
abbrev Cur (w:World) (b:Nat) (s:ByteArray) (o:Nat):Prop:=Blk w b b #[.string s,.int .i64 (o:Int)] 47
set_option maxRecDepth 100000 in
set_option maxHeartbeats 800000 in
theorem rest_any (b:Nat) (s:ByteArray) (l:List UInt8) (o:Nat) (w:World) (hB:Cur w b s o) (hl:Tx s l) (ho:o≤l.length) :
  Calls Tryz.prog 19 #[.pointer (some ⟨b,0,none⟩)] w fun e w'=>∃ u,e = .returned (.string u)∧Hid (Tx u (l.drop o))∧Nx w w':=by
 obtain ⟨u,hu,HU⟩:=hl.from_ o
 have hz:(o:Int)≤(s.size:Int):=by rw [hl.size];omega
 have c0:w.cell? ⟨b,0,none⟩=some (.string s):=hB.cell 0
 have c1:w.cell? ⟨b,1,none⟩=some (.int .i64 (o:Int)):=hB.cell 1
 clear hl ho hB
 go_enter Tryz.func19,Tryz.ntmps19
 go_wp2_with fail
 go_quiet (fail)
 go_wp2_with fail
 go_ret
 exact ⟨u,rfl,HU,(Nx.refl w).dr _⟩
theorem Cur.at_ {w:World} {b:Nat} {s:ByteArray} {o:Nat} (h:Cur w b s o):atOf b w=o:=by
 unfold atOf
 rw [show w.cell? ⟨b,1,none⟩=some (.int .i64 (o:Int)) from h.cell 1]
 simp
set_option maxRecDepth 100000 in
set_option maxHeartbeats 1600000 in
theorem skip_any (b:Nat) (s:ByteArray) (l:List UInt8) (o:Nat) (w:World) (hB:Cur w b s o) (hl:Tx s l) (ho:o≤l.length) (hs:(l.length:Int)≤8000) (hm:MaxC w) (hb:b≠0) :
  Calls Tryz.prog 17 #[.pointer (some ⟨b,0,none⟩)] w fun e w'=>e = .returned (.bool (skipS (l.drop o)).2)∧Cur w' b s (o+(skipS (l.drop o)).1)∧Oth b w w':=by
 have HL:=Lib.hid hl
 have HM:=Lib.hid hm
 have HB:=Lib.hid hB
 obtain ⟨P,hP⟩:∃ P,Hid (skipS (l.drop o)=P):=⟨_,rfl⟩
 rw [hP.out]
 obtain ⟨pn,pb⟩:=P
 clear hl hm hB
 go_enter Tryz.func17,Tryz.ntmps17
 go_wp2_with fail
 go_loopw [] (fun wr=>∃ n:Nat,Cur wr b s (o+n)∧o+n≤l.length∧Hid (pn=n+(skipS (l.drop (o+n))).1∧(skipS (l.drop (o+n))).2=pb)∧Oth b w wr) (fun wr=>10000 - atOf b wr)
 case atStart=>exact ⟨0,HB.out,ho,by unfold Hid;simp [hP.out],Oth.refl _ _⟩
 case round =>
  obtain ⟨n,hC,hn,HS,ho⟩:=hrel
  obtain ⟨l1,hl1⟩:∃ l1,Hid (l.drop (o+n)=l1):=⟨_,rfl⟩
  rw [hl1.out] at HS
  have hl1n:l1.length+(o+n)=l.length:=by rw [← hl1.out];simp;omega
  have hat:=hC.at_
  have HC:=Lib.hid hC
  have HO:=Lib.hid ho
  obtain ⟨G,hG⟩:∃ G,Hid (gapS l1=G):=⟨_,rfl⟩
  obtain ⟨gn,gb⟩:=G
  have hgle:=(gapS_le l1).1
  rw [hG.out] at hgle
  have hst:=skipS_step l1
  rw [hG.out] at hst
  have HST:=Lib.hid hst
  have HLE:=Lib.hid hgle
  have hnI:(o:Int)+(n:Int)≤8000:=by omega
  have hgI:(gn:Int)≤8000:=by simp at hgle;omega
  clear hC ho hst hgle
  go_wp2_with fail
  refine (rest_any b s l (o+n) _ HC.out HL.out hn).mono ?_;rintro e w1 ⟨u,rfl,HU,hw1⟩
  rw [hl1.out] at HU
  have ho1:=HO.out.trans (Oth.nx hw1)
  have hC1:=HC.out.below hw1
  go_wp2_with fail
  refine (gap_any u l1 _ HU.out (by omega) (ho1.maxC HM.out hb)).mono ?_;rintro e w' ⟨rfl,rfl⟩
  rw [hG.out]
  by_cases h0:gn=0
  ·subst h0
   have HF:Hid (skipS l1=(0,gb)):=HST.out
   go_wp2_with fail
   go_ret
   have:=HS.out
   rw [HF.out] at this
   obtain ⟨rfl,rfl⟩:=this
   exact ⟨rfl,hC1,ho1⟩
  ·have b0:((gn:Int) == 0)=false:=by rw [beq_eq_false_iff_ne];omega
   have HF:Hid (skipS l1=(gn+(skipS (l1.drop gn)).1,(skipS (l1.drop gn)).2)):=by unfold Hid;rw [HST.out,if_neg h0]
   have c1:w'.cell? ⟨b,1,none⟩=some (.int .i64 ((o+n:Nat):Int)):=hC1.cell 1
   have f1:=hC1.free 1
   have HG0:=Lib.hid h0
   clear h0
   go_wp2_with fail
   go_roundw
   case rel =>
    have hd:l.drop (o+(n+gn))=l1.drop gn:=by rw [← hl1.out,List.drop_drop];congr 1;omega
    refine ⟨n+gn,?_,?_,?_,ho1.own⟩
    ·have e:((o:Int)+(n:Int)+(gn:Int))=((o+(n+gn):Nat):Int):=by omega
     rw [e]
     exact hC1.put 1 _
    ·have:=HLE.out;omega
    ·unfold Hid
     rw [hd]
     have h1:=HS.out
     rw [HF.out] at h1
     exact ⟨by rw [h1.1];simp;omega,h1.2⟩
   case measure =>
    have e:((o:Int)+(n:Int)+(gn:Int))=((o+(n+gn):Nat):Int):=by omega
    rw [e]
    have h1:Cur (w'.setCell ⟨b,1,none⟩ (.int .i64 ((o+(n+gn):Nat):Int))) b s (o+(n+gn)):=hC1.put 1 _
    rw [h1.at_,hat]
    have:=HLE.out
    have:=HG0.out
    omega
set_option maxRecDepth 100000 in
set_option maxHeartbeats 3200000 in
theorem tnext_any (b:Nat) (s:ByteArray) (l:List UInt8) (o:Nat) (w:World) (hB:Cur w b s o) (hl:Tx s l) (ho:o≤l.length) (hs:(l.length:Int)≤8000) (hm:MaxC w) (hb:b≠0) :
  Calls Tryz.prog 10 #[.pointer (some ⟨b,0,none⟩)] w fun e w'=>∃ k t v d p,e = .returned (.tuple #[.agg #[.int .i64 k,.string t,.int .i64 v,.int .u64 d,.int .i64 p],.int .i64 ((nextS o (l.drop o)).1:Nat)]) ∧
   ((nextS o (l.drop o)).1≠0→Cur w' b s (nextS o (l.drop o)).2.1) ∧
   ((nextS o (l.drop o)).1=0→#[.int .i64 k,.string t,.int .i64 v,.int .u64 d,.int .i64 p]=tokC (nextS o (l.drop o)).2.2.1∧Cur w' b s (o+(nextS o (l.drop o)).2.2.2))∧Oth b w w':=by
 obtain ⟨g,hg⟩:∃ g,w.heap.size=g:=⟨_,rfl⟩
 have hbg:b<g:=by rw [← hg];exact hB.lt
 have hB0:=Blk.new w #[.int .i64 0,.string ⟨#[]⟩,.int .i64 0,.int .u64 0,.int .i64 0] 40
 rw [hg] at hB0
 have hN0:Nx w (w.alloc (Obj.cells #[.int .i64 0,.string ⟨#[]⟩,.int .i64 0,.int .u64 0,.int .i64 0] 40)):=nx0 _ _
 have HL:=Lib.hid hl
 have hC0:=hB.below hN0
 have HM:=Lib.hid (hm.nx hN0)
 obtain ⟨X,hX⟩:∃ X,Hid (nextS o (l.drop o)=X):=⟨_,rfl⟩
 rw [hX.out]
 obtain ⟨xe,xat,xt,xn⟩:=X
 obtain ⟨P,hP⟩:∃ P,Hid (skipS (l.drop o)=P):=⟨_,rfl⟩
 obtain ⟨pn,pb⟩:=P
 have hpn:=skipS_le (l.drop o)
 rw [hP.out] at hpn
 have hop:o+pn≤l.length:=by simp at hpn;omega
 have HX:Hid ((xe,xat,xt,xn)=if pb=false then (2,o+pn,tok0,0)
  else if (wordS (l.drop (o+pn))).1≠0 then ((wordS (l.drop (o+pn))).1,o+pn+(wordS (l.drop (o+pn))).2.1,tok0,0)
  else (0,0,{ (wordS (l.drop (o+pn))).2.2.1 with p:=o+pn },pn+(wordS (l.drop (o+pn))).2.2.2)):=by
  unfold Hid
  rw [← hX.out]
  unfold nextS
  rw [hP.out,List.drop_drop]
 obtain ⟨m,hmm⟩:∃ m,Hid (l.drop (o+pn)=m):=⟨_,rfl⟩
 rw [hmm.out] at HX
 have hml:m.length≤l.length:=by rw [← hmm.out];simp
 clear hl hm hB hpn hX
 go_enter Tryz.func10,Tryz.ntmps10
 go_wp2_with fail
 generalize hW1:World.alloc _ _=w1 at *
 refine (skip_any b s l o w1 hC0 HL.out ho hs HM.out hb).mono ?_;rintro e w2 ⟨rfl,hC2,ho2⟩
 rw [hP.out] at hC2 ⊢
 dsimp only at hC2 ⊢
 have hT2:=ho2.blk hB0 (by omega)
 have hO2:=Oth.mono ho2 hN0
 have HM2:=Lib.hid (ho2.maxC HM.out hb)
 obtain ⟨c0,c1,c2,c3,c4,f0,f1,f2,f3,f4⟩:=cells5 hT2
 cases pb
 ·have hx:=HX.out
  rw [if_pos rfl] at hx
  simp only [Prod.mk.injEq] at hx
  obtain ⟨rfl,rfl,-,-⟩:=hx
  clear HX
  go_wp2_with fail
  refine bodyPost_ret (results_cell_tmp_row rfl _ _ g _ _ _ _ rfl hT2.put5.2 Tryz.underlying40 rfl (by kernel_rfl)) rfl ?_
  refine ⟨_,_,_,_,_,rfl,fun _=>?_,fun h=>by simp at h,hO2.put5 (by omega)⟩
  exact hC2.other5 (by omega)
 ·have HX2:Hid ((xe,xat,xt,xn)=if (wordS m).1≠0 then ((wordS m).1,o+pn+(wordS m).2.1,tok0,0)
   else (0,0,{ (wordS m).2.2.1 with p:=o+pn },pn+(wordS m).2.2.2)):=by unfold Hid;rw [HX.out,if_neg (by simp)]
  have d1:w2.cell? ⟨b,1,none⟩=some (.int .i64 ((o+pn:Nat):Int)):=hC2.cell 1
  have HC2:=Lib.hid hC2
  clear HX hC2
  clear c0 c1 c2 c3 c4 f0 f1 f2 f3 f4
  go_wp2_with fail
  refine (rest_any b s l (o+pn) _ HC2.out HL.out hop).mono ?_;rintro e w3 ⟨u,rfl,HU,hw3⟩
  rw [hmm.out] at HU
  have hC3:=HC2.out.below hw3
  have hT3:=hT2.below hw3
  have hO3:=hO2.trans (Oth.nx hw3)
  go_wp2_with fail
  obtain ⟨F,hF⟩:∃ F,Hid (firstS m=F):=⟨_,rfl⟩
  obtain ⟨fe,fx,fn⟩:=F
  have hW:wordS m=if fe≠0 then (fe,0,tok0,0) else if numTok fx && goesS (m.drop fn) then (2,fn,tok0,0) else (0,0,fx,fn):=by unfold wordS;rw [hF.out]
  refine (first_any u m _ HU.out (by omega) (HM2.out.nx hw3)).mono ?_;rintro e w4 ⟨⟨k,t,v,d,p,n,rfl,hok⟩,hw4⟩
  rw [hF.out] at hok ⊢
  dsimp only at hok ⊢
  have hC4:=Lib.hid (hC3.below hw4)
  have hT4:=hT3.below hw4
  have hO4:=hO3.trans (Oth.nx hw4)
  have HW:=Lib.hid hW
  have HOK:=Lib.hid hok
  obtain ⟨c0,c1,c2,c3,c4,f0,f1,f2,f3,f4⟩:=cells5 hT4
  clear hW hok
  by_cases h0:fe=0
  ·subst h0
   have HW2:Hid (wordS m=if numTok fx && goesS (m.drop fn) then (2,fn,tok0,0) else (0,0,fx,fn)):=HW.out
   obtain ⟨hcs,rfl⟩:=HOK.out rfl
   obtain ⟨fk,ft,fv,fd,fp⟩:=fx
   unfold tokC at hcs
   simp at hcs
   obtain ⟨rfl,rfl,rfl,rfl,rfl⟩:=hcs
   have d1:w4.cell? ⟨b,1,none⟩=some (.int .i64 ((o+pn:Nat):Int)):=hC4.out.cell 1
   have fb1:=hC4.out.free 1
   have hfn:=first_len m
   rw [hF.out] at hfn
   dsimp only at hfn
   have hopn:o+pn+fn≤l.length:=by
    have:m.length=l.length - (o+pn):=by rw [← hmm.out];simp
    omega
   have hfnI:(o:Int)+(pn:Int)+(fn:Int)≤8000:=by omega
   have hdm:Hid (l.drop (o+pn+fn)=m.drop fn):=by unfold Hid;rw [← hmm.out,List.drop_drop]
   obtain ⟨nb,hnb⟩:∃ nb,Hid ((decide ((fk:Int)=2) || decide ((fk:Int)=3))=nb):=⟨_,rfl⟩
   have hnt:numTok ⟨fk,ft,v,fd,fp⟩=nb:=by rw [← hnb.out];exact (numTok_is ⟨fk,ft,v,fd,fp⟩ fk rfl).symm
   rw [hnt] at HW2
   clear hnt hfn
   go_wp2_with fail
   generalize hW5:World.setCell _ _ _=w5
   have hT5:Blk w5 g g #[.int .i64 (fk:Nat),.string ⟨ft.toArray⟩,.int .i64 v,.int .u64 (fd:Nat),.int .i64 (fp:Nat)] 40:=by rw [← hW5];exact hT4.put5.other (by omega) _ _
   have hC5:Cur w5 b s (o+pn+fn):=by
    rw [← hW5]
    have e:((o:Int)+(pn:Int)+(fn:Int))=((o+pn+fn:Nat):Int):=by omega
    rw [e]
    exact (hC4.out.other5 (by omega)).put 1 _
   have hO5:Oth b w w5:=by rw [← hW5];exact (hO4.put5 (by omega)).own
   clear hW5 c0 c1 c2 c3 c4 f0 f1 f2 f3 f4 d1 fb1
   refine (isNumber_any _ _ _ _ _ w5).mono ?_;rintro e w6 ⟨rfl,hw6⟩
   rw [hnb.out]
   have hT6:=hT5.below hw6
   have hC6:=Lib.hid (hC5.below hw6)
   have hO6:=hO5.trans (Oth.nx hw6)
   cases nb
   ·have HW3:Hid (wordS m=(0,0,⟨fk,ft,v,fd,fp⟩,fn)):=HW2
    have hx:=HX2.out
    rw [HW3.out,if_neg (by simp)] at hx
    simp only [Prod.mk.injEq] at hx
    obtain ⟨rfl,rfl,rfl,rfl⟩:=hx
    obtain ⟨c0,c1,c2,c3,c4,f0,f1,f2,f3,f4⟩:=cells5 hT6
    clear HX2
    go_wp2_with fail
    refine bodyPost_ret (results_cell_tmp_row rfl _ _ g _ _ _ _ rfl hT6.put_4.put5.2 Tryz.underlying40 rfl (by kernel_rfl)) rfl ?_
    refine ⟨_,_,_,_,_,rfl,⟨by simp [tokC],?_⟩,(hO6.put (by omega) _ _).put5 (by omega)⟩
    rw [show o+(pn+fn)=o+pn+fn by omega]
    exact (hC6.out.other (by omega) _ _).other5 (by omega)
   ·have HW3:Hid (wordS m=if goesS (m.drop fn) then (2,fn,tok0,0) else (0,0,⟨fk,ft,v,fd,fp⟩,fn)):=by unfold Hid;rw [HW2.out,Bool.true_and]
    go_wp2_with fail
    refine (rest_any b s l (o+pn+fn) _ hC6.out HL.out hopn).mono ?_;rintro e w7 ⟨u7,rfl,HU7,hw7⟩
    rw [hdm.out] at HU7
    have hT7:=hT6.below hw7
    have hC7:=Lib.hid (hC6.out.below hw7)
    have hO7:=hO6.trans (Oth.nx hw7)
    go_wp2_with fail
    refine (goesOn_any u7 _ _ HU7.out).mono ?_;rintro e w8 ⟨rfl,rfl⟩
    obtain ⟨gb,hgb⟩:∃ gb,Hid (goesS (m.drop fn)=gb):=⟨_,rfl⟩
    rw [hgb.out] at HW3 ⊢
    obtain ⟨c0,c1,c2,c3,c4,f0,f1,f2,f3,f4⟩:=cells5 hT7
    cases gb
    ·have HW4:Hid (wordS m=(0,0,⟨fk,ft,v,fd,fp⟩,fn)):=HW3
     have hx:=HX2.out
     rw [HW4.out,if_neg (by simp)] at hx
     simp only [Prod.mk.injEq] at hx
     obtain ⟨rfl,rfl,rfl,rfl⟩:=hx
     clear HX2
     go_wp2_with fail
     refine bodyPost_ret (results_cell_tmp_row rfl _ _ g _ _ _ _ rfl hT7.put_4.put5.2 Tryz.underlying40 rfl (by kernel_rfl)) rfl ?_
     refine ⟨_,_,_,_,_,rfl,⟨by simp [tokC],?_⟩,(hO7.put (by omega) _ _).put5 (by omega)⟩
     rw [show o+(pn+fn)=o+pn+fn by omega]
     exact (hC7.out.other (by omega) _ _).other5 (by omega)
    ·have HW4:Hid (wordS m=(2,fn,tok0,0)):=HW3
     have hx:=HX2.out
     rw [HW4.out,if_pos (by simp)] at hx
     simp only [Prod.mk.injEq] at hx
     obtain ⟨rfl,rfl,rfl,rfl⟩:=hx
     clear HX2
     go_wp2_with fail
     refine bodyPost_ret (results_cell_tmp_row rfl _ _ g _ _ _ _ rfl hT7.put5.2 Tryz.underlying40 rfl (by kernel_rfl)) rfl ?_
     exact ⟨_,_,_,_,_,rfl,fun _=>hC7.out.other5 (by omega),fun h=>by simp at h,hO7.put5 (by omega)⟩
  ·have HW2:Hid (wordS m=(fe,0,tok0,0)):=by unfold Hid;rw [HW.out,if_pos h0]
   have hx:=HX2.out
   rw [HW2.out,if_pos h0] at hx
   simp only [Prod.mk.injEq] at hx
   obtain ⟨rfl,rfl,-,-⟩:=hx
   have b0:((xe:Int) != 0)=true:=by simp;omega
   have H0:=Lib.hid h0
   clear HX2
   go_wp2_with fail
   refine bodyPost_ret (results_cell_tmp_row rfl _ _ g _ _ _ _ rfl hT4.put5.put5.2 Tryz.underlying40 rfl (by kernel_rfl)) rfl ?_
   refine ⟨_,_,_,_,_,rfl,fun _=>?_,fun h=>absurd h H0.out,(hO4.put5 (by omega)).put5 (by omega)⟩
   exact (hC4.out.other5 (by omega)).other5 (by omega)
end Go.Proofs.YteclejplbphkpaaGreat
namespace Go.Proofs.YteclejplbphkpaaGreat
open Go.RowKit
theorem first_pos (l:List UInt8) (h:(firstS l).1=0) (h6:(firstS l).2.1.k≠6):1≤(firstS l).2.2:=by
 cases l with
 | nil=>exact absurd rfl h6
 | cons c r =>
  have e:firstS (c :: r)=if isLetS c || decide (c.toNat=95) then nameS (c :: r)
   else if isDig c || decide (c.toNat=43) || decide (c.toNat=45) || decide (c.toNat=46) then numberS (c :: r)
   else if c.toNat=34∨c.toNat=39 then quotedS c r
   else if signsL.contains c then (0,⟨5,[c],0,0,0⟩,1) else (2,tok0,0):=rfl
  rw [e] at h ⊢
  split at h
  ·rename_i h1
   rw [if_pos h1]
   have h2:1≤spanN isNmS (c :: r):=by
    unfold spanN
    rw [if_pos]
    ·omega
    ·unfold isNmS
     simp at h1 ⊢
     rcases h1 with h1 | h1
     ·simp [h1]
     ·simp [h1]
   unfold nameS at h ⊢
   split at h
   ·cases h
   ·rename_i h3
    rw [if_neg h3]
    split at h
    ·cases h
    ·rename_i h4
     rw [if_neg h4]
     exact h2
  ·rename_i h1
   rw [if_neg h1]
   split at h
   ·rename_i h2
    rw [if_pos h2]
    have h3:=(hexN_le (c :: r)).2.1
    unfold numberS at h ⊢
    split at h
    ·rename_i h4
     rw [if_pos h4]
     have:=h3 h4
     dsimp only
     omega
    ·rename_i h4
     rw [if_neg h4]
     split at h
     ·cases h
     ·rename_i h5
      rw [if_neg h5]
      split
      ·dsimp only;omega
      ·dsimp only;omega
   ·rename_i h2
    rw [if_neg h2]
    split at h
    ·rename_i h3
     rw [if_pos h3]
     unfold quotedS at h ⊢
     split at h
     ·cases h
     ·rename_i h4
      rw [if_neg h4]
      dsimp only;omega
    ·rename_i h3
     rw [if_neg h3]
     split at h
     ·rename_i h4
      rw [if_pos h4]
      exact Nat.le_refl _
     ·cases h
theorem word_ok (l:List UInt8) (h:(wordS l).1=0):wordS l=(0,0,(firstS l).2.1,(firstS l).2.2)∧(firstS l).1=0:=by
 unfold wordS at h ⊢
 split at h
 ·rename_i h1;exact absurd h h1
 ·rename_i h1
  rw [if_neg h1]
  split at h
  ·cases h
  ·rename_i h2
   rw [if_neg h2]
   exact ⟨rfl,by simpa using h1⟩
theorem next_len (o:Nat) (l:List UInt8) (h:(nextS o l).1=0):(nextS o l).2.2.2≤l.length∧((nextS o l).2.2.1.k≠6→1≤(nextS o l).2.2.2)∧(nextS o l).2.1=0:=by
 have hs:=skipS_le l
 unfold nextS at h ⊢
 split at h
 ·cases h
 ·rename_i h1
  rw [if_neg h1]
  split at h
  ·rename_i h2;exact absurd h h2
  ·rename_i h2
   rw [if_neg h2]
   have hw:=word_ok (l.drop (skipS l).1) (by simpa using h2)
   have hl:=first_len (l.drop (skipS l).1)
   rw [hw.1]
   dsimp only
   refine ⟨by simp at hl;omega,fun h6=>?_,rfl⟩
   have:=first_pos _ hw.2 h6
   omega
def cat (acc:List TokV) (r:List TokV×Nat×Nat):List TokV×Nat×Nat:=if r.2.1≠0 then r else (acc++r.1,0,0)
theorem cat_nil (r:List TokV×Nat×Nat) (h:r.2.1=0→r.2.2=0):cat [] r=r:=by
 unfold cat
 split
 ·rfl
 ·rename_i h1
  obtain ⟨a,b,c⟩:=r
  have hb:b=0:=by simpa using h1
  subst hb
  have:=h rfl
  dsimp only at this
  subst this
  rfl
theorem lexF_zero (f o:Nat) (l:List UInt8):(lexF f o l).2.1=0→(lexF f o l).2.2=0:=by
 induction f generalizing o l with
 | zero=>intro _;rfl
 | succ f ih =>
  unfold lexF
  split
  ·rename_i h;intro h2;exact absurd h2 h
  ·split
   ·intro _;rfl
   ·split
    ·intro h2;rename_i h3;exact absurd h2 h3
    ·intro _;rfl
theorem lexF_err (f o:Nat) (l:List UInt8) (h:(nextS o l).1≠0):lexF (f+1) o l=([],(nextS o l).1,(nextS o l).2.1):=by
 conv=>lhs;unfold lexF
 rw [if_pos h]
theorem lexF_end (f o:Nat) (l:List UInt8) (h:(nextS o l).1=0) (h6:(nextS o l).2.2.1.k=6):lexF (f+1) o l=([(nextS o l).2.2.1],0,0):=by
 conv=>lhs;unfold lexF
 rw [if_neg (by simpa using h),if_pos h6]
theorem lexF_more (f o:Nat) (l:List UInt8) (h:(nextS o l).1=0) (h6:(nextS o l).2.2.1.k≠6) (acc:List TokV) :
  cat acc (lexF (f+1) o l)=cat (acc++[(nextS o l).2.2.1]) (lexF f (o+(nextS o l).2.2.2) (l.drop (nextS o l).2.2.2)):=by
 conv=>lhs;unfold lexF
 rw [if_neg (by simpa using h),if_neg h6]
 generalize lexF f (o+(nextS o l).2.2.2) (l.drop (nextS o l).2.2.2)=r
 unfold cat
 by_cases h0:r.2.1≠0
 ·simp [h0]
 ·rw [if_neg h0,if_neg h0]
  simp
theorem cell_newT {w:World} {cs:Array Value} {T:TypeId} {g j:Nat} (hg:g=w.heap.size):(w.alloc (.cells cs T)).cell? ⟨g,j,none⟩=cs[j]?:=by
 subst hg;exact (Blk.new w cs T).cell j
theorem own_ne {w:World} {B:Nat} {v:Value} {xs:List TokV} (h:OwnT w B v xs):v.ownBlock≠some w.heap.size:=fun e=>by
 have:=World.ownsRow.lt h _ e
 omega
theorem Oth.bel {b B:Nat} {x y z:World} (h:Oth b x y) (hz:x.heap.size≤B) (hb:Below B y z):Oth b x z :=
 ⟨hb.os.trans h.os,hb.tape.trans h.tape,hb.output.trans h.output,Nat.le_trans h.size hb.size,fun k hk hkb=>(hb.block k (Nat.lt_of_lt_of_le hk hz)).trans (h.block k hk hkb)⟩
theorem Blk.bel {w w':World} {C B g:Nat} {cs:Array Value} {T:TypeId} (h:Blk w B g cs T) (hb:Below C w w') (hg:g<C):Blk w' B g cs T:=⟨h.1,by rw [hb.block g hg];exact h.2⟩
end Go.Proofs.YteclejplbphkpaaGreat
namespace Go.Proofs.YteclejplbphkpaaGreat
open Go.RowKit
set_option maxRecDepth 100000 in
set_option maxHeartbeats 3200000 in
theorem lex_any (s:ByteArray) (l:List UInt8) (w:World) (hl:Tx s l) (hs:(l.length:Int)≤140737488355328) (hm:MaxC w) :
  Calls Tryz.prog 5 #[.string s] w fun e w'=>∃ v,e = .returned (.tuple #[v,.int .i64 ((lexS l).2.1:Nat),.int .i64 ((lexS l).2.2:Nat)])∧OwnT w' w.heap.size v (lexS l).1∧Nx w w':=by
 have HL:=Lib.hid hl
 have hz:(s.size:Int)=(l.length:Int):=by rw [hl.size]
 obtain ⟨R,hR⟩:∃ R,Hid (lexS l=R):=⟨_,rfl⟩
 rw [hR.out]
 by_cases hlong:2000<l.length
 ·have g1:decide ((2000:Int)<(l.length:Int))=true:=decide_eq_true (by omega)
  have hr:R=([],4,0):=by rw [← hR.out];unfold lexS;rw [if_pos hlong]
  subst hr
  clear hl hlong
  go_enter Tryz.func5,Tryz.ntmps5
  go_wp2_with fail
  go_ret3
  exact ⟨_,rfl,OwnT.nil_ _ _,Nx.refl _⟩
 ·have g1:decide ((2000:Int)<(l.length:Int))=false:=decide_eq_false (by omega)
  have hs2:(l.length:Int)≤2000:=by omega
  have HR:Hid (lexF (l.length+1) 0 l=R):=by unfold Hid;rw [← hR.out];unfold lexS;rw [if_neg hlong]
  obtain ⟨b,hb⟩:∃ b,w.heap.size=b:=⟨_,rfl⟩
  have hbm:b≠0:=by
   obtain ⟨m,hmm⟩:=hm
   have:=World.block_lt_of_cell? w _ hmm
   intro e
   rw [← hb] at e
   exact absurd this (by simp only;omega)
  have hB0:=Blk.new w #[.string s,.int .i64 0] 47
  rw [hb] at hB0
  have hN0:Nx w (w.alloc (Obj.cells #[.string s,.int .i64 0] 47)):=nx0 _ _
  have HM:=Lib.hid (hm.nx hN0)
  have hsz:(w.alloc (Obj.cells #[.string s,.int .i64 0] 47)).heap.size=b+1:=by simp [hb]
  clear hl hlong hm
  go_enter Tryz.func5,Tryz.ntmps5
  go_wp2_with fail
  generalize hW1:World.alloc _ _=w1 at *
  go_loopw [2] (fun lv wr=>∃ (o f:Nat) (acc:List TokV),OwnT wr (b+1) lv acc∧Cur wr b s o∧o≤l.length∧Hid (R=cat acc (lexF f o (l.drop o)))∧l.length - o<f∧acc.length≤o∧Oth b w1 wr) (fun _ wr=>10000 - atOf b wr)
  case atStart=>exact ⟨0,l.length+1,[],OwnT.nil_ _ _,hB0,Nat.zero_le _,by unfold Hid;rw [List.drop_zero,cat_nil _ (lexF_zero _ _ _)];exact HR.out.symm,by omega,Nat.zero_le _,Oth.refl _ _⟩
  case round =>
   obtain ⟨o,f,acc,hown,hC,ho,HS,hf,hacc,hO⟩:=hrel
   obtain ⟨f,rfl⟩:∃ k,f=k+1:=⟨f - 1,by omega⟩
   obtain ⟨X,hX⟩:∃ X,Hid (nextS o (l.drop o)=X):=⟨_,rfl⟩
   have hnl:=next_len o (l.drop o)
   have hE:=lexF_err f o (l.drop o)
   have hD:=lexF_end f o (l.drop o)
   have hMo:=fun h h6=>lexF_more f o (l.drop o) h h6 acc
   rw [hX.out] at hnl hE hD hMo
   obtain ⟨xe,xat,xt,xn⟩:=X
   dsimp only at hnl hE hD hMo
   have HE:=Lib.hid hE
   have HD:=Lib.hid hD
   have HMo:=Lib.hid hMo
   have HNL:=Lib.hid hnl
   have hat:=hC.at_
   have HC:=Lib.hid hC
   have HOWN:=Lib.hid hown
   have HO:=Lib.hid hO
   clear hE hD hMo hnl hC hown hO
   go_wp2_with fail
   refine (tnext_any b s l o _ HC.out HL.out ho (by omega) (HO.out.maxC HM.out hbm) hbm).mono ?_;rintro e w2 ⟨k,t,v,d,p,rfl,h1,h2,ho2⟩
   rw [hX.out] at h1 h2 ⊢
   dsimp only at h1 h2 ⊢
   have hO2:=HO.out.trans ho2
   have hown2:=HOWN.out.oth ho2 (by omega)
   by_cases he:xe=0
   ·subst he
    obtain ⟨hcs,hC2⟩:=h2 rfl
    obtain ⟨hn1,hn2,hn3⟩:=HNL.out rfl
    rw [List.length_drop] at hn1
    obtain ⟨fk,ft,fv,fd,fp⟩:=xt
    unfold tokC at hcs
    simp at hcs
    obtain ⟨rfl,rfl,rfl,rfl,rfl⟩:=hcs
    have hsz2:b+1≤w2.heap.size:=by have:=hO2.size;omega
    have hal:(acc.length:Int)≤100000:=by omega
    clear h1 h2
    by_cases h6:fk=6
    ·subst h6
     have HRS:Hid (R=(acc++[⟨6,ft,v,fd,fp⟩],0,0)):=by unfold Hid;rw [HS.out,HD.out rfl rfl];rfl
     go_wp2_with (at_builtin;go_must (refine wpList_appT _ rfl _ _ rfl (b+1) _ acc ⟨6,ft,v,fd,fp⟩ rfl ((hown2.alloc _).alloc _) _ rfl (fun j hj=>cell_newT (by simp)) hal (by simp;omega) ?_;intro v3 w3 hown3 hbel3 hold3;have c0:w3.cell? ⟨w2.heap.size,0,none⟩=some (.int .i64 (6:Int)):=(World.cell?_of_block (hold3 w2.heap.size (by simp;omega) (own_ne hown2))).trans (((Blk.new w2 _ _).alloc _).cell 0)))
     go_ret3
     rw [HRS.out]
     refine ⟨_,rfl,hown3.less (by omega),?_⟩
     exact Oth.to ((hO2.trans (Oth.nx (nxa (nx0 w2 _) _))).bel (Nat.le_of_eq hsz) hbel3) hN0 (by omega)
    ·have h6b:((fk:Int) == 6)=false:=by rw [beq_eq_false_iff_ne];omega
     have HRS:Hid (R=cat (acc++[⟨fk,ft,v,fd,fp⟩]) (lexF f (o+xn) (l.drop (o+xn)))):=by unfold Hid;rw [HS.out,HMo.out rfl h6,List.drop_drop]
     go_wp2_with (at_builtin;go_must (refine wpList_appT _ rfl _ _ rfl (b+1) _ acc ⟨fk,ft,v,fd,fp⟩ rfl ((hown2.alloc _).alloc _) _ rfl (fun j hj=>cell_newT (by simp)) hal (by simp;omega) ?_;intro v3 w3 hown3 hbel3 hold3;have c0:w3.cell? ⟨w2.heap.size,0,none⟩=some (.int .i64 ((fk:Nat):Int)):=(World.cell?_of_block (hold3 w2.heap.size (by simp;omega) (own_ne hown2))).trans (((Blk.new w2 _ _).alloc _).cell 0)))
     go_roundw
     case rel =>
      exact ⟨o+xn,f,acc++[⟨fk,ft,v,fd,fp⟩],hown3,((hC2.alloc _).alloc _).bel hbel3 (by omega),by omega,HRS,by have:=hn2 h6;omega,by have:=hn2 h6;simp;omega,(hO2.trans (Oth.nx (nxa (nx0 w2 _) _))).bel (Nat.le_of_eq hsz) hbel3⟩
     case measure =>
      have hC3:=((hC2.alloc (.cells #[.int .i64 (fk:Nat),.string ⟨ft.toArray⟩,.int .i64 v,.int .u64 (fd:Nat),.int .i64 (fp:Nat)] 40)).alloc (.cells #[.int .i64 (fk:Nat),.string ⟨ft.toArray⟩,.int .i64 v,.int .u64 (fd:Nat),.int .i64 (fp:Nat)] 40)).bel hbel3 (by omega)
      have:=Cur.at_ hC3
      have:=hn2 h6
      omega
   ·have hC2:=h1 he
    have HRS:Hid (R=([],xe,xat)):=by unfold Hid;rw [HS.out,HE.out he];unfold cat;rw [if_pos he]
    have b0:((xe:Int) != 0)=true:=by simp;omega
    have hsz2:b+1≤w2.heap.size:=by have:=hO2.size;omega
    have hN2:Nx w w2:=Oth.to hO2 hN0 (by omega)
    clear h1 h2
    go_wp2_with fail
    generalize hW3:World.alloc _ _=w3
    have c1:w3.cell? ⟨b,1,none⟩=some (.int .i64 (xat:Int)):=by rw [← hW3];exact (hC2.alloc _).cell 1
    have hN3:Nx w w3:=by rw [← hW3];exact hN2.al _
    clear hW3
    go_quiet (fail)
    go_wp2_with fail
    go_ret3
    rw [HRS.out]
    exact ⟨_,rfl,OwnT.nil_ _ _,hN3.dr _⟩
end Go.Proofs.YteclejplbphkpaaGreat
namespace Go.Proofs.YteclejplbphkpaaGreat
open Go.RowKit
theorem lex_begun1:lexS [97,32,61,32,49]=([⟨1,[97],0,0,0⟩,⟨5,[61],0,0,2⟩,⟨2,[],1,0,4⟩,⟨6,[],0,0,5⟩],0,0):=by
 have h:(lexS [97,32,61,32,49]).2=(0,0)∧(lexS [97,32,61,32,49]).1.map (fun t=>(t.k,t.t,t.n,t.d,t.p))=[(1,[97],0,0,0),(5,[61],0,0,2),(2,[],1,0,4),(6,[],0,0,5)]:=by decide +kernel
 obtain ⟨h1,h2⟩:=h
 generalize lexS [97,32,61,32,49]=R at *
 obtain ⟨ts,r⟩:=R
 dsimp only at h1 h2
 subst h1
 match ts,h2 with
 | [⟨_,_,_,_,_⟩,⟨_,_,_,_,_⟩,⟨_,_,_,_,_⟩,⟨_,_,_,_,_⟩],h2 =>
  simp at h2
  simp [h2]
theorem lex_begun2:(lexS [97,32,63]).2=(2,2):=by decide +kernel
set_option maxRecDepth 100000 in
set_option maxHeartbeats 1600000 in
theorem begun_any (w:World) (hm:MaxC w) :
  Calls Tryz.prog 4 #[] w fun e w'=>e = .returned (.bool true)∧Nx w w':=by
 go_enter Tryz.func4,Tryz.ntmps4
 have HM:=Lib.hid hm
 clear hm
 go_wp2_with fail
 refine (lex_any ⟨#[97,32,61,32,49]⟩ [97,32,61,32,49] w rfl (by decide) HM.out).mono ?_;rintro e w1 ⟨v1,rfl,hv1,hw1⟩
 rw [lex_begun1] at hv1 ⊢
 dsimp only at hv1 ⊢
 obtain ⟨A,c,rfl,hc1,hc2,hr⟩:=hv1.sl
 go_wp2_with fail
 refine (lex_any ⟨#[97,32,63]⟩ [97,32,63] w1 rfl (by decide) (HM.out.nx hw1)).mono ?_;rintro e w2 ⟨v2,rfl,hv2,hw2⟩
 rw [lex_begun2]
 have hr2:=hr.nx hw2
 obtain ⟨g,rfl,hg,-,-,a2,-,-⟩:=hr2.at_ 2 (by decide)
 obtain ⟨g',e,-,a3,-,-,-,-⟩:=hr2.at_ 3 (by decide)
 injection e with e
 injection e with e
 subst e
 have b2:w2.cell? ⟨g,12,none⟩=some (.int .i64 1):=a2
 have b3:w2.cell? ⟨g,15,none⟩=some (.int .i64 6):=a3
 clear hr hr2 a2 a3 hv1 hv2
 dsimp only [List.length] at *
 have hc3:(4:Int)≤(c:Int):=by simp at hc1;omega
 go_wp2_with fail
 go_ret
 exact ⟨rfl,Nx.trans hw1 hw2⟩
end Go.Proofs.YteclejplbphkpaaGreat
namespace Go.Proofs.YteclejplbphkpaaGreat
theorem lexF_length (f o:Nat) (l:List UInt8):(lexF f o l).1.length≤f:=by
 induction f generalizing o l with
 | zero=>exact Nat.le_refl _
 | succ f ih =>
  unfold lexF
  split
  ·exact Nat.zero_le _
  ·split
   ·simp
   ·split
    ·exact Nat.le_succ_of_le (ih _ _)
    ·simp only [List.length_cons]
     exact Nat.succ_le_succ (ih _ _)
theorem lexS_length (l:List UInt8):(lexS l).1.length≤2001:=by
 unfold lexS
 split
 ·exact Nat.zero_le _
 ·have:=lexF_length (l.length+1) 0 l
  omega
theorem first_t (l:List UInt8):(firstS l).2.1.t.length≤l.length:=by
 cases l with
 | nil=>exact Nat.le_refl _
 | cons c r =>
  have e:firstS (c :: r)=if isLetS c || decide (c.toNat=95) then nameS (c :: r)
   else if isDig c || decide (c.toNat=43) || decide (c.toNat=45) || decide (c.toNat=46) then numberS (c :: r)
   else if c.toNat=34∨c.toNat=39 then quotedS c r
   else if signsL.contains c then (0,⟨5,[c],0,0,0⟩,1) else (2,tok0,0):=rfl
  rw [e]
  split
  ·unfold nameS
   split
   ·exact Nat.zero_le _
   ·split
    ·exact Nat.zero_le _
    ·exact List.length_take_le' _ _
  ·split
   ·unfold numberS
    repeat' split
    all_goals exact Nat.zero_le _
   ·split
    ·unfold quotedS
     split
     ·exact Nat.zero_le _
     ·have:=List.length_take_le' (quoteN c r) r
      exact Nat.le_trans this (by simp)
    ·split
     ·simp
     ·exact Nat.zero_le _
theorem next_t (o:Nat) (l:List UInt8):(nextS o l).2.2.1.t.length≤l.length:=by
 unfold nextS
 split
 ·exact Nat.zero_le _
 ·split
  ·exact Nat.zero_le _
  ·dsimp only
   unfold wordS
   split
   ·exact Nat.zero_le _
   ·split
    ·exact Nat.zero_le _
    ·exact Nat.le_trans (first_t _) (by simp)
theorem lex_t:∀ (f o:Nat) (l:List UInt8),∀ x ∈ (lexF f o l).1,x.t.length≤l.length
 | 0,_,_=>fun x h=>by cases h
 | f+1,o,l=>by
  have ih:=lex_t f (o+(nextS o l).2.2.2) (l.drop (nextS o l).2.2.2)
  intro x hx
  unfold lexF at hx
  split at hx
  ·cases hx
  ·split at hx
   ·simp at hx;subst hx;exact next_t o l
   ·split at hx
    ·exact Nat.le_trans (ih x hx) (by simp)
    ·rcases List.mem_cons.1 hx with rfl | hx
     ·exact next_t o l
     ·exact Nat.le_trans (ih x hx) (by simp)
end Go.Proofs.YteclejplbphkpaaGreat
namespace Go.Proofs.YteclejplbphkpaaGreat
open Go.RowKit
def TextAt (L:List UInt8) (x:TokV):Prop:=x.k=1∨x.k=5→x.p+x.t.length≤L.length∧(L.take (x.p+x.t.length)).drop x.p=x.t
def Good (L:List UInt8):Nat→List TokV→Prop
 | _,[]=>False
 | o,[x]=>x.k=6∧o≤x.p∧x.p≤L.length
 | o,x :: y :: r=>x.k≠6∧o≤x.p∧x.p≤L.length∧TextAt L x∧Good L (x.p+1) (y :: r)
theorem Good.less {L:List UInt8} {o o':Nat} {ts:List TokV} (h:Good L o ts) (ho:o'≤o):Good L o' ts:=by
 match ts,h with
 | [x],h=>exact ⟨h.1,Nat.le_trans ho h.2.1,h.2.2⟩
 | x :: y :: r,h=>exact ⟨h.1,Nat.le_trans ho h.2.1,h.2.2⟩
theorem Good.at_ {L:List UInt8} {o:Nat} {ts:List TokV} (h:Good L o ts) (i:Nat) (hi:i<ts.length) :
  o≤ts[i].p∧ts[i].p≤L.length∧(ts[i].k=6↔i+1=ts.length)∧TextAt L ts[i]∧∀ j (hj:j+1=i),ts[j].p<ts[i].p:=by
 induction ts generalizing o i with
 | nil=>exact h.elim
 | cons x r ih =>
  cases r with
  | nil =>
   have:i=0:=by simp at hi;exact hi
   subst this
   refine ⟨h.2.1,h.2.2,⟨fun _=>rfl,fun _=>h.1⟩,fun hk=>?_,fun j hj=>by omega⟩
   have h6:x.k=6:=h.1
   rcases hk with hk | hk <;> (have hk':x.k=_:=hk;omega)
  | cons y r =>
   obtain ⟨h1,h2,h3,h4,h5⟩:=h
   cases i with
   | zero=>exact ⟨h2,h3,⟨fun e=>absurd e h1,fun e=>by simp at e⟩,h4,fun j hj=>by omega⟩
   | succ i =>
    obtain ⟨g1,g2,g3,g4,g5⟩:=ih h5 i (by simpa using hi)
    refine ⟨by simp;omega,by simpa using g2,?_,by simpa using g4,fun j hj=>?_⟩
    ·simp at g3 ⊢;exact g3
    ·cases j with
     | zero =>
      have:i=0:=by omega
      subst this
      simp at g1 ⊢
      omega
     | succ j =>
      have:=g5 j (by omega)
      simpa using this
theorem nameS_text (l:List UInt8) (h:(nameS l).1=0):(nameS l).2.1.k=1∧(nameS l).2.1.t=l.take (nameS l).2.1.t.length∧(nameS l).2.1.t.length≤l.length:=by
 have hn:=spanN_le isNmS l
 unfold nameS at h ⊢
 split at h
 ·cases h
 ·rename_i h1
  rw [if_neg h1]
  split at h
  ·cases h
  ·rename_i h2
   rw [if_neg h2]
   refine ⟨rfl,?_,by simp;omega⟩
   dsimp only
   rw [List.length_take,Nat.min_eq_left hn]
theorem numberS_k (l:List UInt8) (h:(numberS l).1=0):(numberS l).2.1.k=2∨(numberS l).2.1.k=3:=by
 unfold numberS at h ⊢
 split at h
 ·rename_i h1;rw [if_pos h1];exact .inl rfl
 ·rename_i h1
  rw [if_neg h1]
  split at h
  ·cases h
  ·rename_i h2
   rw [if_neg h2]
   split
   ·exact .inl rfl
   ·exact .inr rfl
theorem quotedS_k (q:UInt8) (r:List UInt8) (h:(quotedS q r).1=0):(quotedS q r).2.1.k=4:=by
 unfold quotedS at h ⊢
 split at h
 ·cases h
 ·rename_i h1;rw [if_neg h1]
theorem first_text (l:List UInt8) (h:(firstS l).1=0) (hk:(firstS l).2.1.k=1∨(firstS l).2.1.k=5):(firstS l).2.1.t=l.take (firstS l).2.1.t.length∧(firstS l).2.1.t.length≤l.length:=by
 cases l with
 | nil=>simp [firstS] at hk
 | cons c r =>
  rw [show firstS (c :: r)=if isLetS c || decide (c.toNat=95) then nameS (c :: r)
   else if isDig c || decide (c.toNat=43) || decide (c.toNat=45) || decide (c.toNat=46) then numberS (c :: r)
   else if c.toNat=34∨c.toNat=39 then quotedS c r
   else if signsL.contains c then (0,⟨5,[c],0,0,0⟩,1) else (2,tok0,0) from rfl] at h hk ⊢
  split at h
  ·rename_i h1
   rw [if_pos h1] at hk ⊢
   exact (nameS_text _ h).2
  ·rename_i h1
   rw [if_neg h1] at hk ⊢
   split at h
   ·rename_i h2
    rw [if_pos h2] at hk
    rcases numberS_k _ h with e | e <;> rw [e] at hk <;> simp at hk
   ·rename_i h2
    rw [if_neg h2] at hk ⊢
    split at h
    ·rename_i h3
     rw [if_pos h3] at hk
     rw [quotedS_k _ _ h] at hk
     simp at hk
    ·rename_i h3
     rw [if_neg h3] at hk ⊢
     split at h
     ·rename_i h4
      rw [if_pos h4]
      exact ⟨rfl,by simp⟩
     ·cases h
theorem next_text (L:List UInt8) (o:Nat) (h:(nextS o (L.drop o)).1=0) (ho:o≤L.length) :
  o≤(nextS o (L.drop o)).2.2.1.p∧(nextS o (L.drop o)).2.2.1.p≤L.length∧TextAt L (nextS o (L.drop o)).2.2.1 ∧
  ((nextS o (L.drop o)).2.2.1.k≠6→(nextS o (L.drop o)).2.2.1.p+1≤o+(nextS o (L.drop o)).2.2.2):=by
 have hs:=skipS_le (L.drop o)
 rw [List.length_drop] at hs
 generalize hl:L.drop o=l at *
 unfold nextS at h ⊢
 split at h
 ·cases h
 ·rename_i h1
  rw [if_neg h1]
  split at h
  ·rename_i h2;exact absurd h h2
  ·rename_i h2
   rw [if_neg h2]
   have hw:=word_ok (l.drop (skipS l).1) (by simpa using h2)
   rw [hw.1]
   dsimp only
   have hdd:l.drop (skipS l).1=L.drop (o+(skipS l).1):=by rw [← hl,List.drop_drop]
   refine ⟨by omega,by omega,fun hk=>?_,fun h6=>?_⟩
   ·dsimp only at hk ⊢
    have:=first_text _ hw.2 hk
    rw [hdd] at this ⊢
    obtain ⟨t1,t2⟩:=this
    rw [List.length_drop] at t2
    refine ⟨by omega,?_⟩
    rw [List.drop_take]
    rw [show o+(skipS l).1+(firstS (L.drop (o+(skipS l).1))).2.1.t.length - (o+(skipS l).1)=(firstS (L.drop (o+(skipS l).1))).2.1.t.length by omega]
    exact t1.symm
   ·have:=first_pos _ hw.2 h6
    omega
theorem lexF_good (L:List UInt8):∀ (f o:Nat),o≤L.length→L.length - o<f→(lexF f o (L.drop o)).2.1=0→Good L o (lexF f o (L.drop o)).1:=by
 intro f
 induction f with
 | zero=>intro o _ h;omega
 | succ f ih =>
  intro o ho hf he
  by_cases hn:(nextS o (L.drop o)).1=0
  ·obtain ⟨n1,n2,n3,n4⟩:=next_text L o hn ho
   have hl:=next_len o (L.drop o) hn
   rw [List.length_drop] at hl
   by_cases h6:(nextS o (L.drop o)).2.2.1.k=6
   ·rw [lexF_end f o _ hn h6]
    exact ⟨h6,n1,n2⟩
   ·have hc:=lexF_more f o _ hn h6 []
    rw [cat_nil _ (lexF_zero _ _ _)] at hc
    rw [hc] at he ⊢
    rw [List.drop_drop] at he ⊢
    have h1:=hl.2.1 h6
    have ih':=ih (o+(nextS o (L.drop o)).2.2.2) (by omega) (by omega)
    generalize hr:lexF f (o+(nextS o (L.drop o)).2.2.2) (L.drop (o+(nextS o (L.drop o)).2.2.2))=r at *
    unfold cat at he ⊢
    by_cases h0:r.2.1=0
    ·rw [if_neg (by simpa using h0)]
     have g:=ih' h0
     have h4:=n4 h6
     dsimp only
     cases hr1:r.1 with
     | nil=>rw [hr1] at g;exact g.elim
     | cons y ys =>
      rw [hr1] at g
      exact ⟨h6,n1,n2,n3,g.less h4⟩
    ·rw [if_pos h0] at he;exact absurd he h0
  ·rw [lexF_err f o _ hn] at he;exact absurd he hn
theorem lexF_bad (L:List UInt8):∀ (f o:Nat),o≤L.length→(lexF f o (L.drop o)).2.1≠0→(lexF f o (L.drop o)).1=[]∧(lexF f o (L.drop o)).2.2≤L.length:=by
 intro f
 induction f with
 | zero=>intro o _ h;exact absurd rfl h
 | succ f ih =>
  intro o ho he
  by_cases hn:(nextS o (L.drop o)).1=0
  ·have hl:=next_len o (L.drop o) hn
   rw [List.length_drop] at hl
   by_cases h6:(nextS o (L.drop o)).2.2.1.k=6
   ·rw [lexF_end f o _ hn h6] at he;exact absurd rfl he
   ·have hc:=lexF_more f o _ hn h6 []
    rw [cat_nil _ (lexF_zero _ _ _)] at hc
    rw [hc] at he ⊢
    rw [List.drop_drop] at he ⊢
    have ih':=ih (o+(nextS o (L.drop o)).2.2.2) (by omega)
    generalize hr:lexF f (o+(nextS o (L.drop o)).2.2.2) (L.drop (o+(nextS o (L.drop o)).2.2.2))=r at *
    unfold cat at he ⊢
    by_cases h0:r.2.1=0
    ·rw [if_neg (by simpa using h0)] at he;exact absurd rfl he
    ·rw [if_pos h0];exact ih' h0
  ·rw [lexF_err f o _ hn]
   refine ⟨rfl,?_⟩
   dsimp only
   have hs:=skipS_le (L.drop o)
   rw [List.length_drop] at hs
   unfold nextS
   split
   ·dsimp only;omega
   ·split
    ·dsimp only
     have:(wordS ((L.drop o).drop (skipS (L.drop o)).1)).2.1≤((L.drop o).drop (skipS (L.drop o)).1).length:=by
      have:=first_len ((L.drop o).drop (skipS (L.drop o)).1)
      unfold wordS
      split
      ·exact Nat.zero_le _
      ·split
       ·exact this
       ·exact Nat.zero_le _
     simp at this ⊢
     omega
    ·exact Nat.zero_le _
theorem lex_places (L:List UInt8):((lexS L).2.1=0→Good L 0 (lexS L).1)∧((lexS L).2.1≠0→(lexS L).1=[]∧(lexS L).2.2≤L.length):=by
 unfold lexS
 split
 ·exact ⟨fun h=>by simp at h,fun _=>⟨rfl,Nat.zero_le _⟩⟩
 ·have h1:=lexF_good L (L.length+1) 0 (Nat.zero_le _) (by omega)
  have h2:=lexF_bad L (L.length+1) 0 (Nat.zero_le _)
  rw [List.drop_zero] at h1 h2
  exact ⟨h1,h2⟩
end Go.Proofs.YteclejplbphkpaaGreat
