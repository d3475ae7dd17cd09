/- What the code's printer is asked for, and how it puts constants one behind the other. Plain. The contract of dec.Show: the digits that are shown. The contract of dec.Show. A region that draws its order: an invariant over what has been carried out serves every order. Plain lemmas over any program. A region that draws its order: an invariant that knows what has been carried out, and what not. Plain lemmas over any program. -/
import Derived.Test.YtjggghfekakogaaGreatDoorG11
import Derived.Test.YtjggghfekakogaaGreatDoorG06
import Derived.Laws.Bits64b
import Derived.Test.YtjggghfekakogaaGreatDoorG01
set_option linter.unusedVariables false
set_option linter.unusedSimpArgs false
set_option linter.unnecessarySimpa false
namespace Go.Proofs.YtjggghfekakogaaGreatDoor
def prC:Nat→Con→Prop
 | 0,_=>False
 | n+1,.mk k i d s l=>(1≤k∧k≤6)∧(k=6→l.length % 2=0)∧(-9223372036854775808≤i∧i≤9223372036854775807)∧d<18446744073709551616∧l.length≤100000∧∀ y ∈ l,prC n y
def sepF (sg:List UInt8) (i:Nat):List UInt8:=if i % 2=1 then sg else if 0<i then [44,32] else []
def innF (sg:List UInt8) (ts:List (List UInt8)):Nat→List UInt8
 | 0=>[]
 | i+1=>innF sg ts i++sepF sg i++ts.getD i []
theorem innF_list (ts:List (List UInt8)):∀ i,i≤ts.length→innF [44,32] ts i=commaF (ts.take i)
 | 0,_=>rfl
 | i+1,h=>by
  have h1:=(commaF_step ts i (by omega)).1
  rw [h1,← innF_list ts i (by omega)]
  show innF [44,32] ts i++sepF [44,32] i++ts.getD i []=_
  rw [List.getD_eq_getElem?_getD,List.getElem?_eq_getElem (show i<ts.length by omega)]
  unfold sepF
  by_cases h0:i=0
  ·subst h0;simp
  ·rw [if_neg h0,if_pos (show 0<i by omega)];simp
theorem innF_map (ts:List (List UInt8)):∀ m,2 * m≤ts.length→innF [58,32] ts (2 * m)=commaF (pairsF (ts.take (2 * m)))
 | 0,_=>by simp [innF,pairsF,commaF]
 | m+1,h=>by
  have h1:=(pairsF_step ts (2 * m) m rfl (by omega) (by omega)).1
  rw [show 2 * (m+1)=2 * m+2 by omega,h1,← innF_map ts m (by omega)]
  show innF [58,32] ts (2 * m)++sepF [58,32] (2 * m)++ts.getD (2 * m) []++sepF [58,32] (2 * m+1)++ts.getD (2 * m+1) []=_
  rw [List.getD_eq_getElem?_getD,List.getElem?_eq_getElem (show 2 * m<ts.length by omega),List.getD_eq_getElem?_getD,List.getElem?_eq_getElem (show 2 * m+1<ts.length by omega)]
  unfold sepF
  rw [if_neg (show ¬ 2 * m % 2=1 by omega),if_pos (show (2 * m+1) % 2=1 by omega)]
  by_cases h0:m=0
  ·subst h0;simp
  ·rw [if_pos (show 0<2 * m by omega),if_neg (show ¬ 2 * m=0 by omega)];simp
theorem innF_len (sg:List UInt8) (ts:List (List UInt8)) (i j:Nat) (h:i≤j):(innF sg ts i).length≤(innF sg ts j).length:=by
 induction j with
 | zero=>rw [show i=0 by omega];exact Nat.le_refl _
 | succ j ih =>
  by_cases he:i=j+1
  ·rw [he];exact Nat.le_refl _
  ·refine Nat.le_trans (ih (by omega)) ?_
   show _≤(innF sg ts j++sepF sg j++ts.getD j []).length
   rw [List.length_append,List.length_append];omega
theorem innF_step (sg:List UInt8) (ts:List (List UInt8)) (i:Nat) (h:i<ts.length):innF sg ts (i+1)=innF sg ts i++sepF sg i++ts[i]∧(innF sg ts i).length+(sepF sg i).length+(ts[i]).length≤(innF sg ts ts.length).length:=by
 have h1:innF sg ts (i+1)=innF sg ts i++sepF sg i++ts[i]:=by
  show innF sg ts i++sepF sg i++ts.getD i []=_
  rw [List.getD_eq_getElem?_getD,List.getElem?_eq_getElem h];rfl
 refine ⟨h1,?_⟩
 have h2:=innF_len sg ts (i+1) ts.length (by omega)
 rw [h1,List.length_append,List.length_append] at h2
 exact h2
def prF (f:Fld):Prop:=(-9223372036854775808≤f.id∧f.id≤9223372036854775807)∧(f.hasIn=true→prC 13 f.ini)
def prM (m:Met):Prop:=m.args.length≤100000∧(∀ f ∈ m.args,prF f)∧m.thr.length≤100000∧∀ f ∈ m.thr,prF f
def prD (d:Dfn):Prop:=(1≤d.k∧d.k≤7)∧(d.k=3→prC 13 d.ini)∧(d.fields.length≤100000∧∀ f ∈ d.fields,prF f)∧(d.mems.length≤100000∧∀ m ∈ d.mems,-9223372036854775808≤m.n∧m.n≤9223372036854775807)∧(d.mets.length≤100000∧∀ m ∈ d.mets,prM m) ∧
 (d.k≠7→d.ext=[]∧d.mets=[])∧(d.k≠2→d.mems=[])∧(d.k≠4→d.k≠5→d.k≠6→d.fields=[])
def prFil (f:Fil):Prop:=f.incs.length≤100000∧f.spaces.length≤100000∧f.defs.length≤100000∧∀ d ∈ f.defs,prD d
end Go.Proofs.YtjggghfekakogaaGreatDoor
namespace Go.Proofs.YtjggghfekakogaaGreatDoor
open Go.RowKit
set_option maxRecDepth 100000 in
set_option maxHeartbeats 1600000 in
theorem shortened_any (r:Value) (x y j:Nat) (w:World) (h:Ra w r x y j) (hj:j≤2000) (hx0:x≠0) (hy0:y≠0) (hlo:GE10 x y (-400)) (hhi:¬ GE10 x y 400) (ht:Tab w) :
  Calls Tryz.prog 152 #[r] w fun e w'=>∃ (T:Int) (t:ByteArray),e = .returned (.tuple #[.string t,.int .i64 (T+((decS (digQ x y T)).length:Nat) - 17)])∧Hid (GE10 x y T∧¬ GE10 x y (T+1))∧-400≤T∧T≤400∧Hid (Tx t (decS (digQ x y T)))∧Nx w w':=by
 have HX:=Lib.hid h
 obtain ⟨v,u,rfl,hv,hu,hx,hy⟩:=h
 obtain ⟨Av,lv,cv,rfl⟩:=hv.sl
 obtain ⟨Au,lu,cu,rfl⟩:=hu.sl
 have HLO:=Lib.hid hlo
 have HHI:=Lib.hid hhi
 clear hlo hhi
 obtain ⟨g,hg⟩:∃ g,w.heap.size=g:=⟨_,rfl⟩
 have hN:Nx w (w.alloc (Obj.cells #[.slice Av lv cv,.slice Au lu cu] 177)):=nx0 _ _
 have hB1:Blk (w.alloc (Obj.cells #[.slice Av lv cv,.slice Au lu cu] 177)) g g #[.slice Av lv cv,.slice Au lu cu] 177:=by rw [← hg];exact Blk.new w _ _
 go_enter Tryz.func152,Tryz.ntmps152
 go_wp2_with fail
 refine (log10_any _ x y j _ (HX.out.below hN) hj hx0 hy0 HLO.out HHI.out).mono ?_;rintro e w1 ⟨T,rfl,HT,hT1,hT2,hw1⟩
 have hN1:=Nx.trans hN hw1
 have hB2:=hB1.below hw1
 have c0:w1.cell? ⟨g,0,none⟩=some (.slice Av lv cv):=hB2.cell 0
 have c1:w1.cell? ⟨g,1,none⟩=some (.slice Au lu cu):=hB2.cell 1
 have hdb:=digQ_b x y T (Nat.pos_of_ne_zero hy0) HT.out.1 HT.out.2
 obtain ⟨D,HD⟩:∃ D,Hid (digQ x y T=D):=⟨_,rfl⟩
 rw [HD.out] at hdb
 have hd1:=hdb.1
 have hd2:=hdb.2
 clear hdb
 have hln:(decS D).length≤20:=decS_len 19 D (by omega)
 obtain ⟨n,hn⟩:∃ n,(decS D).length=n:=⟨_,rfl⟩
 have HN:=Lib.hid hn
 rw [hn] at hln
 clear hn
 go_wp2_with fail
 refine (timesTen_any _ x y j (16 - T) _ (HX.out.below hN1) (by omega) (by omega) (by omega)).mono ?_;rintro e w4 ⟨r4,rfl,hR4,hw4⟩
 obtain ⟨v4,u4,rfl,hv4,hu4,hx4,hy4⟩:=hR4
 have HR4:=Lib.hid (show Ra w4 (.agg #[v4,u4]) _ _ _ from ⟨v4,u4,rfl,hv4,hu4,hx4,hy4⟩)
 clear hv4 hu4 hx4 hy4
 have hyy:y * 10 ^ (-(16 - T)).toNat≠0:=Nat.pos_iff_ne_zero.1 (Nat.mul_pos (Nat.pos_of_ne_zero hy0) (Nat.pow_pos (by decide)))
 have HYY:=Lib.hid hyy
 clear hyy
 go_wp2_with fail
 have hdd:rnd (x * 10 ^ (16 - T).toNat) (y * 10 ^ (-(16 - T)).toNat)=D:=HD.out
 refine (rounded_any _ _ _ _ _ HR4.out (by omega) HYY.out (by rw [hdd];omega)).mono ?_;rintro e w5 ⟨rfl,hw5⟩
 rw [hdd]
 clear hdd
 have hN5:=Nx.trans (Nx.trans hN1 hw4) hw5
 clear c0 c1
 go_wp2_with fail
 refine (formatUint_any D _ (by omega) (by omega) (ht.nx hN5)).mono ?_;rintro e w6 ⟨t,rfl,HTx,hw6⟩
 have hts:t.size=n:=by rw [HTx.out.size,HN.out]
 go_wp2_with fail
 go_ret2
 refine ⟨T,t,?_,HT,hT1,hT2,by rw [HD.out];exact HTx,Nx.trans hN5 hw6⟩
 rw [HD.out,HN.out]
 rfl
end Go.Proofs.YtjggghfekakogaaGreatDoor
namespace Go.Proofs.YtjggghfekakogaaGreatDoor
open Go.RowKit
set_option maxRecDepth 100000 in
set_option maxHeartbeats 3200000 in
theorem dshow_any (B:Nat) (w:World) (hB:B<18446744073709551616) (ht:Tab w) :
  Calls Tryz.prog 103 #[.int .u64 B] w fun e w'=>∃ (t:ByteArray) (l:List UInt8),e = .returned (.string t)∧Hid (Tx t l)∧Hid (ShowR B l)∧Nx w w':=by
 have hand:=and63 B hB
 obtain ⟨b,hb⟩:∃ b,B % 9223372036854775808=b:=⟨_,rfl⟩
 have hsr:∀ l,ShowR B l↔(if LIM≤b then l=[] else if b=0 then l=sgS B++[48,46,48,101,48] else ∃ T:Int,GE10 (exX b) (exY b) T∧¬ GE10 (exX b) (exY b) (T+1)∧l=sgS B++showD T (digQ (exX b) (exY b) T)):=by
  intro l;unfold ShowR;rw [hb]
 have HSR:=Lib.hid hsr
 clear hsr
 have hB2:(B:Int)≤18446744073709551615:=by omega
 by_cases hneg:9223372036854775808≤B
 ·rw [if_pos hneg] at hand
  have hs:sgS B=[45]:=by unfold sgS;rw [if_pos hneg]
  have HS:=Lib.hid hs
  have hw1:(B:Int) - 9223372036854775808=(b:Int):=by omega
  have hb2:(b:Int)<9223372036854775808:=by omega
  clear hs hneg hb
  by_cases hinf:LIM≤b
  ·have b1:decide ((9218868437227405312:Int)≤(b:Int))=true:=decide_eq_true (by unfold LIM at hinf;omega)
   have HI:=Lib.hid hinf
   clear hinf
   go_enter Tryz.func103,Tryz.ntmps103
   go_wp2_with fail
   go_ret
   exact ⟨_,[],rfl,rfl,(HSR.out _).2 (by rw [if_pos HI.out]),Nx.refl _⟩
  ·have b1:decide ((9218868437227405312:Int)≤(b:Int))=false:=decide_eq_false (by unfold LIM at hinf;omega)
   have HI:=Lib.hid hinf
   by_cases h0:b=0
   ·subst h0
    clear hinf
    go_enter Tryz.func103,Tryz.ntmps103
    go_wp2_with fail
    go_ret
    exact ⟨_,rfl,[45,48,46,48,101,48],rfl,(HSR.out _).2 (by rw [if_neg HI.out];simp [HS.out]),Nx.refl _⟩
   ·have hbl:b<LIM:=by omega
    have b2:((b:Int) == 0)=false:=by rw [beq_eq_false_iff_ne];omega
    have hlo:=Lib.hid (ex_lo b hbl h0)
    have hhi:=Lib.hid (ex_hi b hbl h0)
    have hx0:=Lib.hid (Nat.pos_iff_ne_zero.1 (exX_pos b h0))
    have hy0:=Lib.hid (Nat.pos_iff_ne_zero.1 (exY_pos b))
    have hpb:=exP_b b hbl
    have HPB:=Lib.hid hpb
    have H0:=Lib.hid h0
    have HBL:=Lib.hid hbl
    have HT0:=Lib.hid ht
    clear hinf h0 hpb hbl ht
    go_enter Tryz.func103,Tryz.ntmps103
    go_wp2_with fail
    refine (exact_any b _ HBL.out).mono ?_;rintro e w1 ⟨r1,rfl,hR1,hw1'⟩
    obtain ⟨v1,u1,rfl,hv1,hu1,hx1,hy1⟩:=hR1
    have HR1:=Lib.hid (show Ra w1 (.agg #[v1,u1]) (exX b) (exY b) _ from ⟨v1,u1,rfl,hv1,hu1,hx1,hy1⟩)
    clear hv1 hu1 hx1 hy1
    go_wp2_with fail
    refine (shortened_any _ (exX b) (exY b) _ _ HR1.out (by have:=HPB.out;omega) hx0.out hy0.out hlo.out hhi.out (HT0.out.nx hw1')).mono ?_;rintro e w2 ⟨T,t,rfl,HT,hT1,hT2,HTx,hw2⟩
    obtain ⟨D,HD⟩:∃ D,Hid (digQ (exX b) (exY b) T=D):=⟨_,rfl⟩
    rw [HD.out] at HTx
    rw [HD.out]
    have hdb:=digQ_b (exX b) (exY b) T (Nat.pos_of_ne_zero hy0.out) HT.out.1 HT.out.2
    rw [HD.out] at hdb
    have hln:(decS D).length≤20:=decS_len 19 D (by omega)
    have hlp:=decS_pos D
    obtain ⟨n,hn⟩:∃ n,(decS D).length=n:=⟨_,rfl⟩
    have HN:=Lib.hid hn
    rw [hn] at hln hlp ⊢
    clear hdb hn
    obtain ⟨c,m,hcm⟩:∃ c m,decS D=c :: m:=by
     cases hq:decS D with
     | nil=>have:=HN.out;rw [hq] at this;simp at this;omega
     | cons c m=>exact ⟨c,m,rfl⟩
    have HCM:=Lib.hid hcm
    rw [hcm] at HTx
    obtain ⟨hp,t',e0,e1,ht',e2,e3⟩:=HTx.out.cons
    obtain ⟨d1,e4,hd1⟩:∃ d1,t.extract 0 1=d1∧Hid (Tx d1 [c]):=⟨_,rfl,by unfold Hid Tx;rw [Lib.extract_data,show t.data.toList=c :: m from HTx.out];rfl⟩
    have hts1:(1:Int)≤(t.size:Int):=by omega
    have hml:m.length≤20:=by have:=HN.out;rw [hcm] at this;simp at this;omega
    have HTP:=Lib.hid ht'
    have htl:=ht'.size
    have hE:∃ E:Int,T+(n:Int) - 17=E∧-1000≤E∧E≤1000:=⟨_,rfl,by omega,by omega⟩
    obtain ⟨E,hE0,hE1,hE2⟩:=hE
    have hE3 : -9223372036854775808≤E:=by omega
    have hE4:E≤9223372036854775807:=by omega
    have HTE:=Lib.hid hE0
    rw [hE0]
    have hN2:=Nx.trans hw1' hw2
    have hd1s:d1.size=1:=hd1.out.size
    clear hcm ht' e0 hE0
    have hres:ShowR B ([45]++(c :: 46 :: (tailS m++(101 :: tenS E)))):=by
     refine (HSR.out _).2 ?_
     rw [if_neg HI.out,if_neg H0.out]
     refine ⟨T,HT.out.1,HT.out.2,?_⟩
     rw [HS.out,HD.out]
     unfold showD
     rw [HN.out,HTE.out,HCM.out]
     rfl
    have HRES:=Lib.hid hres
    clear hres
    go_wp2_with fail
    refine (Tryz.strings_TrimRight_one t' 48 (by decide) _ (by omega)).mono ?_;rintro e w' ⟨rfl,hw'⟩
    rw [hw']
    obtain ⟨f1,hf1⟩:∃ f1:ByteArray,⟨(Lib.trimRightB t'.data.toList 48).toArray⟩=f1:=⟨_,rfl⟩
    have hff:Tx f1 (Lib.trimRightB m 48):=by rw [← hf1,show t'.data.toList=m from HTP.out];exact Tx.of _
    rw [hf1]
    clear hf1 hw'
    have hfl:=trimB_len m
    obtain ⟨q,HQ⟩:∃ q,Hid (Lib.trimRightB m 48=q):=⟨_,rfl⟩
    rw [HQ.out] at hff hfl
    cases q with
    | nil =>
     have z1:=hff.nil.1
     have HTL:Hid (tailS m=[48]):=by unfold Hid tailS;rw [HQ.out,if_pos rfl]
     clear hff
     go_wp2_with fail
     refine wp_region_hyb [(0,true),(1,true),(2,true),(3,true),(4,true),(5,true),(6,true),(7,true),(8,true),(9,false),(10,true),(11,true)] rfl (by kernel_rfl) ?_
     iterate 9 (refine hyb_calm rfl (fun K hK=>?_);go_simp;refine hK _ ?_;clear hK K)
     have hp1:Tx ((⟨#[45]⟩++d1++⟨#[46]⟩++⟨#[48]⟩++⟨#[101]⟩:ByteArray)) ([45]++(c :: 46 :: ([48]++[101]))):=by
      have:=Tx.app2 (Tx.app2 (Tx.app2 (Tx.app2 (Tx.of [45]) hd1.out) (Tx.of [46])) (Tx.of [48])) (Tx.of [101])
      unfold Tx at *
      rw [this];simp
     generalize hP:(⟨#[45]⟩++d1++⟨#[46]⟩++⟨#[48]⟩++⟨#[101]⟩:ByteArray)=P1 at *
     have hps:P1.size≤40:=hp1.sz 40 (by simp at hfl ⊢ <;> omega)
     have HP1:=Lib.hid hp1
     clear hP hp1
     refine hyb_alone rfl (fun w3 hn3 K hK=>?_)
     go_simp
     refine (itoa_any E _ hE3 hE4 (HT0.out.nx (Nx.trans hN2 hn3))).mono ?_;rintro e w4 ⟨t9,rfl,ht9,hw4⟩
     have hsum:P1.size+t9.size≤9223372036854775807:=by
      have:=ht9.out.sz 20 (tenS_len E hE1 hE2)
      omega
     have hsum':¬ 9223372036854775807<P1.size+t9.size:=by omega
     refine hK _ _ hw4 ?_
     clear hK K
     iterate 2 (refine hyb_calm rfl (fun K hK=>?_);go_simp;refine hK _ ?_;clear hK K)
     refine hyb_nil (fun w5 hn5=>?_)
     go_wp2_with fail
     go_ret
     have hN5:=Nx.trans (Nx.trans (Nx.trans hN2 hn3) hw4) hn5
     have hfin:Tx (P1++t9) ([45]++(c :: 46 :: (tailS m++(101 :: tenS E)))):=by
      have:=Tx.app2 HP1.out ht9.out
      unfold Tx at *
      rw [this,HTL.out];simp
     first
      | exact ⟨_,_,rfl,hfin,HRES.out,hN5⟩
      | exact ⟨_,rfl,_,hfin,HRES.out,hN5⟩
    | cons c9 q9 =>
     have z1:f1.toList=c9 :: q9:=hff.toL
     have hfs:f1.size≤20:=hff.sz 20 (by omega)
     have hfs0:¬ 9223372036854775807<3+f1.size:=by omega
     have hfs1:¬ 9223372036854775807<3+f1.size+1:=by omega
     have hfs2:¬ 9223372036854775807<2+f1.size:=by omega
     have hfs3:¬ 9223372036854775807<2+f1.size+1:=by omega
     have hfs4:¬ 9223372036854775807<f1.size+1:=by omega
     have HTL:Hid (tailS m=c9 :: q9):=by unfold Hid tailS;rw [HQ.out,if_neg (by simp)]
     have hff:=Lib.hid hff
     go_wp2_with fail
     refine wp_region_hyb [(0,true),(1,true),(2,true),(3,true),(4,true),(5,true),(6,true),(7,true),(8,true),(9,false),(10,true),(11,true)] rfl (by kernel_rfl) ?_
     iterate 9 (refine hyb_calm rfl (fun K hK=>?_);go_simp;refine hK _ ?_;clear hK K)
     have hp1:Tx ((⟨#[45]⟩++d1++⟨#[46]⟩++f1++⟨#[101]⟩:ByteArray)) ([45]++(c :: 46 :: (c9 :: q9++[101]))):=by
      have:=Tx.app2 (Tx.app2 (Tx.app2 (Tx.app2 (Tx.of [45]) hd1.out) (Tx.of [46])) hff.out) (Tx.of [101])
      unfold Tx at *
      rw [this];simp
     generalize hP:(⟨#[45]⟩++d1++⟨#[46]⟩++f1++⟨#[101]⟩:ByteArray)=P1 at *
     have hps:P1.size≤40:=hp1.sz 40 (by simp at hfl ⊢ <;> omega)
     have HP1:=Lib.hid hp1
     clear hP hp1
     refine hyb_alone rfl (fun w3 hn3 K hK=>?_)
     go_simp
     refine (itoa_any E _ hE3 hE4 (HT0.out.nx (Nx.trans hN2 hn3))).mono ?_;rintro e w4 ⟨t9,rfl,ht9,hw4⟩
     have hsum:P1.size+t9.size≤9223372036854775807:=by
      have:=ht9.out.sz 20 (tenS_len E hE1 hE2)
      omega
     have hsum':¬ 9223372036854775807<P1.size+t9.size:=by omega
     refine hK _ _ hw4 ?_
     clear hK K
     iterate 2 (refine hyb_calm rfl (fun K hK=>?_);go_simp;refine hK _ ?_;clear hK K)
     refine hyb_nil (fun w5 hn5=>?_)
     go_wp2_with fail
     go_ret
     have hN5:=Nx.trans (Nx.trans (Nx.trans hN2 hn3) hw4) hn5
     have hfin:Tx (P1++t9) ([45]++(c :: 46 :: (tailS m++(101 :: tenS E)))):=by
      have:=Tx.app2 HP1.out ht9.out
      unfold Tx at *
      rw [this,HTL.out];simp
     first
      | exact ⟨_,_,rfl,hfin,HRES.out,hN5⟩
      | exact ⟨_,rfl,_,hfin,HRES.out,hN5⟩
 ·rw [if_neg hneg] at hand
  have hs:sgS B=[]:=by unfold sgS;rw [if_neg hneg]
  have HS:=Lib.hid hs
  have hBb:B=b:=by omega
  subst hBb
  clear hs hneg hb
  by_cases hinf:LIM≤B
  ·have b1:decide ((9218868437227405312:Int)≤(B:Int))=true:=decide_eq_true (by unfold LIM at hinf;omega)
   have HI:=Lib.hid hinf
   clear hinf
   go_enter Tryz.func103,Tryz.ntmps103
   go_wp2_with fail
   go_ret
   exact ⟨_,[],rfl,rfl,(HSR.out _).2 (by rw [if_pos HI.out]),Nx.refl _⟩
  ·have b1:decide ((9218868437227405312:Int)≤(B:Int))=false:=decide_eq_false (by unfold LIM at hinf;omega)
   have HI:=Lib.hid hinf
   by_cases h0:B=0
   ·subst h0
    clear hinf
    go_enter Tryz.func103,Tryz.ntmps103
    go_wp2_with fail
    go_ret
    exact ⟨_,rfl,[48,46,48,101,48],rfl,(HSR.out _).2 (by rw [if_neg HI.out];simp [HS.out]),Nx.refl _⟩
   ·have hbl:B<LIM:=by omega
    have b2:((B:Int) == 0)=false:=by rw [beq_eq_false_iff_ne];omega
    have hlo:=Lib.hid (ex_lo B hbl h0)
    have hhi:=Lib.hid (ex_hi B hbl h0)
    have hx0:=Lib.hid (Nat.pos_iff_ne_zero.1 (exX_pos B h0))
    have hy0:=Lib.hid (Nat.pos_iff_ne_zero.1 (exY_pos B))
    have hpb:=exP_b B hbl
    have HPB:=Lib.hid hpb
    have H0:=Lib.hid h0
    have HBL:=Lib.hid hbl
    have HT0:=Lib.hid ht
    clear hinf h0 hpb hbl ht
    go_enter Tryz.func103,Tryz.ntmps103
    go_wp2_with fail
    refine (exact_any B _ HBL.out).mono ?_;rintro e w1 ⟨r1,rfl,hR1,hw1'⟩
    obtain ⟨v1,u1,rfl,hv1,hu1,hx1,hy1⟩:=hR1
    have HR1:=Lib.hid (show Ra w1 (.agg #[v1,u1]) (exX B) (exY B) _ from ⟨v1,u1,rfl,hv1,hu1,hx1,hy1⟩)
    clear hv1 hu1 hx1 hy1
    go_wp2_with fail
    refine (shortened_any _ (exX B) (exY B) _ _ HR1.out (by have:=HPB.out;omega) hx0.out hy0.out hlo.out hhi.out (HT0.out.nx hw1')).mono ?_;rintro e w2 ⟨T,t,rfl,HT,hT1,hT2,HTx,hw2⟩
    obtain ⟨D,HD⟩:∃ D,Hid (digQ (exX B) (exY B) T=D):=⟨_,rfl⟩
    rw [HD.out] at HTx
    rw [HD.out]
    have hdb:=digQ_b (exX B) (exY B) T (Nat.pos_of_ne_zero hy0.out) HT.out.1 HT.out.2
    rw [HD.out] at hdb
    have hln:(decS D).length≤20:=decS_len 19 D (by omega)
    have hlp:=decS_pos D
    obtain ⟨n,hn⟩:∃ n,(decS D).length=n:=⟨_,rfl⟩
    have HN:=Lib.hid hn
    rw [hn] at hln hlp ⊢
    clear hdb hn
    obtain ⟨c,m,hcm⟩:∃ c m,decS D=c :: m:=by
     cases hq:decS D with
     | nil=>have:=HN.out;rw [hq] at this;simp at this;omega
     | cons c m=>exact ⟨c,m,rfl⟩
    have HCM:=Lib.hid hcm
    rw [hcm] at HTx
    obtain ⟨hp,t',e0,e1,ht',e2,e3⟩:=HTx.out.cons
    obtain ⟨d1,e4,hd1⟩:∃ d1,t.extract 0 1=d1∧Hid (Tx d1 [c]):=⟨_,rfl,by unfold Hid Tx;rw [Lib.extract_data,show t.data.toList=c :: m from HTx.out];rfl⟩
    have hts1:(1:Int)≤(t.size:Int):=by omega
    have hml:m.length≤20:=by have:=HN.out;rw [hcm] at this;simp at this;omega
    have HTP:=Lib.hid ht'
    have htl:=ht'.size
    have hE:∃ E:Int,T+(n:Int) - 17=E∧-1000≤E∧E≤1000:=⟨_,rfl,by omega,by omega⟩
    obtain ⟨E,hE0,hE1,hE2⟩:=hE
    have hE3 : -9223372036854775808≤E:=by omega
    have hE4:E≤9223372036854775807:=by omega
    have HTE:=Lib.hid hE0
    rw [hE0]
    have hN2:=Nx.trans hw1' hw2
    have hd1s:d1.size=1:=hd1.out.size
    clear hcm ht' e0 hE0
    have hres:ShowR B ([]++(c :: 46 :: (tailS m++(101 :: tenS E)))):=by
     refine (HSR.out _).2 ?_
     rw [if_neg HI.out,if_neg H0.out]
     refine ⟨T,HT.out.1,HT.out.2,?_⟩
     rw [HS.out,HD.out]
     unfold showD
     rw [HN.out,HTE.out,HCM.out]
     rfl
    have HRES:=Lib.hid hres
    clear hres
    go_wp2_with fail
    refine (Tryz.strings_TrimRight_one t' 48 (by decide) _ (by omega)).mono ?_;rintro e w' ⟨rfl,hw'⟩
    rw [hw']
    obtain ⟨f1,hf1⟩:∃ f1:ByteArray,⟨(Lib.trimRightB t'.data.toList 48).toArray⟩=f1:=⟨_,rfl⟩
    have hff:Tx f1 (Lib.trimRightB m 48):=by rw [← hf1,show t'.data.toList=m from HTP.out];exact Tx.of _
    rw [hf1]
    clear hf1 hw'
    have hfl:=trimB_len m
    obtain ⟨q,HQ⟩:∃ q,Hid (Lib.trimRightB m 48=q):=⟨_,rfl⟩
    rw [HQ.out] at hff hfl
    cases q with
    | nil =>
     have z1:=hff.nil.1
     have HTL:Hid (tailS m=[48]):=by unfold Hid tailS;rw [HQ.out,if_pos rfl]
     clear hff
     go_wp2_with fail
     refine wp_region_hyb [(0,true),(1,true),(2,true),(3,true),(4,true),(5,true),(6,true),(7,true),(8,true),(9,false),(10,true),(11,true)] rfl (by kernel_rfl) ?_
     iterate 9 (refine hyb_calm rfl (fun K hK=>?_);go_simp;refine hK _ ?_;clear hK K)
     have hp1:Tx ((⟨#[]⟩++d1++⟨#[46]⟩++⟨#[48]⟩++⟨#[101]⟩:ByteArray)) ([]++(c :: 46 :: ([48]++[101]))):=by
      have:=Tx.app2 (Tx.app2 (Tx.app2 (Tx.app2 (Tx.of []) hd1.out) (Tx.of [46])) (Tx.of [48])) (Tx.of [101])
      unfold Tx at *
      rw [this];simp
     generalize hP:(⟨#[]⟩++d1++⟨#[46]⟩++⟨#[48]⟩++⟨#[101]⟩:ByteArray)=P1 at *
     have hps:P1.size≤40:=hp1.sz 40 (by simp at hfl ⊢ <;> omega)
     have HP1:=Lib.hid hp1
     clear hP hp1
     refine hyb_alone rfl (fun w3 hn3 K hK=>?_)
     go_simp
     refine (itoa_any E _ hE3 hE4 (HT0.out.nx (Nx.trans hN2 hn3))).mono ?_;rintro e w4 ⟨t9,rfl,ht9,hw4⟩
     have hsum:P1.size+t9.size≤9223372036854775807:=by
      have:=ht9.out.sz 20 (tenS_len E hE1 hE2)
      omega
     have hsum':¬ 9223372036854775807<P1.size+t9.size:=by omega
     refine hK _ _ hw4 ?_
     clear hK K
     iterate 2 (refine hyb_calm rfl (fun K hK=>?_);go_simp;refine hK _ ?_;clear hK K)
     refine hyb_nil (fun w5 hn5=>?_)
     go_wp2_with fail
     go_ret
     have hN5:=Nx.trans (Nx.trans (Nx.trans hN2 hn3) hw4) hn5
     have hfin:Tx (P1++t9) ([]++(c :: 46 :: (tailS m++(101 :: tenS E)))):=by
      have:=Tx.app2 HP1.out ht9.out
      unfold Tx at *
      rw [this,HTL.out];simp
     first
      | exact ⟨_,_,rfl,hfin,HRES.out,hN5⟩
      | exact ⟨_,rfl,_,hfin,HRES.out,hN5⟩
    | cons c9 q9 =>
     have z1:f1.toList=c9 :: q9:=hff.toL
     have hfs:f1.size≤20:=hff.sz 20 (by omega)
     have hfs0:¬ 9223372036854775807<3+f1.size:=by omega
     have hfs1:¬ 9223372036854775807<3+f1.size+1:=by omega
     have hfs2:¬ 9223372036854775807<2+f1.size:=by omega
     have hfs3:¬ 9223372036854775807<2+f1.size+1:=by omega
     have hfs4:¬ 9223372036854775807<f1.size+1:=by omega
     have HTL:Hid (tailS m=c9 :: q9):=by unfold Hid tailS;rw [HQ.out,if_neg (by simp)]
     have hff:=Lib.hid hff
     go_wp2_with fail
     refine wp_region_hyb [(0,true),(1,true),(2,true),(3,true),(4,true),(5,true),(6,true),(7,true),(8,true),(9,false),(10,true),(11,true)] rfl (by kernel_rfl) ?_
     iterate 9 (refine hyb_calm rfl (fun K hK=>?_);go_simp;refine hK _ ?_;clear hK K)
     have hp1:Tx ((⟨#[]⟩++d1++⟨#[46]⟩++f1++⟨#[101]⟩:ByteArray)) ([]++(c :: 46 :: (c9 :: q9++[101]))):=by
      have:=Tx.app2 (Tx.app2 (Tx.app2 (Tx.app2 (Tx.of []) hd1.out) (Tx.of [46])) hff.out) (Tx.of [101])
      unfold Tx at *
      rw [this];simp
     generalize hP:(⟨#[]⟩++d1++⟨#[46]⟩++f1++⟨#[101]⟩:ByteArray)=P1 at *
     have hps:P1.size≤40:=hp1.sz 40 (by simp at hfl ⊢ <;> omega)
     have HP1:=Lib.hid hp1
     clear hP hp1
     refine hyb_alone rfl (fun w3 hn3 K hK=>?_)
     go_simp
     refine (itoa_any E _ hE3 hE4 (HT0.out.nx (Nx.trans hN2 hn3))).mono ?_;rintro e w4 ⟨t9,rfl,ht9,hw4⟩
     have hsum:P1.size+t9.size≤9223372036854775807:=by
      have:=ht9.out.sz 20 (tenS_len E hE1 hE2)
      omega
     have hsum':¬ 9223372036854775807<P1.size+t9.size:=by omega
     refine hK _ _ hw4 ?_
     clear hK K
     iterate 2 (refine hyb_calm rfl (fun K hK=>?_);go_simp;refine hK _ ?_;clear hK K)
     refine hyb_nil (fun w5 hn5=>?_)
     go_wp2_with fail
     go_ret
     have hN5:=Nx.trans (Nx.trans (Nx.trans hN2 hn3) hw4) hn5
     have hfin:Tx (P1++t9) ([]++(c :: 46 :: (tailS m++(101 :: tenS E)))):=by
      have:=Tx.app2 HP1.out ht9.out
      unfold Tx at *
      rw [this,HTL.out];simp
     first
      | exact ⟨_,_,rfl,hfin,HRES.out,hN5⟩
      | exact ⟨_,rfl,_,hfin,HRES.out,hN5⟩
end Go.Proofs.YtjggghfekakogaaGreatDoor
namespace Go.Proofs.YtjggghfekakogaaGreatDoor
namespace RI
def PA:List Oper→Nat→(Nat→Value)→Act→Act
 | [],_,_,a=>a
 | o :: os,k,x,a=>PA os (k+1) x (a.put o.dst (x k))
def upd (x:Nat→Value) (i:Nat) (v:Value):Nat→Value:=fun j=>if j=i then v else x j
theorem PA_congr:∀ (os:List Oper) (k:Nat) (x y:Nat→Value) (a:Act),(∀ j,k≤j→x j=y j)→PA os k x a=PA os k y a
 | [],_,_,_,_,_=>rfl
 | o :: os,k,x,y,a,h=>by
  unfold PA
  rw [h k (Nat.le_refl _)]
  exact PA_congr os (k+1) x y _ (fun j hj=>h j (by omega))
def dsts (os:List Oper):List Nat:=os.filterMap (·.dst)
theorem put_put (a:Act) (d:Nat) (u v:Value):(a.put (some d) u).put (some d) v=a.put (some d) v:=by
 simp [Act.put]
theorem put_swap (a:Act) (d e:Nat) (u v:Value) (h:d≠e):(a.put (some d) u).put (some e) v=(a.put (some e) v).put (some d) u:=by
 simp only [Act.put]
 rw [Array.setIfInBounds_comm _ _ h]
theorem PA_put:∀ (os:List Oper) (k:Nat) (x:Nat→Value) (a:Act) (d:Nat) (v:Value),d ∉ dsts os→PA os k x (a.put (some d) v)=(PA os k x a).put (some d) v
 | [],_,_,_,_,_,_=>rfl
 | o :: os,k,x,a,d,v,h=>by
  unfold PA
  cases hd:o.dst with
  | none =>
   rw [hd] at *
   have h2:d ∉ dsts os:=fun h'=>h (by simp [dsts,hd] at h' ⊢;exact .inr h')
   exact PA_put os (k+1) x a d v h2
  | some e =>
   have h1:e≠d:=fun h'=>h (by simp [dsts,hd,h'])
   have h2:d ∉ dsts os:=fun h'=>h (by simp [dsts,hd] at h' ⊢;exact .inr h')
   rw [put_swap _ _ _ _ _ (Ne.symm h1)]
   exact PA_put os (k+1) x _ d v h2
theorem PA_upd:∀ (os:List Oper) (k:Nat) (x:Nat→Value) (a:Act) (i:Nat) (o:Oper) (v:Value),(dsts os).Nodup→os[i]? = some o→(PA os k x a).put o.dst v=PA os k (upd x (k+i) v) a
 | [],_,_,_,_,_,_,_,h=>by simp at h
 | o' :: os,k,x,a,i,o,v,hn,h=>by
  have hn2:(dsts os).Nodup:=by
   cases hd:o'.dst with
   | none=>simpa [dsts,hd] using hn
   | some e=>have:=hn;simp [dsts,hd] at this;exact this.2
  cases i with
  | zero =>
   simp at h
   subst h
   unfold PA
   have e1:upd x (k+0) v k=v:=by simp [upd]
   have e2:∀ j,k+1≤j→x j=upd x (k+0) v j:=fun j hj=>by unfold upd;rw [if_neg (by omega)]
   rw [e1,← PA_congr os (k+1) x _ _ e2]
   cases hd:o'.dst with
   | none=>rfl
   | some e =>
    have h2:e ∉ dsts os:=by
     have:=hn
     simp [dsts,hd] at this
     simpa [dsts] using this.1
    rw [← PA_put os (k+1) x _ e v h2,put_put]
  | succ i =>
   simp at h
   unfold PA
   have e1:upd x (k+(i+1)) v k=x k:=by unfold upd;rw [if_neg (by omega)]
   rw [e1,show k+(i+1)=k+1+i by omega]
   exact PA_upd os (k+1) x _ i o v hn2 h
def old (a:Act) (os:List Oper):Nat→Value:=fun j=>match (os[j]?).bind (·.dst) with
 | some d=>a.tmps.getD d undef
 | none=>undef
theorem put_own (a:Act) (d:Nat):a.put (some d) (a.tmps.getD d undef)=a:=by
 cases a with
 | mk t ds =>
  simp only [Act.put,Act.mk.injEq,and_true]
  apply Array.ext
  ·simp
  ·intro i h1 h2
   by_cases h:d=i
   ·subst h
    rw [Array.getElem_setIfInBounds_self]
    simp at h1
    simp [h1]
   ·rw [Array.getElem_setIfInBounds_ne _ h]
theorem PA_old:∀ (os:List Oper) (k:Nat) (x:Nat→Value) (a:Act),(∀ i o d,os[i]? = some o→o.dst=some d→x (k+i)=a.tmps.getD d undef)→PA os k x a=a
 | [],_,_,_,_=>rfl
 | o :: os,k,x,a,h=>by
  unfold PA
  have e:a.put o.dst (x k)=a:=by
   cases hd:o.dst with
   | none=>rfl
   | some d=>rw [show x k=a.tmps.getD d undef from h 0 o d rfl hd];exact put_own a d
  rw [e]
  exact PA_old os (k+1) x a (fun i o' d h1 h2=>by rw [show k+1+i=k+(i+1) by omega];exact h (i+1) o' d (by simpa using h1) h2)
section
variable {P:Program} {md:Region.Mode} (l:List Oper) (a0:Act) (V:Nat→Value→World→Prop) (S:World→Prop) (R:World→World→Prop)
def Step (P:Program) (i:Nat) (o:Oper):Prop:=∀ (x:Nat→Value) (w:World),S w→(∀ e ∈ o.after.toList,Region.binds .any e=true→V e.on (x e.on) w) →
 ∀ K:Act→World→Prop,(∀ a' w' v,a'=(PA l 0 x a0).put o.dst v→V i v w'→S w'→R w w'→K a' w') →
  if Region.wanted o (yielded l.toArray (PA l 0 x a0).tmps) then o.wp P (PA l 0 x a0) w K (fun _ _ _=>False) else K ((PA l 0 x a0).put o.dst undef) w
def Steps (P:Program):List Oper→Nat→Prop
 | [],_=>True
 | o :: os,i=>Step l a0 V S R P i o∧Steps P os (i+1)
variable {l a0 V S R}
theorem Steps.at_:∀ {os:List Oper} {k:Nat},Steps l a0 V S R P os k→∀ i o,os[i]? = some o→Step l a0 V S R P (k+i) o
 | [],_,_,i,o,h=>by simp at h
 | o' :: os,k,hs,i,o,h=>by
  cases i with
  | zero=>simp at h;subst h;exact hs.1
  | succ i=>rw [show k+(i+1)=k+1+i by omega];exact Steps.at_ hs.2 i o (by simpa using h)
def unl (n:Nat) (listed:Array Bool):Nat:=((List.range n).filter fun i=>!listed.getD i true).length
theorem filter_lt {α:Type} (p q:α→Bool) (xs:List α) (h:∀ y ∈ xs,p y=true→q y=true) (z:α) (hz:z ∈ xs) (h1:p z=false) (h2:q z=true):(xs.filter p).length<(xs.filter q).length:=by
 have le:∀ ys:List α,(∀ y ∈ ys,p y=true→q y=true)→(ys.filter p).length≤(ys.filter q).length:=by
  intro ys
  induction ys with
  | nil=>intro _;exact Nat.le_refl _
  | cons y ys ih =>
   intro h
   have:=ih (fun y hy=>h y (by simp [hy]))
   cases hp:p y
   ·rw [List.filter_cons_of_neg (by simp [hp])]
    cases hq:q y
    ·rw [List.filter_cons_of_neg (by simp [hq])];exact this
    ·rw [List.filter_cons_of_pos hq];simp;omega
   ·rw [List.filter_cons_of_pos hp,List.filter_cons_of_pos (h y (by simp) hp)];simp;exact this
 induction xs with
 | nil=>cases hz
 | cons y ys ih =>
  have hle:=le ys (fun y hy=>h y (by simp [hy]))
  rcases List.mem_cons.1 hz with rfl | hz
  ·rw [List.filter_cons_of_neg (by simp [h1]),List.filter_cons_of_pos h2];simp;omega
  ·have:=ih (fun y hy=>h y (by simp [hy])) hz
   cases hp:p y
   ·rw [List.filter_cons_of_neg (by simp [hp])]
    cases hq:q y
    ·rw [List.filter_cons_of_neg (by simp [hq])];exact this
    ·rw [List.filter_cons_of_pos hq];simp;omega
   ·rw [List.filter_cons_of_pos hp,List.filter_cons_of_pos (h y (by simp) hp)];simp;exact this
def backB (l:List Oper):Bool:=(List.range l.length).all fun i=>match l[i]? with
 | some o=>o.after.all fun e=>!Region.binds .any e || decide (e.on<i)
 | none=>true
def okB (l:List Oper):Bool:=backB l && decide ((dsts l).Nodup)
theorem all_listed (hb:backB l=true) {listed:Array Bool} (hz:listed.size=l.length) (hr:Region.ready .any l.toArray listed=[]):∀ i,i<l.length→listed.getD i true=true:=by
 intro i
 induction i using Nat.strongRecOn with
 | ind i ih =>
  intro hi
  cases h:listed.getD i true with
  | true=>rfl
  | false =>
   exfalso
   have hmem:i ∈ Region.ready .any l.toArray listed:=by
    rw [mem_ready]
    refine ⟨h,l[i],by simp [hi],fun e he hbd=>?_⟩
    have h1:=List.all_eq_true.1 hb i (List.mem_range.2 hi)
    simp only [List.getElem?_eq_getElem hi] at h1
    have h2:=Array.all_eq_true'.1 h1 e he
    simp [hbd] at h2
    have h3:=ih e.on h2 (by omega)
    have h4:e.on<listed.size:=by omega
    simpa [h4] using h3
   rw [hr] at hmem
   cases hmem
theorem upd_same (x:Nat→Value) (i:Nat) (v:Value):upd x i v i=v:=by simp [upd]
theorem upd_ne (x:Nat→Value) (i j:Nat) (v:Value) (h:j≠i):upd x i v j=x j:=by unfold upd;rw [if_neg h]
def StepZ (l:List Oper) (oz:Oper) (a0:Act) (V:Nat→Value→World→Prop) (S:World→Prop) (R:World→World→Prop) (P:Program) (i:Nat) (o:Oper):Prop:=∀ (x:Nat→Value) (w:World),S w→(∀ e ∈ o.after.toList,Region.binds .any e=true→V e.on (x e.on) w) →
 ∀ K:Act→World→Prop,(∀ a' w' v,a'=(PA l 0 x a0).put o.dst v→V i v w'→S w'→R w w'→K a' w') →
  if Region.wanted o (yielded (l++[oz]).toArray (PA l 0 x a0).tmps) then o.wp P (PA l 0 x a0) w K (fun _ _ _=>False) else K ((PA l 0 x a0).put o.dst undef) w
def StepsZ (l:List Oper) (oz:Oper) (a0:Act) (V:Nat→Value→World→Prop) (S:World→Prop) (R:World→World→Prop) (P:Program):List Oper→Nat→Prop
 | [],_=>True
 | o :: os,i=>StepZ l oz a0 V S R P i o∧StepsZ l oz a0 V S R P os (i+1)
theorem StepsZ.at_ {oz:Oper}:∀ {os:List Oper} {k:Nat},StepsZ l oz a0 V S R P os k→∀ i o,os[i]? = some o→StepZ l oz a0 V S R P (k+i) o
 | [],_,_,i,o,h=>by simp at h
 | o' :: os,k,hs,i,o,h=>by
  cases i with
  | zero=>simp at h;subst h;exact hs.1
  | succ i=>rw [show k+(i+1)=k+1+i by omega];exact StepsZ.at_ hs.2 i o (by simpa using h)
theorem PA_last:∀ (l:List Oper) (k:Nat) (x:Nat→Value) (a:Act) (oz:Oper),oz.dst=none→PA (l++[oz]) k x a=PA l k x a
 | [],k,x,a,oz,h=>by simp only [List.nil_append,PA,h];rfl
 | o :: l,k,x,a,oz,h=>by
  simp only [List.cons_append,PA]
  exact PA_last l (k+1) x _ oz h
def StepL (L:List Oper) (a0:Act) (V:Nat→Value→World→Prop) (S:World→Prop) (R:World→World→Prop) (P:Program) (i:Nat) (o:Oper):Prop:=∀ (x:Nat→Value) (w:World),S w→(∀ e ∈ o.after.toList,Region.binds .any e=true→V e.on (x e.on) w) →
 ∀ K:Act→World→Prop,(∀ a' w' v,a'=(PA L 0 x a0).put o.dst v→V i v w'→S w'→R w w'→K a' w') →
  if Region.wanted o (yielded L.toArray (PA L 0 x a0).tmps) then o.wp P (PA L 0 x a0) w K (fun _ _ _=>False) else K ((PA L 0 x a0).put o.dst undef) w
def StepsY (L:List Oper) (a0:Act) (V:Nat→Value→World→Prop) (S:World→Prop) (R:World→World→Prop) (P:Program) (Q:Exit→Act→World→Prop):List Oper→Nat→Prop
 | [],_=>True
 | [oz],n=>∀ (x:Nat→Value) (w:World),S w→(∀ j,j<n→V j (x j) w)→oz.wp P (PA L 0 x a0) w (fun a' w'=>Q .normal a' w') (fun _ _ _=>False)
 | o :: o' :: os,i=>StepL L a0 V S R P i o∧StepsY L a0 V S R P Q (o' :: os) (i+1)
theorem StepsY.split {Q:Exit→Act→World→Prop} {oz:Oper} (hd:oz.dst=none):∀ (os:List Oper) (k:Nat),StepsY (l++[oz]) a0 V S R P Q (os++[oz]) k →
  StepsZ l oz a0 V S R P os k∧(∀ (x:Nat→Value) (w:World),S w→(∀ j,j<k+os.length→V j (x j) w)→oz.wp P (PA l 0 x a0) w (fun a' w'=>Q .normal a' w') (fun _ _ _=>False))
 | [],k,h=>by
  refine ⟨trivial,fun x w h1 h2=>?_⟩
  have:=h x w h1 (by simpa using h2)
  rw [PA_last l 0 x a0 oz hd] at this
  exact this
 | o :: os,k,h=>by
  have h':StepL (l++[oz]) a0 V S R P k o∧StepsY (l++[oz]) a0 V S R P Q (os++[oz]) (k+1):=by
   cases os with
   | nil=>exact h
   | cons o2 os=>exact h
  obtain ⟨h1,h2⟩:=StepsY.split hd os (k+1) h'.2
  refine ⟨⟨?_,h1⟩,?_⟩
  ·intro x w hS hdp K hK
   have:=h'.1 x w hS hdp K (by rw [PA_last l 0 x a0 oz hd];exact hK)
   rw [PA_last l 0 x a0 oz hd] at this
   exact this
  ·rw [List.length_cons,show k+(os.length+1)=k+1+os.length by omega]
   exact h2
theorem eval_put (a:Act) (d:Nat) (v:Value) (h:d<a.tmps.size):(a.put (some d) v).eval (.tmp d)=v:=by
 simp [Act.put,Act.eval,h]
theorem eval_put_ne (a:Act) (x:Option Tmp) (d:Nat) (v:Value) (h:x≠some d):(a.put x v).eval (.tmp d)=a.eval (.tmp d):=by
 cases x with
 | none=>rfl
 | some e =>
  have:e≠d:=fun h'=>h (by rw [h'])
  simp only [Act.put,Act.eval]
  rw [Array.getD_eq_getD_getElem?,Array.getElem?_setIfInBounds_ne this,← Array.getD_eq_getD_getElem?]
theorem PA_out:∀ (os:List Oper) (k:Nat) (x:Nat→Value) (a:Act) (d:Nat),d ∉ dsts os→(PA os k x a).eval (.tmp d)=a.eval (.tmp d)
 | [],_,_,_,_,_=>rfl
 | o :: os,k,x,a,d,h=>by
  unfold PA
  have h2:d ∉ dsts os:=fun h'=>h (by simp [dsts] at h' ⊢;exact .inr h')
  have h1:o.dst≠some d:=fun h'=>h (by simp [dsts,h'])
  rw [PA_out os (k+1) x _ d h2,eval_put_ne _ _ _ _ h1]
theorem PA_in:∀ (os:List Oper) (k:Nat) (x:Nat→Value) (a:Act) (i:Nat) (o:Oper) (d:Nat),(dsts os).Nodup→os[i]? = some o→o.dst=some d→d<a.tmps.size→(PA os k x a).eval (.tmp d)=x (k+i)
 | [],_,_,_,_,_,_,_,h,_,_=>by simp at h
 | o' :: os,k,x,a,i,o,d,hn,h,hd,hs=>by
  have hn2:(dsts os).Nodup:=by
   cases hd:o'.dst with
   | none=>simpa [dsts,hd] using hn
   | some e=>have:=hn;simp [dsts,hd] at this;exact this.2
  unfold PA
  cases i with
  | zero =>
   simp at h
   subst h
   have h2:d ∉ dsts os:=by
    have:=hn
    simp [dsts,hd] at this
    simpa [dsts] using this.1
   rw [PA_out os (k+1) x _ d h2,hd,eval_put _ _ _ hs,Nat.add_zero]
  | succ i =>
   rw [PA_in os (k+1) x _ i o d hn2 (by simpa using h) hd (by cases o'.dst <;> simp [Act.put,hs]),show k+1+i=k+(i+1) by omega]
def slotB (L:List Oper) (d i:Nat):Bool:=decide ((dsts L).Nodup) && ((L[i]?).bind (·.dst) == some d)
theorem PA_slot {L:List Oper} {x:Nat→Value} {a:Act} {d i:Nat} (h:slotB L d i=true) (hs:d<a.tmps.size):(PA L 0 x a).eval (.tmp d)=x i:=by
 unfold slotB at h
 simp only [Bool.and_eq_true,decide_eq_true_eq,beq_iff_eq] at h
 obtain ⟨hn,h⟩:=h
 cases ho:L[i]? with
 | none=>rw [ho] at h;cases h
 | some o =>
  rw [ho] at h
  rw [PA_in L 0 x a i o d hn ho h hs,Nat.zero_add]
theorem PA_old_slot {L:List Oper} {x:Nat→Value} {a:Act} {d:Nat} (h:(dsts L).contains d=false):(PA L 0 x a).eval (.tmp d)=a.eval (.tmp d) :=
 PA_out L 0 x a d (by simpa using h)
def setAll:List Oper→Nat→(Nat→Value)→List Value→List Value
 | [],_,_,l=>l
 | o :: os,k,x,l=>setAll os (k+1) x (match o.dst with | some d=>l.set d (x k) | none=>l)
theorem PA_list:∀ (os:List Oper) (k:Nat) (x:Nat→Value) (a:Act),PA os k x a=⟨(setAll os k x a.tmps.toList).toArray,a.defers⟩
 | [],_,_,a=>rfl
 | o :: os,k,x,a=>by
  unfold PA setAll
  rw [PA_list os (k+1) x _]
  cases o.dst with
  | none=>rfl
  | some d=>simp [Act.put]
end
end RI
end Go.Proofs.YtjggghfekakogaaGreatDoor
namespace Go.Proofs.YtjggghfekakogaaGreatDoor
namespace RI
def reachB (L:List Oper):Nat→Nat→Nat→Bool
 | 0,j,i=>j == i
 | f+1,j,i=>j == i || match L[j]? with
  | some o=>o.after.any fun e=>Region.binds .any e && reachB L f e.on i
  | none=>false
def Closed (L:List Oper) (ls:Array Bool):Prop:=∀ j o,L[j]? = some o→ls.getD j false=true→∀ e ∈ o.after.toList,Region.binds .any e=true→ls.getD e.on false=true
theorem Closed.reach {L:List Oper} {ls:Array Bool} (h:Closed L ls):∀ (f j i:Nat),reachB L f j i=true→ls.getD j false=true→ls.getD i false=true
 | 0,j,i,hr,hj=>by
  have:j=i:=by simpa [reachB] using hr
  rw [← this];exact hj
 | f+1,j,i,hr,hj=>by
  unfold reachB at hr
  rw [Bool.or_eq_true] at hr
  rcases hr with hr | hr
  ·have:j=i:=by simpa using hr
   rw [← this];exact hj
  ·cases ho:L[j]? with
   | none=>rw [ho] at hr;cases hr
   | some o =>
    rw [ho] at hr
    dsimp only at hr
    obtain ⟨e,he,hb⟩:=Array.any_eq_true'.1 hr
    rw [Bool.and_eq_true] at hb
    exact Closed.reach h f e.on i hb.2 (h j o ho hj e (by simpa using he) hb.1)
theorem Closed.not {L:List Oper} {ls:Array Bool} (h:Closed L ls) (f j i:Nat) (hr:reachB L f j i=true) (hi:ls.getD i true=false):ls.getD j false=false:=by
 rw [Bool.eq_false_iff]
 intro hj
 have h1:=h.reach f j i hr hj
 have h2:i<ls.size:=by
  rcases Nat.lt_or_ge i ls.size with h | h
  ·exact h
  ·rw [Array.getD_eq_getD_getElem?,Array.getElem?_eq_none h] at h1;cases h1
 simp [h2] at h1 hi
 rw [hi] at h1;cases h1
section
variable {P:Program} (L:List Oper) (a0:Act) (V:Nat→Value→World→Prop) (S:Array Bool→World→Prop) (R:Array Bool→World→World→Prop)
def StepM (P:Program) (i:Nat) (o:Oper):Prop :=
 ∀ (a:Act) (x:Nat→Value) (ls:Array Bool) (w:World),S ls w→ls.size=L.length→ls.getD i true=false→Closed L ls→(∀ j,j<L.length→ls.getD j false=false→x j=old a0 L j)→(∀ d i,slotB L d i=true→d<a0.tmps.size→a.eval (.tmp d)=x i)→(∀ d,(dsts L).contains d=false→a.eval (.tmp d)=a0.eval (.tmp d)) →
  (∀ e ∈ o.after.toList,Region.binds .any e=true→V e.on (x e.on) w) →
  ∀ K:Act→World→Prop,(∀ w' v,V i v w'→S (ls.setIfInBounds i true) w'→R ls w w'→K (a.put o.dst v) w')→o.wp P a w K (fun _ _ _=>False)
def StepsM (P:Program):List Oper→Nat→Prop
 | [],_=>True
 | o :: os,i=>StepM L a0 V S R P i o∧StepsM P os (i+1)
variable {L a0 V S R}
theorem StepsM.at_:∀ {os:List Oper} {k:Nat},StepsM L a0 V S R P os k→∀ i o,os[i]? = some o→StepM L a0 V S R P (k+i) o
 | [],_,_,i,o,h=>by simp at h
 | o' :: os,k,hs,i,o,h=>by
  cases i with
  | zero=>simp at h;subst h;exact hs.1
  | succ i=>rw [show k+(i+1)=k+1+i by omega];exact StepsM.at_ hs.2 i o (by simpa using h)
end
end RI
end Go.Proofs.YtjggghfekakogaaGreatDoor
