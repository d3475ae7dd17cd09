/- The contract of kind.Head. Plain and qualified names: as kind's reading of them, as strings.Split cuts them. Plain lemmas. The contracts of Reserved, Plain, qualified names, definitions' words. The contracts of names, types' first words, at the cursor. -/
import Derived.Test.YtbblfkdmkpkmcaaGreatDoorG07
import Derived.Test.YtbblfkdmkpkmcaaGreatDoorG01
import Derived.Lib.Split
import Derived.Lib.IndexBytes
import Derived.Lib.IndexLaws
import Derived.Test.YtbblfkdmkpkmcaaGreatDoorG05
import Derived.Test.YtbblfkdmkpkmcaaGreatDoorShelf
import Derived.Deep.Light
set_option linter.unusedVariables false
set_option linter.unusedSimpArgs false
set_option linter.unnecessarySimpa false
namespace Go.Proofs.YtbblfkdmkpkmcaaGreatDoor
open Go.RowKit
def headW (l:List UInt8):Nat×List UInt8×List UInt8×List UInt8:=if (wholeT l).1≠0 then (0,[],[],[]) else headT (wholeT l).2
def bA (l:List UInt8):ByteArray:=⟨l.toArray⟩
theorem bA_tx {s:ByteArray} {l:List UInt8} (h:Tx s l):s=bA l:=h.eq
theorem ReadR.form {w w':World} {s:ByteArray} {l:List UInt8} {e:Ending} (h:ReadR w s l e w'):∃ (o D:Int) (T:ByteArray) (v:Value) (m:Option Nat),
  e = .returned (.tuple #[.agg #[.int .i64 ((headW l).1:Nat),.string (bA (headW l).2.1),.string (bA (headW l).2.2.1),.string (bA (headW l).2.2.2)],.agg #[.string T,.int .i64 o,.int .i64 0,.int .i64 D,v,.map m],.int .i64 ((wholeT l).1:Nat)]) ∧
  D=((if (wholeT l).1≠0 then 0 else depthT (wholeT l).2:Nat):Int)∧OwnN w' w.heap.size v (if (wholeT l).1≠0 then [] else nmB (wholeT l).2)∧Nx w w'∧∃ A n c,v = .slice A n c:=by
 obtain ⟨hn,⟨h1,rfl⟩ | ⟨h1,K,N,A,C,o,v,sb,rfl,hh,ho⟩⟩:=h
 ·refine ⟨0,0,⟨#[]⟩,.slice none 0 0,none,?_,by rw [if_pos h1];rfl,by rw [if_pos h1];exact OwnS.nil_ _ _,hn,_,_,_,rfl⟩
  unfold headW
  rw [if_pos h1]
  rfl
 ·obtain ⟨hK,hN,hA,hC⟩:=hh
  obtain ⟨A5,q5,hv5,-,-,-⟩:=OwnS.sl strC_size ho
  refine ⟨o,_,s,v,some sb,?_,rfl,by rw [if_neg (by simpa using h1)];exact ho,hn,_,_,_,hv5⟩
  unfold headW
  rw [if_neg (by simpa using h1),if_neg (by simpa using h1),h1,hK,bA_tx hN,bA_tx hA,bA_tx hC]
  rfl
set_option maxRecDepth 100000 in
set_option maxHeartbeats 6400000 in
theorem head_any (w:World) (s:ByteArray) (l:List UInt8) (hl:Tx s l) (hs:(l.length:Int)≤8000) (ht:TabK w) (hm:MaxC w) :
  Calls Tryz.prog 37 #[.string s] w fun e w'=>e = .returned (.tuple #[.int .i64 ((headW l).1:Nat),.string (bA (headW l).2.1),.string (bA (headW l).2.2.1),.string (bA (headW l).2.2.2),.int .i64 ((wholeT l).1:Nat)])∧Nx w w':=by
 have HR:=Lib.hid (read_any w s l hl hs ht hm)
 obtain ⟨H,HH⟩:∃ H,Hid (headW l=H):=⟨_,rfl⟩
 obtain ⟨W,HW⟩:∃ W,Hid (wholeT l=W):=⟨_,rfl⟩
 rw [HH.out,HW.out]
 obtain ⟨hk,hN,hA,hC⟩:=H
 dsimp only
 obtain ⟨N,HN0⟩:∃ N,Hid (bA hN=N):=⟨_,rfl⟩
 obtain ⟨A1,HA0⟩:∃ N,Hid (bA hA=N):=⟨_,rfl⟩
 obtain ⟨C,HC0⟩:∃ N,Hid (bA hC=N):=⟨_,rfl⟩
 rw [HN0.out,HA0.out,HC0.out]
 clear hl ht hm
 go_enter Tryz.func37,Tryz.ntmps37
 go_wp2_with fail
 refine HR.out.mono ?_;rintro e w1 hr
 obtain ⟨o,D,T,v,m,he,hD,hown,hn,A,n,c,rfl⟩:=hr.form
 rw [HH.out,HW.out] at he
 dsimp only at he
 rw [HN0.out,HA0.out,HC0.out] at he
 subst he
 obtain ⟨g,hg⟩:∃ g,w1.heap.size=g:=⟨_,rfl⟩
 have HG:=Lib.hid hg
 clear hr hD hown
 have HN:=Lib.hid hn
 clear hn
 dsimp only
 go_wp2_with fail
 have hB1:=(Blk.new w1 #[.int .i64 (hk:Int),.string N,.string A1,.string C] 128).alloc (.cells #[.string T,.int .i64 o,.int .i64 0,.int .i64 D,.slice A n c,.map m] 131)
 have hN1:=((Nx.refl w1).al (.cells #[.int .i64 (hk:Int),.string N,.string A1,.string C] 128)).al (.cells #[.string T,.int .i64 o,.int .i64 0,.int .i64 D,.slice A n c,.map m] 131)
 rw [hg] at hB1
 generalize World.alloc (World.alloc _ _) _=w2 at *
 have HN2:Hid (Nx w w2):=HN.out.trans hN1
 have L0:∀ x:Gr w2,x.1.cell? ⟨g,0,none⟩=some (.int .i64 (hk:Int)):=fun x=>(hB1.below x.2).cell 0
 have L1:∀ x:Gr w2,x.1.cell? ⟨g,1,none⟩=some (.string N):=fun x=>(hB1.below x.2).cell 1
 have L2:∀ x:Gr w2,x.1.cell? ⟨g,2,none⟩=some (.string A1):=fun x=>(hB1.below x.2).cell 2
 have L3:∀ x:Gr w2,x.1.cell? ⟨g,3,none⟩=some (.string C):=fun x=>(hB1.below x.2).cell 3
 clear hN1 hB1
 refine wp_region_hyb [(0,true),(1,true),(2,true),(3,true),(5,true),(6,true),(7,true),(9,true),(10,true),(11,true),(13,true),(4,false),(8,false),(12,false),(14,true),(15,true),(16,true),(17,true),(18,true)] rfl (by kernel_rfl) ?_
 iterate 11 (refine hyb_calm rfl (fun K hK=>?_);go_simp;refine hK _ ?_;clear hK K)
 clear L0 L1 L2 L3
 refine hyb_alone rfl (fun w3 hn3 K hK=>?_)
 go_simp
 refine (fresh_any N _).mono ?_;rintro e w4 ⟨rfl,hw4⟩
 refine hK _ _ hw4 ?_
 clear hK K
 refine hyb_alone rfl (fun w5 hn5 K hK=>?_)
 go_simp
 refine (fresh_any A1 _).mono ?_;rintro e w6 ⟨rfl,hw6⟩
 refine hK _ _ hw6 ?_
 clear hK K
 refine hyb_alone rfl (fun w7 hn7 K hK=>?_)
 go_simp
 refine (fresh_any C _).mono ?_;rintro e w8 ⟨rfl,hw8⟩
 refine hK _ _ hw8 ?_
 clear hK K
 iterate 5 (refine hyb_calm rfl (fun K hK=>?_);go_simp;refine hK _ ?_;clear hK K)
 refine hyb_nil (fun w9 hn9=>?_)
 have hN9:Nx w w9:=HN2.out.trans (hn3.trans (hw4.trans (hn5.trans (hw6.trans (hn7.trans (hw8.trans hn9))))))
 go_wp2_with fail
 exact bodyPost_ret (v:=.tuple #[.int .i64 (hk:Int),.string N,.string A1,.string C,.int .i64 (W.1:Int)]) (by simp [results,Tryz.results37,go_sem]) rfl ⟨rfl,hN9⟩
end Go.Proofs.YtbblfkdmkpkmcaaGreatDoor
namespace Go.Proofs.YtbblfkdmkpkmcaaGreatDoor
theorem splitP_none:∀ (l:List UInt8),Lib.indexByte l 46 = -1→splitP l=[l]
 | [],_=>rfl
 | c :: r,h=>by
  unfold Lib.indexByte at h
  split at h
  ·cases h
  ·rename_i h1
   split at h
   ·rename_i h2
    have h3:¬ c=46:=by simpa using h1
    unfold splitP
    rw [if_neg h3,splitP_none r (by simpa using h2)]
   ·have:=Lib.indexByte_ge r 46
    rename_i h2
    simp at h2
    omega
theorem splitP_some:∀ (l:List UInt8) (i:Nat),Lib.indexByte l 46=i→splitP l=l.take i :: splitP (l.drop (i+1))
 | [],i,h=>by simp [Lib.indexByte] at h
 | c :: r,i,h=>by
  unfold Lib.indexByte at h
  split at h
  ·rename_i h1
   have h3:c=46:=by simpa using h1
   have:i=0:=by omega
   subst this
   conv=>lhs;unfold splitP
   rw [if_pos h3];simp
  ·rename_i h1
   have h3:¬ c=46:=by simpa using h1
   split at h
   ·omega
   ·rename_i h2
    have hge:=Lib.indexByte_ge r 46
    have hne:Lib.indexByte r 46≠-1:=by simpa using h2
    obtain ⟨j,rfl⟩:∃ j,i=j+1:=⟨i - 1,by omega⟩
    have ih:=splitP_some r j (by push_cast at h;omega)
    conv=>lhs;unfold splitP
    rw [if_neg h3,ih]
    simp
theorem splitK_dot:∀ (n:Nat) (l:List UInt8),l.length≤n→Lib.splitK [46] 0 (Lib.count l [46]) l=splitP l:=by
 intro n
 induction n with
 | zero =>
  intro l hl
  have:l=[]:=List.eq_nil_of_length_eq_zero (by omega)
  subst this
  rfl
 | succ n ih =>
  intro l hl
  by_cases h:Lib.index l [46] = -1
  ·rw [Lib.count_miss h,splitP_none l (by rw [← Lib.index_one];exact h)]
   rfl
  ·have hge:=Lib.index_ge l [46]
   obtain ⟨i,hi⟩:∃ i:Nat,Lib.index l [46]=i:=⟨(Lib.index l [46]).toNat,by omega⟩
   have hle:=Lib.index_room l [46] (by omega)
   rw [Lib.count_hit (by simp) hi,splitP_some l i (by rw [← Lib.index_one];exact hi),Nat.add_comm 1]
   unfold Lib.splitK
   rw [if_neg (by simpa using h),hi]
   simp at hle
   simp only [Int.toNat_natCast,Nat.add_zero,List.length_cons,List.length_nil,Nat.zero_add]
   rw [ih _ (by simp;omega)]
theorem contains_dot (l:List UInt8):decide (0≤Lib.indexByte l 46)=l.contains 46:=by
 have hge:=Lib.indexByte_ge l 46
 rw [Bool.eq_iff_iff]
 simp only [decide_eq_true_eq,List.contains_iff_mem]
 constructor
 ·intro h
  obtain ⟨i,hi⟩:∃ i:Nat,Lib.indexByte l 46=i:=⟨(Lib.indexByte l 46).toNat,by omega⟩
  exact List.mem_of_getElem? (Lib.indexByte_some hi).1
 ·intro h
  obtain ⟨k,hk⟩:=List.getElem?_of_mem h
  by_cases h1:Lib.indexByte l 46<0
  ·exact absurd hk (Lib.indexByte_none (by omega) k)
  ·omega
theorem oft_kind (l:List UInt8) (h:oftP l=false):kindW l=0:=by
 unfold oftP oftB at h
 simp at h
 unfold kindW
 simp [h]
def plain3 (l:List UInt8):Bool:=match l with
 | []=>false
 | c :: r=>nmLet c && (c :: r).all isNmS
theorem far_false:∀ (r:List UInt8),¬ (46:UInt8) ∈ r→farF false r=true
 | [],_=>rfl
 | c :: r,h=>by
  unfold farF
  have h1:¬ c=46:=fun e=>h (by rw [e];simp)
  rw [decide_eq_false h1]
  exact far_false r fun hm=>h (by simp [hm])
theorem nm_let (c:UInt8) (h:isNmS c=true) (h1:isDig c=false) (h2:¬ c=46):nmLet c=true:=by
 unfold isNmS at h
 unfold nmLet
 have h3:¬ c.toNat=46:=fun e=>h2 (UInt8.toNat_inj.1 e)
 rw [h1,decide_eq_false h3] at h
 simpa using h
theorem let_dig (c:UInt8) (h:nmLet c=true):isDig c=false∧¬ c=46:=by
 unfold nmLet isLetS at h
 unfold isDig
 simp at h ⊢
 refine ⟨by omega,fun e=>?_⟩
 subst e
 revert h
 decide
theorem head_plain (l:List UInt8) (hd:l.contains 46=false) (hk:oftP l=false):decide ((headW l).2.1≠[])=plain3 l:=by
 have hd':¬ (46:UInt8) ∈ l:=by simpa using hd
 have hk':=oft_kind l hk
 rw [Bool.eq_iff_iff]
 constructor
 ·intro h
  have h:(headW l).2.1≠[]:=by simpa using h
  unfold headW at h
  split at h
  ·exact absurd rfl h
  ·rename_i h1
   have hs:=wholeT_show l (by simpa using h1)
   cases ht:(wholeT l).2 with
   | nm s =>
    rw [ht] at hs h
    obtain ⟨⟨h2,h3⟩,-,h4⟩:=hs
    rw [show showT (.nm s)=s from rfl] at h4
    subst h4
    unfold nameOk at h2
    cases l with
    | nil=>exact absurd rfl h
    | cons c r =>
     simp only [Bool.and_eq_true] at h2
     have h5:=h2.1
     unfold farF at h5
     simp only [Bool.and_eq_true,Bool.not_eq_true',decide_eq_true_eq] at h5
     show (nmLet c && (c :: r).all isNmS)=true
     rw [nm_let c (h3 c (by simp)) h5.1.1 h5.1.2]
     simp only [Bool.true_and,List.all_eq_true]
     exact h3
   | bs k=>rw [ht] at h;exact absurd rfl h
   | l1 k a=>rw [ht] at h;exact absurd rfl h
   | mp a b=>rw [ht] at h;exact absurd rfl h
 ·intro h
  cases l with
  | nil=>cases h
  | cons c r =>
   have h:(nmLet c && (c :: r).all isNmS)=true:=h
   simp only [Bool.and_eq_true,List.all_eq_true] at h
   obtain ⟨h1,h2⟩:=let_dig c h.1
   have hp:partN (c :: r)=(c :: r).length:=by
    unfold partN
    refine spanN_is _ _ _ (Nat.le_refl _) (fun d hdm=>?_) (.inl (List.drop_length))
    rw [List.take_length] at hdm
    simp only [decide_eq_true_eq]
    intro e;subst e;exact hd' hdm
   have hw:wfT (.nm (c :: r)):=by
    refine ⟨?_,h.2⟩
    unfold nameOk
    rw [hp,List.take_length,hk']
    unfold farF
    rw [h1,decide_eq_true h2,far_false r (fun hm=>hd' (by simp [hm]))]
    rfl
   have:=wholeT_full (.nm (c :: r)) hw (Nat.zero_le _)
   rw [show showT (.nm (c :: r))=c :: r from rfl] at this
   unfold headW
   rw [this]
   simp [headT]
theorem plainP_eq (l:List UInt8):plainP l=(decide (l.length≤40) && !l.contains 46 && !resP l && plain3 l):=rfl
end Go.Proofs.YtbblfkdmkpkmcaaGreatDoor
namespace Go.Proofs.YtbblfkdmkpkmcaaGreatDoor
open Go.RowKit
set_option maxRecDepth 100000 in
set_option maxHeartbeats 1600000 in
theorem isOfType_any (w:World) (s:ByteArray) (l:List UInt8) (hl:Tx s l) (B:Bool) (hB:oftP l=B) :
  Calls Tryz.prog 34 #[.string s] w fun e w'=>e = .returned (.bool B)∧w'=w:=by
 obtain rfl:=hl.eq
 have HB:=Lib.hid hB
 clear hB hl
 go_enter Tryz.func34,Tryz.ntmps34
 go_wp2_with fail
 all_goals
  go_ret
  go_light
  refine ⟨congrArg (fun b=>Ending.returned (Value.bool b)) ?_,rfl⟩
  have hB:=HB.out
  clear HB
  unfold oftP oftB at hB
  simp_all
set_option maxRecDepth 100000 in
set_option maxHeartbeats 3200000 in
theorem reserved_any (w:World) (s:ByteArray) (l:List UInt8) (hl:Tx s l) (B:Bool) (hB:resP l=B) :
    Calls Tryz.prog 14 #[.string s] w fun e w'=>e = .returned (.bool B)∧w'=w:=by
  obtain ⟨O,hO⟩:∃ O,Hid (oftP l=O):=⟨_,rfl⟩
  have HB:Hid ((resB.contains l || O)=B):=by unfold Hid;rw [← hO.out];exact hB
  have hl':=Lib.hid hl
  obtain rfl:=hl.eq
  clear hB hl
  go_enter Tryz.func14,Tryz.ntmps14
  go_wp2_with fail
  all_goals first
    | ((refine (isOfType_any _ _ l hl'.out O hO.out).mono ?_);rintro e w1 ⟨rfl,rfl⟩
       go_wp2_with fail
       go_ret
       go_light
       refine ⟨congrArg (fun b=>Ending.returned (Value.bool b)) ?_,rfl⟩
       have hB:=HB.out
       clear HB hO hl'
       unfold resB at hB
       simp_all)
    | (go_ret
       go_light
       refine ⟨congrArg (fun b=>Ending.returned (Value.bool b)) ?_,rfl⟩
       have hB:=HB.out
       clear HB hO hl'
       unfold resB at hB
       simp_all)
theorem defK_le (l:List UInt8):defK l≤7:=by
  unfold defK;repeat' split
  all_goals omega
set_option maxRecDepth 100000 in
set_option maxHeartbeats 3200000 in
theorem definition_any (w:World) (s:ByteArray) (l:List UInt8) (hl:Tx s l) (K:Nat) (hK:defK l=K) :
  Calls Tryz.prog 101 #[.string s] w fun e w'=>e = .returned (.int .i64 (K:Int))∧w'=w:=by
 have HK:=Lib.hid hK
 obtain rfl:=hl.eq
 clear hK hl
 go_enter Tryz.func101,Tryz.ntmps101
 go_wp2_with fail
 all_goals
  go_ret
  go_light
  refine ⟨congrArg (fun k:Int=>Ending.returned (Value.int .i64 k)) ?_,rfl⟩
  have hK:=HK.out
  clear HK
  unfold defK at hK
  simp_all
  try omega
set_option maxRecDepth 100000 in
set_option maxHeartbeats 3200000 in
theorem plain_any' (w:World) (s:ByteArray) (l:List UInt8) (hl:Tx s l) (B:Bool) (hB:plainP l=B) (hs:(l.length:Int)≤8000) (ht:TabK w) (hm:MaxC w) :
  Calls Tryz.prog 16 #[.string s] w fun e w'=>e = .returned (.bool B)∧Nx w w':=by
 have HL:=Lib.hid hl
 have HT:=Lib.hid ht
 have HM:=Lib.hid hm
 obtain rfl:=hl.eq
 rw [plainP_eq] at hB
 have hcd:=contains_dot l
 obtain ⟨C,hC⟩:∃ C,l.contains 46=C:=⟨_,rfl⟩
 obtain ⟨R,hR⟩:∃ R,resP l=R:=⟨_,rfl⟩
 rw [hC,hR] at hB
 rw [hC] at hcd
 have hcc:∀ w,Calls Tryz.prog 36 #[.string ⟨l.toArray⟩,.string ⟨#[46]⟩] w fun e w'=>e = .returned (.bool C)∧w'=w:=by
  intro w;have:=Tryz.strings_Contains_one ⟨l.toArray⟩ 46 w;rw [show (⟨l.toArray⟩:ByteArray).data.toList=l from rfl,hcd] at this;exact this
 have HC:=Lib.hid hC
 have HR:=Lib.hid hR
 have HB:=Lib.hid hB
 clear hl ht hm hB hcd hC hR
 by_cases h40:40<l.length
 ·have b1:decide ((40:Int)<(l.length:Int))=true:=decide_eq_true (by omega)
  obtain rfl:false=B:=by rw [← HB.out,decide_eq_false (by omega)];rfl
  clear h40
  go_enter Tryz.func16,Tryz.ntmps16
  go_wp2_with fail
  go_ret
  exact ⟨rfl,Nx.refl _⟩
 ·have b1:decide ((40:Int)<(l.length:Int))=false:=decide_eq_false (by omega)
  have HB2:Hid ((!C && !R && plain3 l)=B):=by unfold Hid;rw [← HB.out,decide_eq_true (by omega)];rfl
  clear h40 HB
  cases C
  ·cases R
   ·have hp:=head_plain l HC.out (by have:=HR.out;unfold resP at this;simp at this;exact this.2)
    have HB3:Hid (decide ((headW l).2.1≠[])=B):=by unfold Hid;rw [hp];exact HB2.out
    obtain ⟨⟨hk,hn,ha,hb⟩,hH⟩:∃ H,Hid (headW l=H):=⟨_,rfl⟩
    have HB4:Hid (decide (hn≠[])=B):=by have:=HB3.out;rw [hH.out] at this;exact this
    have hne:(!(bA hn).toList.isEmpty)=decide (hn≠[]):=by rw [show (bA hn).toList=hn from (Tx.of hn).toL];cases hn <;> simp
    have hne2:decide (¬ hn=[])=B:=HB4.out
    rw [HB4.out] at hne
    have HNE:=Lib.hid hne
    have HNE2:=Lib.hid hne2
    have hhd:=head_any w ⟨l.toArray⟩ l HL.out hs HT.out HM.out
    rw [hH.out] at hhd
    have HHD:=Lib.hid hhd
    clear hp hne hhd HB3 HB4 HB2 hne2
    go_enter Tryz.func16,Tryz.ntmps16
    go_wp2_with fail
    refine (hcc _).mono ?_;rintro e w1 ⟨rfl,rfl⟩
    go_wp2_with fail
    refine (reserved_any _ _ l HL.out false HR.out).mono ?_;rintro e w1 ⟨rfl,rfl⟩
    go_wp2_with fail
    refine (HHD.out).mono ?_;rintro e w2 ⟨rfl,hn2⟩
    have hne:=HNE.out
    have hne2:=HNE2.out
    go_wp2_with fail
    go_ret
    exact ⟨rfl,hn2⟩
   ·obtain rfl:false=B:=by rw [← HB2.out];rfl
    go_enter Tryz.func16,Tryz.ntmps16
    go_wp2_with fail
    refine (hcc _).mono ?_;rintro e w1 ⟨rfl,rfl⟩
    go_wp2_with fail
    refine (reserved_any _ _ l HL.out true HR.out).mono ?_;rintro e w1 ⟨rfl,rfl⟩
    go_wp2_with fail
    go_ret
    exact ⟨rfl,Nx.refl _⟩
  ·obtain rfl:false=B:=by rw [← HB2.out];rfl
   go_enter Tryz.func16,Tryz.ntmps16
   go_wp2_with fail
   refine (hcc _).mono ?_;rintro e w1 ⟨rfl,rfl⟩
   go_wp2_with fail
   go_ret
   exact ⟨rfl,Nx.refl _⟩
theorem split_any (w:World) (s:ByteArray) (l:List UInt8) (hl:Tx s l) (hs:(l.length:Int)≤8000) (hm:MaxC w) :
  Calls Tryz.prog 186 #[.string s,.string ⟨#[46]⟩] w fun e w'=>∃ g n:Nat,e = .returned (.slice (some ⟨g,0,none⟩) n n)∧Hid (n=(splitP l).length) ∧
   Hid (∀ j (hj:j<(splitP l).length),w'.cell? ⟨g,j,none⟩=some (.string (bA (splitP l)[j])))∧Hid (g<w'.heap.size)∧Nx w w':=by
 obtain ⟨m,hm⟩:=hm
 have hz:=hl.size
 refine (Tryz.strings_Split s ⟨#[46]⟩ m w (by omega) hm (by decide)).mono ?_
 rintro e w' ⟨rfl,rfl⟩
 have hd:(Lib.splitB ⟨#[46]⟩ 0 (Lib.countB s ⟨#[46]⟩) s).map (·.data.toList)=splitP l:=by
  rw [Lib.splitB_data]
  have:=splitK_dot l.length l (Nat.le_refl _)
  rw [← this]
  have e1:s.data.toList=l:=hl
  unfold Lib.countB
  rw [e1]
 have hlen:(Lib.splitB ⟨#[46]⟩ 0 (Lib.countB s ⟨#[46]⟩) s).length=Lib.countB s ⟨#[46]⟩+1:=Lib.splitB_all ⟨#[46]⟩ (by decide) 0 _ s rfl
 generalize Lib.splitB ⟨#[46]⟩ 0 (Lib.countB s ⟨#[46]⟩) s=BL at *
 refine ⟨w.heap.size,_,rfl,?_,?_,?_,nx0 _ _⟩
 ·unfold Hid
  rw [← hd,List.length_map,hlen]
 ·unfold Hid
  intro j hj
  have hj2:j<BL.length:=by rw [← hd,List.length_map] at hj;exact hj
  rw [World.cell?_alloc_at _ _ _ _ rfl]
  have h2:(splitP l)[j]=BL[j].data.toList:=by
   have:(BL.map (·.data.toList))[j]'(by rw [List.length_map];exact hj2)=(splitP l)[j]:=by congr 1
   rw [← this];simp
  rw [h2,← bA_tx (s:=BL[j]) rfl]
  simp [hj2]
 ·unfold Hid
  simp
set_option maxRecDepth 100000 in
set_option maxHeartbeats 3200000 in
theorem qual_any (w:World) (s:ByteArray) (l:List UInt8) (hl:Tx s l) (B:Bool) (hB:qualP l=B) (hs:(l.length:Int)≤8000) (ht:TabK w) (hm:MaxC w) :
  Calls Tryz.prog 142 #[.string s] w fun e w'=>e = .returned (.bool B)∧Nx w w':=by
 have HT:=Lib.hid ht
 have HM:=Lib.hid hm
 have HS:=Lib.hid (split_any w s l hl hs hm)
 have HB:Hid ((decide ((splitP l).length≤3) && (splitP l).all plainP)=B):=hB
 have HLS:Hid (∀ p ∈ splitP l,p.length≤l.length):=by
  unfold Hid
  clear HB HS HM HT hB ht hm hs hl
  induction l with
  | nil=>intro p hp;simp [splitP] at hp;subst hp;simp
  | cons c r ih =>
   intro p hp
   unfold splitP at hp
   split at hp
   ·rcases List.mem_cons.1 hp with rfl | hp
    ·simp
    ·have:=ih p hp;simp;omega
   ·split at hp
    ·simp at hp;subst hp;simp
    ·rename_i a bb hab
     rcases List.mem_cons.1 hp with rfl | hp
     ·have:=ih a (by rw [hab];simp);simp;omega
     ·have:=ih p (by rw [hab];simp [hp]);simp;omega
 clear hl ht hm hB
 go_enter Tryz.func142,Tryz.ntmps142
 go_wp2_with fail
 refine HS.out.mono ?_;rintro e w1 ⟨g,n,rfl,HN,HC,HG,hn1⟩
 have HN1:=Lib.hid hn1
 clear hn1
 by_cases h3:3<n
 ·have b1:decide ((3:Int)<(n:Int))=true:=decide_eq_true (by omega)
  obtain rfl:false=B:=by rw [← HB.out,decide_eq_false (by rw [← HN.out];omega)];rfl
  clear h3
  go_wp2_with fail
  go_ret
  exact ⟨rfl,HN1.out⟩
 ·have b1:decide ((3:Int)<(n:Int))=false:=decide_eq_false (by omega)
  have HB2:Hid ((splitP l).all plainP=B):=by unfold Hid;rw [← HB.out,decide_eq_true (by rw [← HN.out];omega)];rfl
  have hn3:n≤3:=by omega
  clear h3 HB
  go_wp2_with fail
  go_loopw [13] (fun iv wr=>∃ i:Nat,iv = .int .i64 (i:Int)∧i≤n∧Hid (((splitP l).drop i).all plainP=B)∧Nx w1 wr) (fun iv _=>5 - (intOf iv).toNat)
  case atStart=>exact ⟨0,rfl,Nat.zero_le _,by unfold Hid;rw [List.drop_zero];exact HB2.out,Nx.refl _⟩
  case round =>
   obtain ⟨i,rfl,hi,HR,hnx⟩:=hrel
   have HNX:=Lib.hid hnx
   clear hnx
   by_cases hlt:i<n
   ·have hlt2:i<(splitP l).length:=by rw [← HN.out];exact hlt
    have c1:=(HNX.out.cell (p:=⟨g,i,none⟩) HG.out).trans (HC.out i hlt2)
    obtain ⟨p,hp⟩:∃ p,(splitP l)[i]=p:=⟨_,rfl⟩
    rw [hp] at c1
    have hpl:=HLS.out p (by rw [← hp];exact List.getElem_mem hlt2)
    have hps:(p.length:Int)≤8000:=by omega
    have hiI:(i:Int)<(n:Int):=by omega
    obtain ⟨C,hC⟩:∃ C,Hid (plainP p=C):=⟨_,rfl⟩
    have HR2:Hid ((C && ((splitP l).drop (i+1)).all plainP)=B):=by
     unfold Hid
     rw [← HR.out,List.drop_eq_getElem_cons hlt2,List.all_cons,hp,hC.out]
    clear hp hlt2 hpl
    go_wp2_with fail
    refine (plain_any' wr _ p (Tx.of p) C hC.out hps (HT.out.nx (HN1.out.trans HNX.out)) (HM.out.nx (HN1.out.trans HNX.out))).mono ?_;rintro e w2 ⟨rfl,hn2⟩
    have HN2:=Lib.hid hn2
    clear hn2
    cases C
    ·obtain rfl:false=B:=by rw [← HR2.out];rfl
     go_wp2_with fail
     go_ret
     exact ⟨rfl,HN1.out.trans (HNX.out.trans HN2.out)⟩
    ·go_wp2_with fail
     go_roundw
     case rel=>exact ⟨i+1,by go_num,by omega,by unfold Hid;rw [← HR2.out];rfl,HNX.out.trans HN2.out⟩
     case measure=>simp [intOf];omega
   ·have hi':i=n:=by omega
    have hdn:(splitP l).drop i=[]:=by rw [hi',HN.out,List.drop_length]
    obtain rfl:true=B:=by rw [← HR.out,hdn];rfl
    have b2:decide ((i:Int)<(n:Int))=false:=decide_eq_false (by omega)
    clear hdn hi'
    go_wp2_with fail
    go_ret
    exact ⟨rfl,HN1.out.trans HNX.out⟩
end Go.Proofs.YtbblfkdmkpkmcaaGreatDoor
namespace Go.Proofs.YtbblfkdmkpkmcaaGreatDoor
open Go.RowKit
section
variable {w:World} {b c:Nat} {A:Option Addr} {ws:List TokV} {s:PSt}
set_option maxRecDepth 100000 in
set_option maxHeartbeats 1600000 in
theorem atPlain_any (h0:PC w b A c ws s) (B:Bool) (hB:atPlainP ws s=B) :
  Calls Tryz.prog 107 #[.pointer (some ⟨b,0,none⟩)] w fun e w'=>e = .returned (.bool B)∧Nx w w':=by
 have H:=Lib.hid h0
 obtain ⟨N,hN⟩:∃ N,Hid (atNameP ws s=N):=⟨_,rfl⟩
 have htx:=h0.fin.word s
 obtain ⟨⟨tk,tt,tn,td,tp⟩,hT⟩:∃ T,Hid (wordP ws s=T):=⟨_,rfl⟩
 rw [hT.out] at htx
 have HTX:Hid ((tt.length:Int)≤8000):=by unfold Hid;have:((tt.length:Nat):Int)≤2000:=htx;omega
 have HB:Hid ((N && plainP tt)=B):=by unfold Hid;rw [← hB];unfold atPlainP;rw [hN.out,hT.out]
 have F1:∀ w1,(Instr.field 68 (.agg #[.int .i64 (tk:Int),.string ⟨tt.toArray⟩,.int .i64 tn,.int .u64 (td:Int),.int .i64 (tp:Int)]) 1).run Tryz.prog w1 = .ok (.string ⟨tt.toArray⟩) w1:=fun w1=>(tok_field _ _ _ _ _ w1).2.1
 clear h0 hB htx
 go_enter Tryz.func107,Tryz.ntmps107
 go_wp2_with fail
 refine (atName_any H.out N hN.out).mono ?_;rintro e w1 ⟨rfl,hn1⟩
 have HN1:=Lib.hid hn1
 clear hn1
 cases N
 ·obtain rfl:false=B:=HB.out
  go_wp2_with fail
  go_ret
  exact ⟨rfl,HN1.out⟩
 ·have HB2:Hid (plainP tt=B):=HB.out
  clear HB
  go_wp2_with fail
  refine (word_any' (H.out.nx HN1.out) _ _ _ _ _ hT.out).mono ?_;rintro e w2 ⟨rfl,hn2⟩
  have HN2:=Lib.hid hn2
  clear hn2
  go_wp2_with fail
  refine (plain_any' w2 _ tt (Tx.of tt) B HB2.out HTX.out ((H.out.nx HN1.out).nx HN2.out).tab ((H.out.nx HN1.out).nx HN2.out).mx).mono ?_;rintro e w3 ⟨rfl,hn3⟩
  go_wp2_with fail
  go_ret
  exact ⟨rfl,(HN1.out.trans HN2.out).trans hn3⟩
theorem atPlain_k {ws:List TokV} {s:PSt} (h:atPlainP ws s=true):s.e=0→(ws.getD s.i tok0).k≠6:=by
 intro he h6
 unfold atPlainP atNameP at h
 have hw:wordP ws s=ws.getD s.i tok0:=by unfold wordP;rw [if_neg (by simpa using he)]
 rw [hw,h6] at h
 simp at h
theorem atQual_k {ws:List TokV} {s:PSt} (h:atQualP ws s=true):s.e=0→(ws.getD s.i tok0).k≠6:=by
 intro he h6
 unfold atQualP atNameP at h
 have hw:wordP ws s=ws.getD s.i tok0:=by unfold wordP;rw [if_neg (by simpa using he)]
 rw [hw,h6] at h
 simp at h
theorem atType_k {ws:List TokV} {s:PSt} (h:atTypeP ws s=true):s.e=0→(ws.getD s.i tok0).k≠6:=by
 intro he h6
 unfold atTypeP atNameP at h
 have hw:wordP ws s=ws.getD s.i tok0:=by unfold wordP;rw [if_neg (by simpa using he)]
 rw [hw,h6] at h
 simp at h
theorem is_k {ws:List TokV} {s:PSt} {l:List UInt8} (h:isP ws l s=true):s.e=0→(ws.getD s.i tok0).k≠6:=by
 intro he h6
 unfold isP at h
 have hw:wordP ws s=ws.getD s.i tok0:=by unfold wordP;rw [if_neg (by simpa using he)]
 rw [hw,h6] at h
 simp at h
theorem word_k {ws:List TokV} {s:PSt} {k:Nat} (h:(wordP ws s).k=k) (h1:k≠6):s.e=0→(ws.getD s.i tok0).k≠6:=by
 intro he h6
 have hw:wordP ws s=ws.getD s.i tok0:=by unfold wordP;rw [if_neg (by simpa using he)]
 rw [hw,h6] at h
 exact h1 h.symm
theorem fail_k {ws:List TokV} {s:PSt} {k:Nat} (hk:k≠0):(failP k s).e=0→(ws.getD (failP k s).i tok0).k≠6:=by
 intro he
 unfold failP at he
 split at he
 ·rename_i h;exact absurd he h
 ·exact absurd he hk
set_option maxRecDepth 100000 in
set_option maxHeartbeats 1600000 in
theorem plainN_any (h0:PC w b A c ws s) (l:List UInt8) (s':PSt) (hr:plainN ws s=(l,s')) :
  Calls Tryz.prog 103 #[.pointer (some ⟨b,0,none⟩)] w fun e w'=>e = .returned (.string ⟨l.toArray⟩)∧PC w' b A c ws s'∧Oth b w w':=by
 have H:=Lib.hid h0
 obtain ⟨B,hB⟩:∃ B,Hid (atPlainP ws s=B):=⟨_,rfl⟩
 have HR:Hid (((wordP ws (if B then s else failP 2 s)).t,nextP (if B then s else failP 2 s))=(l,s')):=by unfold Hid;rw [← hr];unfold plainN;rw [hB.out]
 clear h0 hr
 go_enter Tryz.func103,Tryz.ntmps103
 go_wp2_with fail
 refine (atPlain_any H.out B hB.out).mono ?_;rintro e w1 ⟨rfl,hn1⟩
 have HN1:=Lib.hid hn1
 have HP1:=Lib.hid (H.out.nx hn1)
 clear hn1
 cases B
 ·go_wp2_with fail
  refine (fail_any HP1.out 2 (by decide) (by decide)).mono ?_;rintro e w2 ⟨rfl,hp2,ho2⟩
  have HP2:=Lib.hid hp2
  have HO2:=Lib.hid ho2
  obtain ⟨⟨tk,tt,tn,td,tp⟩,hT⟩:∃ T,Hid (wordP ws (failP 2 s)=T):=⟨_,rfl⟩
  have hx:=HR.out
  rw [if_neg (by simp),hT.out] at hx
  simp only [Prod.mk.injEq] at hx
  obtain ⟨rfl,rfl⟩:=hx
  have F1:∀ w1,(Instr.field 68 (.agg #[.int .i64 (tk:Int),.string ⟨tt.toArray⟩,.int .i64 tn,.int .u64 (td:Int),.int .i64 (tp:Int)]) 1).run Tryz.prog w1 = .ok (.string ⟨tt.toArray⟩) w1:=fun w1=>(tok_field _ _ _ _ _ w1).2.1
  clear hp2 ho2
  go_wp2_with fail
  refine (next_any HP2.out (fail_k (by decide)) _ _ _ _ _ hT.out).mono ?_;rintro e w3 ⟨rfl,hp3,ho3⟩
  go_wp2_with fail
  go_ret
  exact ⟨rfl,hp3,((Oth.nx HN1.out).trans HO2.out).trans ho3⟩
 ·have HK:=Lib.hid (atPlain_k hB.out)
  obtain ⟨⟨tk,tt,tn,td,tp⟩,hT⟩:∃ T,Hid (wordP ws s=T):=⟨_,rfl⟩
  have hx:=HR.out
  rw [if_pos rfl,hT.out] at hx
  simp only [Prod.mk.injEq] at hx
  obtain ⟨rfl,rfl⟩:=hx
  have F1:∀ w1,(Instr.field 68 (.agg #[.int .i64 (tk:Int),.string ⟨tt.toArray⟩,.int .i64 tn,.int .u64 (td:Int),.int .i64 (tp:Int)]) 1).run Tryz.prog w1 = .ok (.string ⟨tt.toArray⟩) w1:=fun w1=>(tok_field _ _ _ _ _ w1).2.1
  go_wp2_with fail
  refine (next_any HP1.out HK.out _ _ _ _ _ hT.out).mono ?_;rintro e w3 ⟨rfl,hp3,ho3⟩
  go_wp2_with fail
  go_ret
  exact ⟨rfl,hp3,(Oth.nx HN1.out).trans ho3⟩
set_option maxRecDepth 100000 in
set_option maxHeartbeats 1600000 in
theorem qualN_any (h0:PC w b A c ws s) (l:List UInt8) (s':PSt) (hr:qualN ws s=(l,s')) :
  Calls Tryz.prog 97 #[.pointer (some ⟨b,0,none⟩)] w fun e w'=>e = .returned (.string ⟨l.toArray⟩)∧PC w' b A c ws s'∧Oth b w w':=by
 have H:=Lib.hid h0
 obtain ⟨N,hN⟩:∃ N,Hid (atNameP ws s=N):=⟨_,rfl⟩
 have htx:=h0.fin.word s
 obtain ⟨⟨tk,tt,tn,td,tp⟩,hT⟩:∃ T,Hid (wordP ws s=T):=⟨_,rfl⟩
 rw [hT.out] at htx
 have HTX:Hid ((tt.length:Int)≤8000):=by unfold Hid;have:((tt.length:Nat):Int)≤2000:=htx;omega
 obtain ⟨C,hC⟩:∃ C,Hid (qualP tt=C):=⟨_,rfl⟩
 have HR:Hid (((wordP ws (if (N && C) then s else failP 2 s)).t,nextP (if (N && C) then s else failP 2 s))=(l,s')):=by unfold Hid;rw [← hr];unfold qualN atQualP;rw [hN.out,hT.out,hC.out]
 have F1:∀ w1,(Instr.field 68 (.agg #[.int .i64 (tk:Int),.string ⟨tt.toArray⟩,.int .i64 tn,.int .u64 (td:Int),.int .i64 (tp:Int)]) 1).run Tryz.prog w1 = .ok (.string ⟨tt.toArray⟩) w1:=fun w1=>(tok_field _ _ _ _ _ w1).2.1
 have bad:∀ w1,PC w1 b A c ws s→Oth b w w1→True:=fun _ _ _=>trivial
 clear h0 hr htx bad
 go_enter Tryz.func97,Tryz.ntmps97
 go_wp2_with fail
 refine (atName_any H.out N hN.out).mono ?_;rintro e w1 ⟨rfl,hn1⟩
 have HN1:=Lib.hid hn1
 have HP1:=Lib.hid (H.out.nx hn1)
 clear hn1
 cases N
 ·obtain ⟨⟨uk,ut,un,ud,up⟩,hU⟩:∃ T,Hid (wordP ws (failP 2 s)=T):=⟨_,rfl⟩
  have hx:=HR.out
  rw [if_neg (by simp),hU.out] at hx
  simp only [Prod.mk.injEq] at hx
  obtain ⟨rfl,rfl⟩:=hx
  have F2:∀ w1,(Instr.field 68 (.agg #[.int .i64 (uk:Int),.string ⟨ut.toArray⟩,.int .i64 un,.int .u64 (ud:Int),.int .i64 (up:Int)]) 1).run Tryz.prog w1 = .ok (.string ⟨ut.toArray⟩) w1:=fun w1=>(tok_field _ _ _ _ _ w1).2.1
  go_wp2_with fail
  refine (fail_any HP1.out 2 (by decide) (by decide)).mono ?_;rintro e w2 ⟨rfl,hp2,ho2⟩
  have HP2:=Lib.hid hp2
  have HO2:=Lib.hid ho2
  clear hp2 ho2
  go_wp2_with fail
  refine (next_any HP2.out (fail_k (by decide)) _ _ _ _ _ hU.out).mono ?_;rintro e w3 ⟨rfl,hp3,ho3⟩
  go_wp2_with fail
  go_ret
  exact ⟨rfl,hp3,((Oth.nx HN1.out).trans HO2.out).trans ho3⟩
 ·go_wp2_with fail
  refine (word_any' HP1.out _ _ _ _ _ hT.out).mono ?_;rintro e w2 ⟨rfl,hn2⟩
  have HN2:=Lib.hid (HN1.out.trans hn2)
  have HP2:=Lib.hid (HP1.out.nx hn2)
  clear hn2
  go_wp2_with fail
  refine (qual_any w2 _ tt (Tx.of tt) C hC.out HTX.out HP2.out.tab HP2.out.mx).mono ?_;rintro e w3 ⟨rfl,hn3⟩
  have HN3:=Lib.hid (HN2.out.trans hn3)
  have HP3:=Lib.hid (HP2.out.nx hn3)
  clear hn3
  cases C
  ·obtain ⟨⟨uk,ut,un,ud,up⟩,hU⟩:∃ T,Hid (wordP ws (failP 2 s)=T):=⟨_,rfl⟩
   have hx:=HR.out
   rw [if_neg (by simp),hU.out] at hx
   simp only [Prod.mk.injEq] at hx
   obtain ⟨rfl,rfl⟩:=hx
   have F2:∀ w1,(Instr.field 68 (.agg #[.int .i64 (uk:Int),.string ⟨ut.toArray⟩,.int .i64 un,.int .u64 (ud:Int),.int .i64 (up:Int)]) 1).run Tryz.prog w1 = .ok (.string ⟨ut.toArray⟩) w1:=fun w1=>(tok_field _ _ _ _ _ w1).2.1
   go_wp2_with fail
   refine (fail_any HP3.out 2 (by decide) (by decide)).mono ?_;rintro e w4 ⟨rfl,hp2,ho2⟩
   have HP4:=Lib.hid hp2
   have HO4:=Lib.hid ho2
   clear hp2 ho2
   go_wp2_with fail
   refine (next_any HP4.out (fail_k (by decide)) _ _ _ _ _ hU.out).mono ?_;rintro e w5 ⟨rfl,hp3,ho3⟩
   go_wp2_with fail
   go_ret
   exact ⟨rfl,hp3,((Oth.nx HN3.out).trans HO4.out).trans ho3⟩
  ·have HK:=Lib.hid (atQual_k (ws:=ws) (s:=s) (by unfold atQualP;rw [hN.out,hT.out,hC.out];rfl))
   have hx:=HR.out
   rw [if_pos (by simp),hT.out] at hx
   simp only [Prod.mk.injEq] at hx
   obtain ⟨rfl,rfl⟩:=hx
   go_wp2_with fail
   refine (next_any HP3.out HK.out _ _ _ _ _ hT.out).mono ?_;rintro e w5 ⟨rfl,hp3,ho3⟩
   go_wp2_with fail
   go_ret
   exact ⟨rfl,hp3,(Oth.nx HN3.out).trans ho3⟩
set_option maxRecDepth 100000 in
set_option maxHeartbeats 1600000 in
theorem atType_any (h0:PC w b A c ws s) (B:Bool) (hB:atTypeP ws s=B) :
  Calls Tryz.prog 145 #[.pointer (some ⟨b,0,none⟩)] w fun e w'=>e = .returned (.bool B)∧Nx w w':=by
 have H:=Lib.hid h0
 obtain ⟨N,hN⟩:∃ N,Hid (atNameP ws s=N):=⟨_,rfl⟩
 have htx:=h0.fin.word s
 obtain ⟨⟨tk,tt,tn,td,tp⟩,hT⟩:∃ T,Hid (wordP ws s=T):=⟨_,rfl⟩
 rw [hT.out] at htx
 have HTX:Hid ((tt.length:Int)≤8000):=by unfold Hid;have:((tt.length:Nat):Int)≤2000:=htx;omega
 obtain ⟨O,hO⟩:∃ O,Hid (oftP tt=O):=⟨_,rfl⟩
 obtain ⟨C,hC⟩:∃ C,Hid (qualP tt=C):=⟨_,rfl⟩
 have HB:Hid ((N && (O || C))=B):=by unfold Hid;rw [← hB];unfold atTypeP;rw [hN.out,hT.out,hO.out,hC.out]
 have F1:∀ w1,(Instr.field 68 (.agg #[.int .i64 (tk:Int),.string ⟨tt.toArray⟩,.int .i64 tn,.int .u64 (td:Int),.int .i64 (tp:Int)]) 1).run Tryz.prog w1 = .ok (.string ⟨tt.toArray⟩) w1:=fun w1=>(tok_field _ _ _ _ _ w1).2.1
 clear h0 hB htx
 go_enter Tryz.func145,Tryz.ntmps145
 go_wp2_with fail
 refine (atName_any H.out N hN.out).mono ?_;rintro e w1 ⟨rfl,hn1⟩
 have HN1:=Lib.hid hn1
 have HP1:=Lib.hid (H.out.nx hn1)
 clear hn1
 cases N
 ·obtain rfl:false=B:=HB.out
  go_wp2_with fail
  go_ret
  exact ⟨rfl,HN1.out⟩
 ·go_wp2_with fail
  refine (word_any' HP1.out _ _ _ _ _ hT.out).mono ?_;rintro e w2 ⟨rfl,hn2⟩
  have HN2:=Lib.hid (HN1.out.trans hn2)
  have HP2:=Lib.hid (HP1.out.nx hn2)
  clear hn2
  go_wp2_with fail
  refine (isOfType_any w2 _ tt (Tx.of tt) O hO.out).mono ?_;rintro e w3 ⟨rfl,rfl⟩
  cases O
  ·go_wp2_with fail
   refine (word_any' HP2.out _ _ _ _ _ hT.out).mono ?_;rintro e w4 ⟨rfl,hn4⟩
   have HN4:=Lib.hid (HN2.out.trans hn4)
   have HP4:=Lib.hid (HP2.out.nx hn4)
   clear hn4
   have HB2:Hid (C=B):=HB.out
   go_wp2_with fail
   refine (qual_any w4 _ tt (Tx.of tt) C hC.out HTX.out HP4.out.tab HP4.out.mx).mono ?_;rintro e w5 ⟨rfl,hn5⟩
   go_wp2_with fail
   go_ret
   rw [HB2.out]
   exact ⟨rfl,HN4.out.trans hn5⟩
  ·obtain rfl:true=B:=HB.out
   go_wp2_with fail
   go_ret
   exact ⟨rfl,HN2.out⟩
end
end Go.Proofs.YtbblfkdmkpkmcaaGreatDoor
