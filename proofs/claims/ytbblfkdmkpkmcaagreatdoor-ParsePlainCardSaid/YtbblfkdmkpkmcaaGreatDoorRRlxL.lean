/- The contract of the document's lexer. -/
import Derived.Test.YtbblfkdmkpkmcaaGreatDoorR10
import Derived.Test.YtbblfkdmkpkmcaaGreatDoorG27
set_option linter.unusedVariables false
set_option linter.unusedSimpArgs false
set_option linter.unnecessarySimpa false
namespace Go.Proofs.YtbblfkdmkpkmcaaGreatDoor
open Go.RowKit
theorem next_parts (o:Nat) (m:List UInt8) (n:Nat) (q:Bool) (we wat:Nat) (wt:TokV) (wn:Nat) (h1:skipS m=(n,q)) (h2:wordS (m.drop n)=(we,wat,wt,wn)) :
  nextS o m=if q=false then (2,o+n,tok0,0) else if we≠0 then (we,o+n+wat,tok0,0) else (0,0,{ wt with p:=o+n },n+wn):=by
 unfold nextS
 rw [h1]
 dsimp only
 rw [h2]
set_option maxRecDepth 100000 in
set_option maxHeartbeats 6400000 in
theorem refLex_any (s:ByteArray) (l:List UInt8) (w:World) (hl:Tx s l) (hs:(l.length:Int)≤140737488355328) :
  Calls Tryz.prog 25 #[.string s] w fun e w'=>∃ v,e = .returned (.tuple #[v,.int .i64 ((lexS l).2.1:Nat),.int .i64 ((lexS l).2.2:Nat)])∧OwnT w' w.heap.size v (lexS l).1∧Nx w w':=by
 have HL:=Lib.hid hl
 have hz:(s.size:Int)=(l.length:Int):=by rw [hl.size]
 obtain ⟨R,hR⟩:∃ R,Hid (lexS l=R):=⟨_,rfl⟩
 rw [hR.out]
 by_cases hlong:2000<l.length
 ·have g1:decide ((2000:Int)<(l.length:Int))=true:=decide_eq_true (by omega)
  have hr:R=([],4,0):=by rw [← hR.out];unfold lexS;rw [if_pos hlong]
  subst hr
  clear hl hlong
  go_enter Tryz.func25,Tryz.ntmps25
  go_wp2_with fail
  go_ret3
  exact ⟨_,rfl,OwnT.nil_ _ _,Nx.refl _⟩
 ·have g1:decide ((2000:Int)<(l.length:Int))=false:=decide_eq_false (by omega)
  have hs2:(l.length:Int)≤2000:=by omega
  have HR:Hid (lexF (l.length+1) 0 l=R):=by unfold Hid;rw [← hR.out];unfold lexS;rw [if_neg hlong]
  obtain ⟨b,hb⟩:∃ b,w.heap.size=b:=⟨_,rfl⟩
  have hB0:=Blk.new w #[.string s,.int .i64 0,.int .i64 0,.int .i64 0] 101
  rw [hb] at hB0
  have hN0:Nx w (w.alloc (Obj.cells #[.string s,.int .i64 0,.int .i64 0,.int .i64 0] 101)):=nx0 _ _
  have hsz:(w.alloc (Obj.cells #[.string s,.int .i64 0,.int .i64 0,.int .i64 0] 101)).heap.size=b+1:=by simp [hb]
  clear hl hlong
  go_enter Tryz.func25,Tryz.ntmps25
  go_wp2_with fail
  generalize hW1:World.alloc _ _=w1 at *
  go_loopw [6] (fun lv wr=>∃ (o f:Nat) (acc:List TokV),OwnT wr (b+1) lv acc∧Lxb wr b s o 0 0∧o≤l.length∧Hid (R=cat acc (lexF f o (l.drop o)))∧l.length - o<f∧acc.length≤o∧Oth b w1 wr) (fun _ wr=>10000 - atL b wr)
  case atStart=>exact ⟨0,l.length+1,[],OwnT.nil_ _ _,hB0,Nat.zero_le _,by unfold Hid;rw [List.drop_zero,cat_nil _ (lexF_zero _ _ _)];exact HR.out.symm,by omega,Nat.zero_le _,Oth.refl _ _⟩
  case round =>
   obtain ⟨o,f,acc,hown,hC,ho,HS,hf,hacc,hO⟩:=hrel
   obtain ⟨f,rfl⟩:∃ k,f=k+1:=⟨f - 1,by omega⟩
   obtain ⟨n,q,hsk⟩:∃ n q,skipS (l.drop o)=(n,q):=⟨_,_,rfl⟩
   obtain ⟨we,wat,wt,wn,hwd⟩:∃ we wat wt wn,wordS ((l.drop o).drop n)=(we,wat,wt,wn):=⟨_,_,_,_,rfl⟩
   have hX:=next_parts o (l.drop o) n q we wat wt wn hsk hwd
   obtain ⟨P,hP⟩:∃ P,o+n=P:=⟨_,rfl⟩
   rw [List.drop_drop,hP] at hwd
   rw [hP] at hX
   have hn:P≤l.length:=by
    have:=skipS_le (l.drop o)
    rw [hsk,List.length_drop] at this
    dsimp only at this
    omega
   have hnl:=next_len o (l.drop o)
   have hE:=lexF_err f o (l.drop o)
   have hD:=lexF_end f o (l.drop o)
   have hMo:=fun h h6=>lexF_more f o (l.drop o) h h6 acc
   rw [hX] at hnl hE hD hMo
   have HE:=Lib.hid hE
   have HD:=Lib.hid hD
   have HMo:=Lib.hid hMo
   have HNL:=Lib.hid hnl
   have HSK:=Lib.hid hsk
   have HWD:=Lib.hid hwd
   have hat:=hC.at_
   have HC:=Lib.hid hC
   have HOWN:=Lib.hid hown
   have HO:=Lib.hid hO
   clear hE hD hMo hnl hC hown hO hX hsk hwd
   go_wp2_with fail
   refine (space_any b s l o _ HC.out HL.out ho (by omega)).mono ?_;rintro e w2 ⟨rfl,h1,h2,ho2⟩
   rw [HSK.out] at h1 h2
   dsimp only at h1 h2
   rw [hP] at h1 h2
   have hO2:=HO.out.trans ho2
   have hown2:=HOWN.out.oth ho2 (by omega)
   have HO2:=Lib.hid hO2
   have HOWN2:=Lib.hid hown2
   cases q
   ·
    have hC2:=h2 rfl
    have HRS:Hid (R=([],2,P)):=by
     unfold Hid;rw [HS.out,HE.out (by simp)];rfl
    have hN2:Nx w w2:=Oth.to hO2 hN0 (by omega)
    have c2:w2.cell? ⟨b,2,none⟩=some (.int .i64 ((2:Nat):Int)):=hC2.cell 2
    have c3:w2.cell? ⟨b,3,none⟩=some (.int .i64 (P:Int)):=hC2.cell 3
    clear h1 h2 hown2 hO2 ho2
    go_wp2_with fail
    go_quiet (fail)
    go_wp2_with fail
    go_ret3
    rw [HRS.out]
    exact ⟨_,rfl,OwnT.nil_ _ _,hN2.dr _⟩
   ·have hC2:=h1 rfl
    have HC2:=Lib.hid hC2
    obtain ⟨c0,c1,c2,c3,-⟩:=Lxb.cells hC2
    clear h1 h2 hown2 hO2 ho2 hC2
    go_wp2_with fail
    refine (refWord_any b s l P _ HC2.out HL.out hn (by omega)).mono ?_;rintro e w3 ⟨k,t,v,d,p,rfl,i',hC3,hif,hO3⟩
    rw [HWD.out] at hC3 hif
    dsimp only at hC3 hif
    have hO3':=HO2.out.trans hO3
    have hown3:=HOWN2.out.oth hO3 (by omega)
    have hsz3:b+1≤w3.heap.size:=by have:=hO3'.size;omega
    clear c0 c1 c2 c3
    by_cases he:we=0
    ·subst he
     obtain ⟨hcs,rfl⟩:=hif rfl
     obtain ⟨hn1,hn2,hn3⟩:=HNL.out rfl
     rw [List.length_drop] at hn1
     obtain ⟨fk,ft,fv,fd,fp⟩:=wt
     unfold tokC at hcs
     simp at hcs
     obtain ⟨rfl,rfl,rfl,rfl,rfl⟩:=hcs
     have hal:(acc.length:Int)≤100000:=by omega
     simp only [Bool.true_eq_false,if_false,ne_eq,not_true_eq_false] at hn1 hn2
     have HD2:=HD.out
     have HMo2:=HMo.out
     simp only [Bool.true_eq_false,if_false,ne_eq,not_true_eq_false] at HD2 HMo2
     have HD3:=Lib.hid HD2
     have HMo3:=Lib.hid HMo2
     have HO3:=Lib.hid hO3'
     have HC3:=Lib.hid hC3
     clear hif HD2 HMo2 hC3 hO3
     go_upto_region 9 with fail
     generalize hW4:World.alloc _ _=w4
     obtain ⟨g7,hg7⟩:∃ g7,w3.heap.size=g7:=⟨_,rfl⟩
     have hne7:u6.ownBlock≠some g7:=by rw [← hg7];exact own_ne hown3
     have hB7:Blk w4 g7 g7 #[.int .i64 (fk:Nat),.string ⟨ft.toArray⟩,.int .i64 v,.int .u64 (fd:Nat),.int .i64 (P:Nat)] 68:=by rw [← hW4,← hg7];exact Blk.new _ _ _
     have hown4:OwnT w4 (b+1) u6 acc:=by rw [← hW4];exact hown3.alloc _
     have hC4:Lxb w4 b s (P+wn) 0 0:=by rw [← hW4];exact HC3.out.alloc _
     have HO4:Hid (Oth b w1 w4):=by rw [← hW4];exact HO3.out.trans (Oth.nx (nx0 _ _))
     have hsz4:b+1≤w4.heap.size:=by have:=HO4.out.size;omega
     have hg7l:g7<w4.heap.size:=hB7.lt
     have HC4:=Lib.hid hC4
     have c2:w4.cell? ⟨b,2,none⟩=some (.int .i64 ((0:Nat):Int)):=hC4.cell 2
     obtain ⟨t0,t1,t2,t3,t4,-⟩:=cells5 hB7
     rw [hg7]
     clear hW4 hown3 hC4
     by_cases h6:fk=6
     ·subst h6
      have HRS:Hid (R=(acc++[⟨6,ft,v,fd,P⟩],0,0)):=by unfold Hid;rw [HS.out,HD3.out trivial rfl];rfl
      go_wp2_with (at_builtin;go_must (refine wpList_appT _ rfl _ _ rfl (b+1) _ acc ⟨6,ft,v,fd,P⟩ rfl (hown4.alloc _) _ rfl (fun j hj=>cell_newT (by simp)) hal (by simp;omega) ?_;intro v3 w5 hown5 hbel5 hold5;have d0:w5.cell? ⟨g7,0,none⟩=some (.int .i64 (6:Int)):=(World.cell?_of_block (hold5 g7 (by simp;omega) hne7)).trans ((hB7.alloc _).cell 0)))
      go_ret3
      rw [HRS.out]
      refine ⟨_,rfl,hown5.less (by omega),?_⟩
      exact Oth.to ((HO4.out.trans (Oth.nx (nx0 _ _))).bel (Nat.le_of_eq hsz) hbel5) hN0 (by omega)
     ·have h6b:((fk:Int) == 6)=false:=by rw [beq_eq_false_iff_ne];omega
      have HRS:Hid (R=cat (acc++[⟨fk,ft,v,fd,P⟩]) (lexF f (P+wn) (l.drop (P+wn)))):=by unfold Hid;rw [HS.out,HMo3.out trivial h6,List.drop_drop,← Nat.add_assoc,hP]
      go_wp2_with (at_builtin;go_must (refine wpList_appT _ rfl _ _ rfl (b+1) _ acc ⟨fk,ft,v,fd,P⟩ rfl (hown4.alloc _) _ rfl (fun j hj=>cell_newT (by simp)) hal (by simp;omega) ?_;intro v3 w5 hown5 hbel5 hold5;have d0:w5.cell? ⟨g7,0,none⟩=some (.int .i64 ((fk:Nat):Int)):=(World.cell?_of_block (hold5 g7 (by simp;omega) hne7)).trans ((hB7.alloc _).cell 0)))
      have hC5:=(HC4.out.alloc (.cells #[.int .i64 (fk:Nat),.string ⟨ft.toArray⟩,.int .i64 v,.int .u64 (fd:Nat),.int .i64 (P:Nat)] 68)).bel hbel5 (by omega)
      go_roundw
      case rel =>
       exact ⟨P+wn,f,acc++[⟨fk,ft,v,fd,P⟩],hown5,hC5,by omega,HRS,by have:=hn2 h6;omega,by have:=hn2 h6;simp;omega,(HO4.out.trans (Oth.nx (nx0 _ _))).bel (Nat.le_of_eq hsz) hbel5⟩
      case measure =>
       have:=Lxb.at_ hC5
       have:=hn2 h6
       omega
    ·have b0:((we:Int) != 0)=true:=by simp;omega
     have HRS:Hid (R=([],we,P+wat)):=by
      unfold Hid;rw [HS.out,HE.out (by simp [he])];simp [cat,he]
     rw [if_neg he] at hC3
     have hN3:Nx w w3:=Oth.to hO3' hN0 (by omega)
     have HC3:=Lib.hid hC3
     clear hif hC3 hO3 hown3
     go_upto_region 9 with fail
     generalize hW4:World.alloc _ _=w4
     have hC4:Lxb w4 b s i' we (P+wat):=by rw [← hW4];exact HC3.out.alloc _
     have hN4:Nx w w4:=by rw [← hW4];exact hN3.al _
     have c2:w4.cell? ⟨b,2,none⟩=some (.int .i64 (we:Int)):=hC4.cell 2
     have c3:w4.cell? ⟨b,3,none⟩=some (.int .i64 ((P+wat:Nat):Int)):=hC4.cell 3
     clear hW4
     go_wp2_with fail
     go_quiet (fail)
     go_wp2_with fail
     go_ret3
     rw [HRS.out]
     exact ⟨_,rfl,OwnT.nil_ _ _,hN4.dr _⟩
end Go.Proofs.YtbblfkdmkpkmcaaGreatDoor
