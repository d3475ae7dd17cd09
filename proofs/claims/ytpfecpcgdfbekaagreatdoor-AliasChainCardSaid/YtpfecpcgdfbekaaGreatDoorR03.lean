/- KinD KinE -/
import Derived.Test.YtpfecpcgdfbekaaGreatDoorR02
import Derived.StillTailTactics
import Derived.Test.YtpfecpcgdfbekaaGreatDoorG09
import Derived.Test.YtpfecpcgdfbekaaGreatDoorR00
set_option linter.unusedVariables false
set_option linter.unusedSimpArgs false
set_option linter.unnecessarySimpa false
set_option linter.unusedSectionVars false
namespace Go.Proofs.YtpfecpcgdfbekaaGreatDoor
open Go.RowKit
theorem look_at {w:World} {g:Nat} (h:Sg w g) (k n:Nat) (hk:k<17) (hn:n<4) (ni:Int) (hni:(n:Int)=ni) (x:Option Nat) (hx:signV k n=x) (xi:Int) (hxi:((x.getD 0:Nat):Int)=xi) (B:Bool) (hB:x.isSome=B) :
  (Instr.lookup 133 (.map (some g)) (.agg #[.int .i64 (k:Int),.int .i64 ni]) true).run Tryz.prog w = .ok (.tuple #[.int .u8 xi,.bool B]) w:=by
 subst hni hx hxi hB
 exact look_sign h k n hk hn
theorem CurK.other2 {w:World} {b g:Nat} {s:ByteArray} {o d dp:Int} {v v0 v1:Value} {sb:Nat} (h:CurK w b s o d dp v sb) (hg:g≠b):CurK ((w.setCell ⟨g,0,none⟩ v0).setCell ⟨g,1,none⟩ v1) b s o d dp v sb:=(Blk.other h hg 0 v0).other hg 1 v1
theorem Aft.err {b:Nat} {s:ByteArray} {o Dc D DP sb B:Nat} {v v':Value} {ns:List ByteArray} {w w':World} {P:Nat×Ty×Nat} {o' dp':Int} (hc:CurK w' b s o' (Dc:Int) dp' v' sb) (hF:Fr b v w v' w') (hP:P.1≠0):Aft b s o Dc D DP sb B v ns w w' P :=
 ⟨o',dp',v',hc,hF,fun h=>absurd h hP⟩
theorem take_lit (x:Int) (u:UInt8) (hu:(u.toNat:Int)=x) (b:Nat) (s:ByteArray) (l:List UInt8) (o:Nat) (d dp:Int) (v:Value) (sb:Nat) (w:World) (hC:CurK w b s (o:Int) d dp v sb) (hl:Tx s l) (ho:o≤l.length) (hs:(l.length:Int)≤8000) (T:Bool) (hT:decide ((l.drop o).head? = some u)=T) :
  Calls Tryz.prog 145 #[.pointer (some ⟨b,0,none⟩),.int .u8 x] w fun e w'=>e = .returned (.bool T) ∧
   CurK w' b s ((o+(if T then 1 else 0):Nat):Int) d dp v sb∧Oth b w w':=by
 subst hu hT
 have:=take_any b s l o d dp v sb u w hC hl ho hs
 simpa using this
theorem Pre.step {w w3:World} {b g:Nat} {s:ByteArray} {l:List UInt8} {o D1 DP sb B o2 DP2:Nat} {v v2:Value} {ns ns2:List ByteArray} {cs:Array Value} (h:Pre w b s l o D1 DP sb B v ns) (hF:Fr b v w v2 w3) (hc:CurK w3 b s (o2:Int) (D1:Int) (DP2:Int) v2 sb)
  (hO:OwnN w3 B v2 ns2) (hB:Blk w3 g g cs 130) (hg:w.heap.size≤g) (hgb:g≠b) (u:Value) (i:Nat) (ho:o2≤l.length) (hn:ns2.length≤o2) (hle:D1≤DP2) (hdp:DP2≤12) :
  Pre (w3.setCell ⟨g,i,none⟩ u) b s l o2 D1 DP2 sb B v2 ns2 :=
 h.fr (hF.put hg i u) (Blk.other hc hgb i u) ho (hO.keep fun k e=>by
  have hne:=hO.ne hB (by decide)
  simp only [World.setCell]
  rw [Array.getElem?_modify,if_neg (fun e'=>hne (by rw [e'];exact e))]) hn hle hdp
set_option maxRecDepth 100000 in
set_option maxHeartbeats 6400000 in
theorem between1_any (r:Nat) (hN:NextC r) (w:World) (b:Nat) (s:ByteArray) (l:List UInt8) (o D DP sb B:Nat) (v:Value) (ns:List ByteArray) (k:Nat) (hk:k=14∨k=15) (hP:Pre w b s l o (D+1) DP sb B v ns) (hD:D+1+r=12) :
  Calls Tryz.prog 127 #[.pointer (some ⟨b,0,none⟩),.int .i64 (k:Int)] w (PartR b s o (D+1) D DP sb B v ns w (innT (parT r) k (l.drop o))):=by
 have HK:=Lib.hid hk
 have hk17:k<17:=by omega
 have hkI:(k:Int)<17:=by omega
 have HP:=Lib.hid hP
 have HN:=Lib.hid hN
 have HD:=Lib.hid hD
 obtain ⟨g,hg⟩:∃ g,w.heap.size=g:=⟨_,rfl⟩
 have hB0:=Blk.new w #[.string noB,.string noB] 130
 rw [hg] at hB0
 have hN0:Nx w (w.alloc (Obj.cells #[.string noB,.string noB] 130)):=nx0 _ _
 have HB0:=Lib.hid hB0
 have HN0:=Lib.hid hN0
 obtain ⟨p,hp⟩:∃ p,Hid (parT r (l.drop (o+1))=p):=⟨_,rfl⟩
 obtain ⟨R,hR⟩:∃ R,Hid (innT (parT r) k (l.drop o)=R):=⟨_,rfl⟩
 rw [hR.out]
 have hgb:g≠b:=by have:=hP.bB;have:=hP.bz;omega
 have HGB:=Lib.hid hgb
 have hgI:w.heap.size≤g:=by omega
 clear hP hN hD hB0 hN0 hk hgb
 go_enter Tryz.func127,Tryz.ntmps127
 go_wp2_with fail
 go_loopw [6] (fun i wr=>∃ (j o' DP':Nat) (v':Value) (ns':List ByteArray) (A C:ByteArray),i = .int .i64 (j:Int)∧Pre wr b s l o' (D+1) DP' sb B v' ns'∧Blk wr g g #[.string A,.string C] 130∧Fr b v w v' wr∧Hid (StL p l o DP (D+1) ns j o' DP' ns' A C)) (fun i _=>5 - (intOf i).toNat)
 case atStart=>exact ⟨0,o,DP,v,ns,noB,noB,rfl,HP.out.nx HN0.out,HB0.out,Fr.nx HN0.out _ _,.inl ⟨rfl,rfl,rfl,rfl,rfl,rfl⟩⟩
 case round =>
  obtain ⟨j,o',DP',v',ns',A,C,rfl,hP1,hB1,hF1,HS⟩:=hrel
  have c5:wr.cell? ⟨b,5,none⟩=some (.map (some sb)):=hP1.cur.cell 5
  have HP1:=Lib.hid hP1
  have HB1:=Lib.hid hB1
  have HF1:=Lib.hid hF1
  clear hP1 hB1 hF1
  rcases HS.out with h | h | h
  ·obtain ⟨rfl,rfl,rfl,rfl,rfl,rfl⟩:=h
   have hl:=look_at HP1.out.sg k 0 hk17 (by decide) 0 rfl _ (sign_l0 HK.out) 60 rfl true rfl
   rw [show ((0:Nat):Int)=0 from rfl]
   by_cases h60:(l.drop o').head? = some 60
   ·have HT:=Lib.hid (decide_eq_true h60)
    have H60:=Lib.hid h60
    clear h60
    go_wp2_with fail
    refine (take_lit 60 60 rfl b s l o' _ _ _ sb wr HP1.out.cur HP1.out.tx HP1.out.ho HP1.out.hs true HT.out).mono ?_;rintro e w1 ⟨rfl,hC1,hO1⟩
    obtain ⟨O1,hO1e⟩:∃ O1,o'+1=O1:=⟨_,rfl⟩
    have hlen:=(head_take l 60 o' H60.out).2
    simp only [if_true,hO1e] at hC1
    have hP2:=HP1.out.oth hO1 hC1 (by omega) (by omega) HP1.out.le HP1.out.dp
    have hB2:=hO1.blk HB1.out HGB.out
    have c1:w1.cell? ⟨b,1,none⟩=some (.int .i64 (O1:Int)):=hC1.cell 1
    have hF2:=HF1.out.trans (Fr.oth hO1 _)
    have HB2:=Lib.hid hB2
    have HF2:=Lib.hid hF2
    have HP2:=Lib.hid hP2
    have HO1:=Lib.hid hO1e
    have HP3:Hid (parT r (l.drop O1)=p):=by unfold Hid;rw [← hO1e];exact hp.out
    have hz2:g<w1.heap.size:=hB2.lt
    clear hB2 hF2 hC1 hO1 hP2 hO1e c5 hl
    go_wp2_with fail
    refine (HN.out w1 b s l O1 (D+1) DP' sb B v' ns' HP2.out HD.out).mono ?_;rintro e w2 ⟨K,N,A2,C2,rfl,hh,o2,dp2,v2,hC2,hF2,hA2⟩
    rw [HP3.out] at hh hA2 ⊢
    obtain ⟨pe,pt,pn⟩:=p
    dsimp only at hh hA2 ⊢
    have hF3:=HF2.out.trans hF2
    have hB3:=hF2.blk HB2.out HGB.out (HP2.out.own.ne HB2.out (by decide))
    have c0:w2.cell? ⟨g,0,none⟩=some (.string noB):=hB3.cell 0
    have c1:w2.cell? ⟨g,1,none⟩=some (.string noB):=hB3.cell 1
    have f0:w2.frozen? ⟨g,0,none⟩=false:=hB3.free 0
    have f1:w2.frozen? ⟨g,1,none⟩=false:=hB3.free 1
    have HB3:=Lib.hid hB3
    have HF3:=Lib.hid hF3
    have HC2:=Lib.hid hC2
    have HA2:=Lib.hid hA2
    have HH:=Lib.hid hh
    clear hB3 hF3 hC2 hF2 hA2 hh
    by_cases hpe:pe=0
    ·subst hpe
     obtain ⟨rfl,rfl,hOwn⟩:=HA2.out rfl
     have hpl:=parT_names r (l.drop O1)
     rw [HP3.out] at hpl
     have hpl:=hpl rfl
     dsimp only at hpl
     obtain ⟨O2,hO2⟩:∃ O2,O1+pn=O2:=⟨_,rfl⟩
     have hO1':=HO1.out
     have hO2l:O2≤l.length:=by have:=hpl.2;simp at this;omega
     have hC3:=HC2.out
     rw [hO2] at hC3
     obtain ⟨u,hu,HU⟩:=HP1.out.tx.mid O1 O2
     have t0:w2.cell? ⟨b,0,none⟩=some (.string s):=hC3.cell 0
     have t1:w2.cell? ⟨b,1,none⟩=some (.int .i64 (O2:Int)):=hC3.cell 1
     have h12:(O1:Int)≤(O2:Int):=by omega
     have hO2s:(O2:Int)≤(s.size:Int):=by rw [HP1.out.tx.size];omega
     have HC3:=Lib.hid hC3
     have HO2:=Lib.hid hO2
     have HPL:=Lib.hid hpl
     have HOwn:=Lib.hid hOwn
     clear hC3 hO2 hpl hOwn HA2 hO1'
     rw [show ((0:Nat):Int)=0 from rfl]
     go_wp2_with fail
     go_still_tail 12,(by kernel_rfl)
     change wpList _ _ _ _ _ w2.drew
     have HC4:Hid (CurK w2.drew b s (O2:Int) ((D+1:Nat):Int) ((max DP' (D+1+depthT pt):Nat):Int) v2 sb):=HC3.out
     have HB4:Hid (Blk w2.drew g g #[.string noB,.string noB] 130):=HB3.out
     have HF4:Hid (Fr b v w v2 w2.drew):=HF3.out.trans (Fr.nx ((Nx.refl w2).dr 1) _ _)
     have HOwn4:Hid (OwnN w2.drew B v2 (ns'++nmB pt)):=HOwn.out
     clear HC3 HB3 HF3 HOwn c0 c1 f0 f1 t0 t1
     generalize w2.drew=w3 at *
     have f0:w3.frozen? ⟨g,0,none⟩=false:=HB4.out.free 0
     have c0:w3.cell? ⟨g,0,none⟩=some (.string noB):=HB4.out.cell 0
     have hsd:=parT_sound r (l.drop O1)
     rw [HP3.out] at hsd
     have hsd:=hsd rfl
     dsimp only at hsd
     have HSD:=Lib.hid hsd
     clear hsd
     go_wp2_with fail
     have h1:=HO1.out
     have h2:=HO2.out
     have h3:=HPL.out
     have h4:=HSD.out
     have h5:=HP.out.nsl
     have h6:=HP1.out.le
     have h7:=HP1.out.dp
     have h8:=HD.out
     refine ⟨⟨1,O2,max DP' (D+1+depthT pt),v2,ns'++nmB pt,u,noB,rfl,?_,HB4.out.put 0 _,HF4.out.put hgI 0 _,.inr (.inl ⟨rfl,H60.out,rfl,by dsimp only;omega,rfl,rfl,?_,rfl⟩)⟩,by simp [intOf]⟩
     ·refine HP.out.step HF4.out HC4.out HOwn4.out HB4.out hgI HGB.out _ _ hO2l ?_ (by omega) (by omega)
      rw [List.length_append,nmB_len];omega
     ·dsimp only
      rw [← h4.2.2.2,List.take_drop,h2]
      exact HU.out
    ·have hb:((pe:Int) != 0)=true:=by rw [bne_iff_ne];omega
     have HR:Hid (R=noTy pe):=by
      unfold Hid;rw [← hR.out];unfold innT
      rw [if_neg (by rw [H60.out];simp),List.drop_drop,hp.out]
      dsimp only
      rw [if_pos hpe]
     have HPE:=Lib.hid hpe
     clear hpe
     go_wp2_with fail
     refine bodyPost_ret (results_cell_tmp_rowK rfl _ _ g _ _ _ _ rfl HB3.out.put2.2 Tryz.underlying130 rfl (by kernel_rfl)) rfl ?_
     rw [HR.out]
     exact ⟨_,_,rfl,fun h=>absurd h HPE.out,Aft.err (HC2.out.other2 HGB.out) (HF3.out.put2 hgI) HPE.out⟩
   ·have HR:Hid (R=noTy 2):=by unfold Hid;rw [← hR.out];unfold innT;rw [if_pos h60]
    have HT:=Lib.hid (decide_eq_false h60)
    clear h60
    go_wp2_with fail
    refine (take_lit 60 60 rfl b s l o' _ _ _ sb wr HP1.out.cur HP1.out.tx HP1.out.ho HP1.out.hs false HT.out).mono ?_;rintro e w1 ⟨rfl,hC1,hO1⟩
    have hB2:=hO1.blk HB1.out HGB.out
    have c0:w1.cell? ⟨g,0,none⟩=some (.string noB):=hB2.cell 0
    have c1:w1.cell? ⟨g,1,none⟩=some (.string noB):=hB2.cell 1
    have f0:w1.frozen? ⟨g,0,none⟩=false:=hB2.free 0
    have f1:w1.frozen? ⟨g,1,none⟩=false:=hB2.free 1
    have hF2:=HF1.out.trans (Fr.oth hO1 _)
    have HB2:=Lib.hid hB2
    have HF2:=Lib.hid hF2
    have HC1:=Lib.hid hC1
    clear hB2 hF2 hC1 hO1
    go_wp2_with fail
    refine bodyPost_ret (results_cell_tmp_rowK rfl _ _ g _ _ _ _ rfl HB2.out.put2.2 Tryz.underlying130 rfl (by kernel_rfl)) rfl ?_
    rw [HR.out]
    exact ⟨_,_,rfl,fun h=>absurd h (by decide),Aft.err (HC1.out.other2 HGB.out) (HF2.out.put2 hgI) (by decide)⟩
  ·obtain ⟨rfl,h60,hp0,hoe,hDP,rfl,hA,rfl⟩:=h
   have H60:=Lib.hid h60
   have HP0:=Lib.hid hp0
   have HOE:=Lib.hid hoe
   have HDP:=Lib.hid hDP
   have HA:=Lib.hid hA
   have hl:=look_at HP1.out.sg k 1 hk17 (by decide) 1 rfl _ (sign_l1 HK.out) 62 rfl true rfl
   clear h60 hp0 hoe hDP hA
   rw [show ((1:Nat):Int)=1 from rfl]
   by_cases h62:(l.drop o').head? = some 62
   ·have HT:=Lib.hid (decide_eq_true h62)
    have H62:=Lib.hid h62
    clear h62
    go_wp2_with fail
    refine (take_lit 62 62 rfl b s l o' _ _ _ sb wr HP1.out.cur HP1.out.tx HP1.out.ho HP1.out.hs true HT.out).mono ?_;rintro e w1 ⟨rfl,hC1,hO1⟩
    have hlen:=(head_take l 62 o' H62.out).2
    simp only [if_true] at hC1
    have hP2:=HP1.out.oth hO1 hC1 (by omega) (by omega) HP1.out.le HP1.out.dp
    have HP2:=Lib.hid hP2
    have HB2:=Lib.hid (hO1.blk HB1.out HGB.out)
    have HF2:=Lib.hid (HF1.out.trans (Fr.oth hO1 _))
    clear hP2 hC1 hO1 c5 hl
    go_wp2_with fail
    exact ⟨⟨2,o'+1,DP',v',_,A,noB,rfl,HP2.out,HB2.out,HF2.out,.inr (.inr ⟨rfl,H60.out,HP0.out,by rw [← HOE.out];exact H62.out,by rw [HOE.out],HDP.out,rfl,HA.out,rfl⟩)⟩,by simp [intOf]⟩
   ·have HR:Hid (R=noTy 2):=by
     unfold Hid;rw [← hR.out];unfold innT
     rw [if_neg (by rw [H60.out];simp),List.drop_drop,hp.out,if_neg (by rw [HP0.out];simp),if_neg (by have:=HK.out;omega),List.drop_drop,if_pos (by rw [← Nat.add_assoc,← HOE.out];exact h62)]
    have HT:=Lib.hid (decide_eq_false h62)
    clear h62
    go_wp2_with fail
    refine (take_lit 62 62 rfl b s l o' _ _ _ sb wr HP1.out.cur HP1.out.tx HP1.out.ho HP1.out.hs false HT.out).mono ?_;rintro e w1 ⟨rfl,hC1,hO1⟩
    have hB2:=hO1.blk HB1.out HGB.out
    have c0:w1.cell? ⟨g,0,none⟩=some (.string A):=hB2.cell 0
    have c1:w1.cell? ⟨g,1,none⟩=some (.string noB):=hB2.cell 1
    have f0:w1.frozen? ⟨g,0,none⟩=false:=hB2.free 0
    have f1:w1.frozen? ⟨g,1,none⟩=false:=hB2.free 1
    have hF2:=HF1.out.trans (Fr.oth hO1 _)
    have HB2:=Lib.hid hB2
    have HF2:=Lib.hid hF2
    have HC1:=Lib.hid hC1
    clear hB2 hF2 hC1 hO1
    go_wp2_with fail
    refine bodyPost_ret (results_cell_tmp_rowK rfl _ _ g _ _ _ _ rfl HB2.out.put2.2 Tryz.underlying130 rfl (by kernel_rfl)) rfl ?_
    rw [HR.out]
    exact ⟨_,_,rfl,fun h=>absurd h (by decide),Aft.err (HC1.out.other2 HGB.out) (HF2.out.put2 hgI) (by decide)⟩
  ·obtain ⟨rfl,h60,hp0,h62,hoe,hDP,rfl,hA,rfl⟩:=h
   have hl:=look_at HP1.out.sg k 2 hk17 (by decide) 2 rfl _ (sign_l2 HK.out) 0 rfl false rfl
   have HR:Hid (R=(0,.l1 k p.2.1,1+p.2.2+1)):=by
    unfold Hid;rw [← hR.out];unfold innT
    rw [if_neg (by rw [h60];simp),List.drop_drop,hp.out,if_neg (by rw [hp0];simp),if_neg (by have:=HK.out;omega),List.drop_drop,if_neg (by rw [← Nat.add_assoc,h62];simp)]
   have HOE:=Lib.hid hoe
   have HDP:=Lib.hid hDP
   have HA:=Lib.hid hA
   have c0:wr.cell? ⟨g,0,none⟩=some (.string A):=HB1.out.cell 0
   have c1:wr.cell? ⟨g,1,none⟩=some (.string noB):=HB1.out.cell 1
   have f0:wr.frozen? ⟨g,0,none⟩=false:=HB1.out.free 0
   have f1:wr.frozen? ⟨g,1,none⟩=false:=HB1.out.free 1
   clear h60 hp0 h62 hoe hDP hA
   rw [show ((2:Nat):Int)=2 from rfl]
   go_wp2_with fail
   refine bodyPost_ret (results_cell_tmp_rowK rfl _ _ g _ _ _ _ rfl HB1.out.put2.2 Tryz.underlying130 rfl (by kernel_rfl)) rfl ?_
   rw [HR.out]
   refine ⟨_,_,rfl,fun _=>⟨HA.out,rfl⟩,_,_,v',HP1.out.cur.other2 HGB.out,HF1.out.put2 hgI,fun _=>⟨?_,?_,?_⟩⟩
   ·rw [HOE.out];dsimp only;congr 1;omega
   ·rw [HDP.out];dsimp only [depthT];congr 1;omega
   ·refine HP1.out.own.keep fun k e=>?_
    have hne:=HP1.out.own.ne HB1.out (by decide)
    simp only [World.setCell]
    rw [Array.getElem?_modify,if_neg (fun e'=>hne (by rw [e'];exact e)),Array.getElem?_modify,if_neg (fun e'=>hne (by rw [e'];exact e))]
end Go.Proofs.YtpfecpcgdfbekaaGreatDoor
namespace Go.Proofs.YtpfecpcgdfbekaaGreatDoor
open Go.RowKit
theorem look_m {w:World} {g:Nat} (h:Sg w g) (n:Nat) (hn:n<4) (ni:Int) (hni:(n:Int)=ni) (x:Option Nat) (hx:signV 13 n=x) (xi:Int) (hxi:((x.getD 0:Nat):Int)=xi) (B:Bool) (hB:x.isSome=B) :
  (Instr.lookup 133 (.map (some g)) (.agg #[.int .i64 13,.int .i64 ni]) true).run Tryz.prog w = .ok (.tuple #[.int .u8 xi,.bool B]) w :=
 look_at h 13 n (by decide) hn ni hni x hx xi hxi B hB
set_option maxRecDepth 100000 in
set_option maxHeartbeats 6400000 in
theorem between13_any (r:Nat) (hN:NextC r) (w:World) (b:Nat) (s:ByteArray) (l:List UInt8) (o D DP sb B:Nat) (v:Value) (ns:List ByteArray) (hP:Pre w b s l o (D+1) DP sb B v ns) (hD:D+1+r=12) :
  Calls Tryz.prog 127 #[.pointer (some ⟨b,0,none⟩),.int .i64 13] w (PartR b s o (D+1) D DP sb B v ns w (innT (parT r) 13 (l.drop o))):=by
 have HP:=Lib.hid hP
 have HN:=Lib.hid hN
 have HD:=Lib.hid hD
 obtain ⟨g,hg⟩:∃ g,w.heap.size=g:=⟨_,rfl⟩
 have hB0:=Blk.new w #[.string noB,.string noB] 130
 rw [hg] at hB0
 have hN0:Nx w (w.alloc (Obj.cells #[.string noB,.string noB] 130)):=nx0 _ _
 have HB0:=Lib.hid hB0
 have HN0:=Lib.hid hN0
 obtain ⟨p,hp⟩:∃ p,Hid (parT r (l.drop (o+1))=p):=⟨_,rfl⟩
 obtain ⟨q,hq⟩:∃ q,Hid (parT r (l.drop (o+1+p.2.2+1))=q):=⟨_,rfl⟩
 obtain ⟨R,hR⟩:∃ R,Hid (innT (parT r) 13 (l.drop o)=R):=⟨_,rfl⟩
 rw [hR.out]
 have hgb:g≠b:=by have:=hP.bB;have:=hP.bz;omega
 have HGB:=Lib.hid hgb
 have hgI:w.heap.size≤g:=by omega
 clear hP hN hD hB0 hN0 hgb
 go_enter Tryz.func127,Tryz.ntmps127
 go_wp2_with fail
 go_loopw [6] (fun i wr=>∃ (j o' DP':Nat) (v':Value) (ns':List ByteArray) (A C:ByteArray),i = .int .i64 (j:Int)∧Pre wr b s l o' (D+1) DP' sb B v' ns'∧Blk wr g g #[.string A,.string C] 130∧Fr b v w v' wr∧Hid (StM p q l o DP (D+1) ns j o' DP' ns' A C)) (fun i _=>6 - (intOf i).toNat)
 case atStart=>exact ⟨0,o,DP,v,ns,noB,noB,rfl,HP.out.nx HN0.out,HB0.out,Fr.nx HN0.out _ _,.inl ⟨rfl,rfl,rfl,rfl,rfl,rfl⟩⟩
 case round =>
  obtain ⟨j,o',DP',v',ns',A,C,rfl,hP1,hB1,hF1,HS⟩:=hrel
  have c5:wr.cell? ⟨b,5,none⟩=some (.map (some sb)):=hP1.cur.cell 5
  have HP1:=Lib.hid hP1
  have HB1:=Lib.hid hB1
  have HF1:=Lib.hid hF1
  clear hP1 hB1 hF1
  rcases HS.out with h | h | h | h
  ·obtain ⟨rfl,rfl,rfl,rfl,rfl,rfl⟩:=h
   have hl:=look_m HP1.out.sg 0 (by decide) 0 rfl _ sign_m0 60 rfl true rfl
   rw [show ((0:Nat):Int)=0 from rfl]
   by_cases h60:(l.drop o').head? = some 60
   ·have HT:=Lib.hid (decide_eq_true h60)
    have H60:=Lib.hid h60
    clear h60
    go_wp2_with fail
    refine (take_lit 60 60 rfl b s l o' _ _ _ sb wr HP1.out.cur HP1.out.tx HP1.out.ho HP1.out.hs true HT.out).mono ?_;rintro e w1 ⟨rfl,hC1,hO1⟩
    obtain ⟨O1,hO1e⟩:∃ O1,o'+1=O1:=⟨_,rfl⟩
    have hlen:=(head_take l 60 o' H60.out).2
    simp only [if_true,hO1e] at hC1
    have hP2:=HP1.out.oth hO1 hC1 (by omega) (by omega) HP1.out.le HP1.out.dp
    have hB2:=hO1.blk HB1.out HGB.out
    have c1:w1.cell? ⟨b,1,none⟩=some (.int .i64 (O1:Int)):=hC1.cell 1
    have hF2:=HF1.out.trans (Fr.oth hO1 _)
    have HB2:=Lib.hid hB2
    have HF2:=Lib.hid hF2
    have HP2:=Lib.hid hP2
    have HO1:=Lib.hid hO1e
    have HP3:Hid (parT r (l.drop O1)=p):=by unfold Hid;rw [← hO1e];exact hp.out
    have hz2:g<w1.heap.size:=hB2.lt
    clear hB2 hF2 hC1 hO1 hP2 hO1e c5 hl
    go_wp2_with fail
    refine (HN.out w1 b s l O1 (D+1) DP' sb B v' ns' HP2.out HD.out).mono ?_;rintro e w2 ⟨K,N,A2,C2,rfl,hh,o2,dp2,v2,hC2,hF2,hA2⟩
    rw [HP3.out] at hh hA2 ⊢
    obtain ⟨pe,pt,pn⟩:=p
    dsimp only at hh hA2 ⊢
    have hF3:=HF2.out.trans hF2
    have hB3:=hF2.blk HB2.out HGB.out (HP2.out.own.ne HB2.out (by decide))
    have c0:w2.cell? ⟨g,0,none⟩=some (.string noB):=hB3.cell 0
    have c1:w2.cell? ⟨g,1,none⟩=some (.string noB):=hB3.cell 1
    have f0:w2.frozen? ⟨g,0,none⟩=false:=hB3.free 0
    have f1:w2.frozen? ⟨g,1,none⟩=false:=hB3.free 1
    have HB3:=Lib.hid hB3
    have HF3:=Lib.hid hF3
    have HC2:=Lib.hid hC2
    have HA2:=Lib.hid hA2
    have HH:=Lib.hid hh
    clear hB3 hF3 hC2 hF2 hA2 hh
    by_cases hpe:pe=0
    ·subst hpe
     obtain ⟨rfl,rfl,hOwn⟩:=HA2.out rfl
     have hpl:=parT_names r (l.drop O1)
     rw [HP3.out] at hpl
     have hpl:=hpl rfl
     dsimp only at hpl
     obtain ⟨O2,hO2⟩:∃ O2,O1+pn=O2:=⟨_,rfl⟩
     have hO1':=HO1.out
     have hO2l:O2≤l.length:=by have:=hpl.2;simp at this;omega
     have hC3:=HC2.out
     rw [hO2] at hC3
     obtain ⟨u,hu,HU⟩:=HP1.out.tx.mid O1 O2
     have t0:w2.cell? ⟨b,0,none⟩=some (.string s):=hC3.cell 0
     have t1:w2.cell? ⟨b,1,none⟩=some (.int .i64 (O2:Int)):=hC3.cell 1
     have h12:(O1:Int)≤(O2:Int):=by omega
     have hO2s:(O2:Int)≤(s.size:Int):=by rw [HP1.out.tx.size];omega
     have HC3:=Lib.hid hC3
     have HO2:=Lib.hid hO2
     have HPL:=Lib.hid hpl
     have HOwn:=Lib.hid hOwn
     clear hC3 hO2 hpl hOwn HA2 hO1'
     rw [show ((0:Nat):Int)=0 from rfl]
     go_wp2_with fail
     go_still_tail 12,(by kernel_rfl)
     change wpList _ _ _ _ _ w2.drew
     have HC4:Hid (CurK w2.drew b s (O2:Int) ((D+1:Nat):Int) ((max DP' (D+1+depthT pt):Nat):Int) v2 sb):=HC3.out
     have HB4:Hid (Blk w2.drew g g #[.string noB,.string noB] 130):=HB3.out
     have HF4:Hid (Fr b v w v2 w2.drew):=HF3.out.trans (Fr.nx ((Nx.refl w2).dr 1) _ _)
     have HOwn4:Hid (OwnN w2.drew B v2 (ns'++nmB pt)):=HOwn.out
     clear HC3 HB3 HF3 HOwn c0 c1 f0 f1 t0 t1
     generalize w2.drew=w3 at *
     have f0:w3.frozen? ⟨g,0,none⟩=false:=HB4.out.free 0
     have c0:w3.cell? ⟨g,0,none⟩=some (.string noB):=HB4.out.cell 0
     have hsd:=parT_sound r (l.drop O1)
     rw [HP3.out] at hsd
     have hsd:=hsd rfl
     dsimp only at hsd
     have HSD:=Lib.hid hsd
     clear hsd
     go_wp2_with fail
     have h1:=HO1.out
     have h2:=HO2.out
     have h3:=HPL.out
     have h4:=HSD.out
     have h5:=HP.out.nsl
     have h6:=HP1.out.le
     have h7:=HP1.out.dp
     have h8:=HD.out
     refine ⟨⟨1,O2,max DP' (D+1+depthT pt),v2,ns'++nmB pt,u,noB,rfl,?_,HB4.out.put 0 _,HF4.out.put hgI 0 _,.inr (.inl ⟨rfl,H60.out,rfl,by dsimp only;omega,rfl,rfl,?_,rfl⟩)⟩,by simp [intOf]⟩
     ·refine HP.out.step HF4.out HC4.out HOwn4.out HB4.out hgI HGB.out _ _ hO2l ?_ (by omega) (by omega)
      rw [List.length_append,nmB_len];omega
     ·dsimp only
      rw [← h4.2.2.2,List.take_drop,h2]
      exact HU.out
    ·have hb:((pe:Int) != 0)=true:=by rw [bne_iff_ne];omega
     have HR:Hid (R=noTy pe):=by
      unfold Hid;rw [← hR.out];unfold innT
      rw [if_neg (by rw [H60.out];simp),List.drop_drop,hp.out]
      dsimp only
      rw [if_pos hpe]
     have HPE:=Lib.hid hpe
     clear hpe
     go_wp2_with fail
     refine bodyPost_ret (results_cell_tmp_rowK rfl _ _ g _ _ _ _ rfl HB3.out.put2.2 Tryz.underlying130 rfl (by kernel_rfl)) rfl ?_
     rw [HR.out]
     exact ⟨_,_,rfl,fun h=>absurd h HPE.out,Aft.err (HC2.out.other2 HGB.out) (HF3.out.put2 hgI) HPE.out⟩
   ·have HR:Hid (R=noTy 2):=by unfold Hid;rw [← hR.out];unfold innT;rw [if_pos h60]
    have HT:=Lib.hid (decide_eq_false h60)
    clear h60
    go_wp2_with fail
    refine (take_lit 60 60 rfl b s l o' _ _ _ sb wr HP1.out.cur HP1.out.tx HP1.out.ho HP1.out.hs false HT.out).mono ?_;rintro e w1 ⟨rfl,hC1,hO1⟩
    have hB2:=hO1.blk HB1.out HGB.out
    have c0:w1.cell? ⟨g,0,none⟩=some (.string noB):=hB2.cell 0
    have c1:w1.cell? ⟨g,1,none⟩=some (.string noB):=hB2.cell 1
    have f0:w1.frozen? ⟨g,0,none⟩=false:=hB2.free 0
    have f1:w1.frozen? ⟨g,1,none⟩=false:=hB2.free 1
    have hF2:=HF1.out.trans (Fr.oth hO1 _)
    have HB2:=Lib.hid hB2
    have HF2:=Lib.hid hF2
    have HC1:=Lib.hid hC1
    clear hB2 hF2 hC1 hO1
    go_wp2_with fail
    refine bodyPost_ret (results_cell_tmp_rowK rfl _ _ g _ _ _ _ rfl HB2.out.put2.2 Tryz.underlying130 rfl (by kernel_rfl)) rfl ?_
    rw [HR.out]
    exact ⟨_,_,rfl,fun h=>absurd h (by decide),Aft.err (HC1.out.other2 HGB.out) (HF2.out.put2 hgI) (by decide)⟩
  ·obtain ⟨rfl,h60,hp0,hoe,hDP,rfl,hA,rfl⟩:=h
   have H60:=Lib.hid h60
   have HP0:=Lib.hid hp0
   have HOE:=Lib.hid hoe
   have HDP:=Lib.hid hDP
   have HA:=Lib.hid hA
   clear h60 hp0 hoe hDP hA
   have hl:=look_m HP1.out.sg 1 (by decide) 1 rfl _ sign_m1 44 rfl true rfl
   rw [show ((1:Nat):Int)=1 from rfl]
   by_cases h44:(l.drop o').head? = some 44
   ·have HT:=Lib.hid (decide_eq_true h44)
    have H44:=Lib.hid h44
    clear h44
    go_wp2_with fail
    refine (take_lit 44 44 rfl b s l o' _ _ _ sb wr HP1.out.cur HP1.out.tx HP1.out.ho HP1.out.hs true HT.out).mono ?_;rintro e w1 ⟨rfl,hC1,hO1⟩
    obtain ⟨O1,hO1e⟩:∃ O1,o'+1=O1:=⟨_,rfl⟩
    have hlen:=(head_take l 44 o' H44.out).2
    simp only [if_true,hO1e] at hC1
    have hP2:=HP1.out.oth hO1 hC1 (by omega) (by omega) HP1.out.le HP1.out.dp
    have hB2:=hO1.blk HB1.out HGB.out
    have c1:w1.cell? ⟨b,1,none⟩=some (.int .i64 (O1:Int)):=hC1.cell 1
    have hF2:=HF1.out.trans (Fr.oth hO1 _)
    have HB2:=Lib.hid hB2
    have HF2:=Lib.hid hF2
    have HP2:=Lib.hid hP2
    have HO1:=Lib.hid hO1e
    have HP3:Hid (parT r (l.drop O1)=q):=by unfold Hid;rw [← hO1e,HOE.out];exact hq.out
    have hz2:g<w1.heap.size:=hB2.lt
    clear hB2 hF2 hC1 hO1 hP2 hO1e c5 hl
    go_wp2_with fail
    refine (HN.out w1 b s l O1 (D+1) DP' sb B v' _ HP2.out HD.out).mono ?_;rintro e w2 ⟨K,N,A2,C2,rfl,hh,o2,dp2,v2,hC2,hF2,hA2⟩
    rw [HP3.out] at hh hA2 ⊢
    obtain ⟨pe,pt,pn⟩:=q
    dsimp only at hh hA2 ⊢
    have hF3:=HF2.out.trans hF2
    have hB3:=hF2.blk HB2.out HGB.out (HP2.out.own.ne HB2.out (by decide))
    have c0:w2.cell? ⟨g,0,none⟩=some (.string A):=hB3.cell 0
    have c1:w2.cell? ⟨g,1,none⟩=some (.string noB):=hB3.cell 1
    have f0:w2.frozen? ⟨g,0,none⟩=false:=hB3.free 0
    have f1:w2.frozen? ⟨g,1,none⟩=false:=hB3.free 1
    have HB3:=Lib.hid hB3
    have HF3:=Lib.hid hF3
    have HC2:=Lib.hid hC2
    have HA2:=Lib.hid hA2
    have HH:=Lib.hid hh
    clear hB3 hF3 hC2 hF2 hA2 hh
    by_cases hpe:pe=0
    ·subst hpe
     obtain ⟨rfl,rfl,hOwn⟩:=HA2.out rfl
     have hpl:=parT_names r (l.drop O1)
     rw [HP3.out] at hpl
     have hpl:=hpl rfl
     dsimp only at hpl
     obtain ⟨O2,hO2⟩:∃ O2,O1+pn=O2:=⟨_,rfl⟩
     have hO1':=HO1.out
     have hO2l:O2≤l.length:=by have:=hpl.2;simp at this;omega
     have hC3:=HC2.out
     rw [hO2] at hC3
     obtain ⟨u,hu,HU⟩:=HP1.out.tx.mid O1 O2
     have t0:w2.cell? ⟨b,0,none⟩=some (.string s):=hC3.cell 0
     have t1:w2.cell? ⟨b,1,none⟩=some (.int .i64 (O2:Int)):=hC3.cell 1
     have h12:(O1:Int)≤(O2:Int):=by omega
     have hO2s:(O2:Int)≤(s.size:Int):=by rw [HP1.out.tx.size];omega
     have HC3:=Lib.hid hC3
     have HO2:=Lib.hid hO2
     have HPL:=Lib.hid hpl
     have HOwn:=Lib.hid hOwn
     clear hC3 hO2 hpl hOwn HA2 hO1'
     rw [show ((0:Nat):Int)=0 from rfl]
     go_wp2_with fail
     go_still_tail 12,(by kernel_rfl)
     change wpList _ _ _ _ _ w2.drew
     have HC4:Hid (CurK w2.drew b s (O2:Int) ((D+1:Nat):Int) ((max DP' (D+1+depthT pt):Nat):Int) v2 sb):=HC3.out
     have HB4:Hid (Blk w2.drew g g #[.string A,.string noB] 130):=HB3.out
     have HF4:Hid (Fr b v w v2 w2.drew):=HF3.out.trans (Fr.nx ((Nx.refl w2).dr 1) _ _)
     have HOwn4:Hid (OwnN w2.drew B v2 (ns++nmB p.2.1++nmB pt)):=HOwn.out
     clear HC3 HB3 HF3 HOwn c0 c1 f0 f1 t0 t1
     generalize w2.drew=w3 at *
     have f0:w3.frozen? ⟨g,1,none⟩=false:=HB4.out.free 1
     have c0:w3.cell? ⟨g,1,none⟩=some (.string noB):=HB4.out.cell 1
     have hsd:=parT_sound r (l.drop O1)
     rw [HP3.out] at hsd
     have hsd:=hsd rfl
     dsimp only at hsd
     have HSD:=Lib.hid hsd
     clear hsd
     go_wp2_with fail
     have h1:=HO1.out
     have h2:=HO2.out
     have h3:=HPL.out
     have h4:=HSD.out
     have h5:=HP.out.nsl
     have h6:=HP1.out.le
     have h7:=HP1.out.dp
     have h8:=HD.out
     refine ⟨⟨2,O2,max DP' (D+1+depthT pt),v2,_++nmB pt,A,u,rfl,?_,HB4.out.put 1 _,HF4.out.put hgI 1 _,.inr (.inr (.inl ⟨rfl,H60.out,HP0.out,by rw [← HOE.out];exact H44.out,rfl,by have:=HOE.out;dsimp only;omega,by rw [HDP.out],rfl,HA.out,?_⟩))⟩,by simp [intOf]⟩
     ·refine HP.out.step HF4.out HC4.out HOwn4.out HB4.out hgI HGB.out _ _ hO2l ?_ (by omega) (by omega)
      have:=HP1.out.nsl
      rw [List.length_append,nmB_len];omega
     ·dsimp only
      rw [← h4.2.2.2,List.take_drop,h2]
      exact HU.out
    ·have hb:((pe:Int) != 0)=true:=by rw [bne_iff_ne];omega
     have HR:Hid (R=noTy pe):=by
      unfold Hid;rw [← hR.out];unfold innT
      rw [if_neg (by rw [H60.out];simp),List.drop_drop,hp.out,if_neg (by rw [HP0.out];simp),if_pos (rfl:(13:Nat)=13),List.drop_drop,if_neg (by rw [← Nat.add_assoc,← HOE.out,H44.out];simp),List.drop_drop,show o+(1+p.2.2+1)=o+1+p.2.2+1 by omega,hq.out]
      dsimp only
      rw [if_pos hpe]
     have HPE:=Lib.hid hpe
     clear hpe
     go_wp2_with fail
     refine bodyPost_ret (results_cell_tmp_rowK rfl _ _ g _ _ _ _ rfl HB3.out.put2.2 Tryz.underlying130 rfl (by kernel_rfl)) rfl ?_
     rw [HR.out]
     exact ⟨_,_,rfl,fun h=>absurd h HPE.out,Aft.err (HC2.out.other2 HGB.out) (HF3.out.put2 hgI) HPE.out⟩
   ·have HR:Hid (R=noTy 2):=by
     unfold Hid;rw [← hR.out];unfold innT
     rw [if_neg (by rw [H60.out];simp),List.drop_drop,hp.out,if_neg (by rw [HP0.out];simp),if_pos (rfl:(13:Nat)=13),List.drop_drop,if_pos (by rw [← Nat.add_assoc,← HOE.out];exact h44)]
    have HT:=Lib.hid (decide_eq_false h44)
    clear h44
    go_wp2_with fail
    refine (take_lit 44 44 rfl b s l o' _ _ _ sb wr HP1.out.cur HP1.out.tx HP1.out.ho HP1.out.hs false HT.out).mono ?_;rintro e w1 ⟨rfl,hC1,hO1⟩
    have hB2:=hO1.blk HB1.out HGB.out
    have c0:w1.cell? ⟨g,0,none⟩=some (.string A):=hB2.cell 0
    have c1:w1.cell? ⟨g,1,none⟩=some (.string noB):=hB2.cell 1
    have f0:w1.frozen? ⟨g,0,none⟩=false:=hB2.free 0
    have f1:w1.frozen? ⟨g,1,none⟩=false:=hB2.free 1
    have hF2:=HF1.out.trans (Fr.oth hO1 _)
    have HB2:=Lib.hid hB2
    have HF2:=Lib.hid hF2
    have HC1:=Lib.hid hC1
    clear hB2 hF2 hC1 hO1
    go_wp2_with fail
    refine bodyPost_ret (results_cell_tmp_rowK rfl _ _ g _ _ _ _ rfl HB2.out.put2.2 Tryz.underlying130 rfl (by kernel_rfl)) rfl ?_
    rw [HR.out]
    exact ⟨_,_,rfl,fun h=>absurd h (by decide),Aft.err (HC1.out.other2 HGB.out) (HF2.out.put2 hgI) (by decide)⟩
  ·obtain ⟨rfl,h60,hp0,h44,hq0,hoe,hDP,rfl,hA,hC⟩:=h
   have H60:=Lib.hid h60
   have HP0:=Lib.hid hp0
   have H44:=Lib.hid h44
   have HQ0:=Lib.hid hq0
   have HOE:=Lib.hid hoe
   have HDP:=Lib.hid hDP
   have HA:=Lib.hid hA
   have HC:=Lib.hid hC
   have hl:=look_m HP1.out.sg 2 (by decide) 2 rfl _ sign_m2 62 rfl true rfl
   clear h60 hp0 h44 hq0 hoe hDP hA hC
   rw [show ((2:Nat):Int)=2 from rfl]
   by_cases h62:(l.drop o').head? = some 62
   ·have HT:=Lib.hid (decide_eq_true h62)
    have H62:=Lib.hid h62
    clear h62
    go_wp2_with fail
    refine (take_lit 62 62 rfl b s l o' _ _ _ sb wr HP1.out.cur HP1.out.tx HP1.out.ho HP1.out.hs true HT.out).mono ?_;rintro e w1 ⟨rfl,hC1,hO1⟩
    have hlen:=(head_take l 62 o' H62.out).2
    simp only [if_true] at hC1
    have hP2:=HP1.out.oth hO1 hC1 (by omega) (by omega) HP1.out.le HP1.out.dp
    have HP2:=Lib.hid hP2
    have HB2:=Lib.hid (hO1.blk HB1.out HGB.out)
    have HF2:=Lib.hid (HF1.out.trans (Fr.oth hO1 _))
    clear hP2 hC1 hO1 c5 hl
    go_wp2_with fail
    exact ⟨⟨3,o'+1,DP',v',_,A,C,rfl,HP2.out,HB2.out,HF2.out,.inr (.inr (.inr ⟨rfl,H60.out,HP0.out,H44.out,HQ0.out,by rw [← HOE.out];exact H62.out,by rw [HOE.out],HDP.out,rfl,HA.out,HC.out⟩))⟩,by simp [intOf]⟩
   ·have HR:Hid (R=noTy 2):=by
     unfold Hid;rw [← hR.out];unfold innT
     rw [if_neg (by rw [H60.out];simp),List.drop_drop,hp.out,if_neg (by rw [HP0.out];simp),if_pos (rfl:(13:Nat)=13),List.drop_drop,if_neg (by rw [← Nat.add_assoc,H44.out];simp),List.drop_drop,show o+(1+p.2.2+1)=o+1+p.2.2+1 by omega,hq.out,if_neg (by rw [HQ0.out];simp),List.drop_drop,if_pos (by rw [show o+(1+p.2.2+1+q.2.2)=o+1+p.2.2+1+q.2.2 by omega,← HOE.out];exact h62)]
    have HT:=Lib.hid (decide_eq_false h62)
    clear h62
    go_wp2_with fail
    refine (take_lit 62 62 rfl b s l o' _ _ _ sb wr HP1.out.cur HP1.out.tx HP1.out.ho HP1.out.hs false HT.out).mono ?_;rintro e w1 ⟨rfl,hC1,hO1⟩
    have hB2:=hO1.blk HB1.out HGB.out
    have c0:w1.cell? ⟨g,0,none⟩=some (.string A):=hB2.cell 0
    have c1:w1.cell? ⟨g,1,none⟩=some (.string C):=hB2.cell 1
    have f0:w1.frozen? ⟨g,0,none⟩=false:=hB2.free 0
    have f1:w1.frozen? ⟨g,1,none⟩=false:=hB2.free 1
    have hF2:=HF1.out.trans (Fr.oth hO1 _)
    have HB2:=Lib.hid hB2
    have HF2:=Lib.hid hF2
    have HC1:=Lib.hid hC1
    clear hB2 hF2 hC1 hO1
    go_wp2_with fail
    refine bodyPost_ret (results_cell_tmp_rowK rfl _ _ g _ _ _ _ rfl HB2.out.put2.2 Tryz.underlying130 rfl (by kernel_rfl)) rfl ?_
    rw [HR.out]
    exact ⟨_,_,rfl,fun h=>absurd h (by decide),Aft.err (HC1.out.other2 HGB.out) (HF2.out.put2 hgI) (by decide)⟩
  ·obtain ⟨rfl,h60,hp0,h44,hq0,h62,hoe,hDP,rfl,hA,hC⟩:=h
   have hl:=look_m HP1.out.sg 3 (by decide) 3 rfl _ sign_m3 0 rfl false rfl
   have HR:Hid (R=(0,.mp p.2.1 q.2.1,1+p.2.2+1+q.2.2+1)):=by
    unfold Hid;rw [← hR.out];unfold innT
    rw [if_neg (by rw [h60];simp),List.drop_drop,hp.out,if_neg (by rw [hp0];simp),if_pos (rfl:(13:Nat)=13),List.drop_drop,if_neg (by rw [← Nat.add_assoc,h44];simp),List.drop_drop,show o+(1+p.2.2+1)=o+1+p.2.2+1 by omega,hq.out,if_neg (by rw [hq0];simp),List.drop_drop,if_neg (by rw [show o+(1+p.2.2+1+q.2.2)=o+1+p.2.2+1+q.2.2 by omega,h62];simp)]
   have HOE:=Lib.hid hoe
   have HDP:=Lib.hid hDP
   have HA:=Lib.hid hA
   have HC:=Lib.hid hC
   have c0:wr.cell? ⟨g,0,none⟩=some (.string A):=HB1.out.cell 0
   have c1:wr.cell? ⟨g,1,none⟩=some (.string C):=HB1.out.cell 1
   have f0:wr.frozen? ⟨g,0,none⟩=false:=HB1.out.free 0
   have f1:wr.frozen? ⟨g,1,none⟩=false:=HB1.out.free 1
   clear h60 hp0 h44 hq0 h62 hoe hDP hA hC
   rw [show ((3:Nat):Int)=3 from rfl]
   go_wp2_with fail
   refine bodyPost_ret (results_cell_tmp_rowK rfl _ _ g _ _ _ _ rfl HB1.out.put2.2 Tryz.underlying130 rfl (by kernel_rfl)) rfl ?_
   rw [HR.out]
   refine ⟨_,_,rfl,fun _=>⟨HA.out,HC.out⟩,_,_,v',HP1.out.cur.other2 HGB.out,HF1.out.put2 hgI,fun _=>⟨?_,?_,?_⟩⟩
   ·rw [HOE.out];dsimp only;congr 1;omega
   ·rw [HDP.out];dsimp only [depthT];congr 1;omega
   ·have he:ns++nmB (.mp p.2.1 q.2.1)=ns++nmB p.2.1++nmB q.2.1:=by simp [nmB,namesT]
    dsimp only
    rw [he]
    refine HP1.out.own.keep fun k e=>?_
    have hne:=HP1.out.own.ne HB1.out (by decide)
    simp only [World.setCell]
    rw [Array.getElem?_modify,if_neg (fun e'=>hne (by rw [e'];exact e)),Array.getElem?_modify,if_neg (fun e'=>hne (by rw [e'];exact e))]
end Go.Proofs.YtpfecpcgdfbekaaGreatDoor
