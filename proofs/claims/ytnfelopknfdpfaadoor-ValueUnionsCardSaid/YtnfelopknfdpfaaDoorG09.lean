/- The contracts of within and next. The contract of next (what is plain of it). The contract of next. The contract of read (what is plain of it). The contract of read. The contract of kind.Head (what is plain of it). The contract of kind.Head. value's newShape: a simple type's, a struct's, an enum's. -/
import Derived.Test.YtnfelopknfdpfaaDoorG08
import Derived.StillTailTactics
import Derived.Test.YtnfelopknfdpfaaDoorG02
set_option linter.unusedVariables false
set_option linter.unusedSimpArgs false
set_option linter.unnecessarySimpa false
namespace Go.Proofs.YtnfelopknfdpfaaDoor
open Go.RowKit
theorem between_any (r:Nat) (hN:NextC r) (w:World) (b:Nat) (s:ByteArray) (l:List UInt8) (o D DP sb B:Nat) (v:Value) (ns:List ByteArray) (k:Nat) (hk:k=13∨k=14∨k=15) (hP:Pre w b s l o (D+1) DP sb B v ns) (hD:D+1+r=12) :
  Calls Tryd.prog 55 #[.pointer (some ⟨b,0,none⟩),.int .i64 (k:Int)] w (PartR b s o (D+1) D DP sb B v ns w (innT (parT r) k (l.drop o))):=by
 rcases hk with rfl | hk
 ·exact between13_any r hN w b s l o D DP sb B v ns hP hD
 ·exact between1_any r hN w b s l o D DP sb B v ns k hk hP hD
theorem CurK.cells {w:World} {b:Nat} {s:ByteArray} {o d dp:Int} {v:Value} {sb:Nat} (h:CurK w b s o d dp v sb) :
  w.cell? ⟨b,0,none⟩=some (.string s)∧w.cell? ⟨b,1,none⟩=some (.int .i64 o)∧w.cell? ⟨b,2,none⟩=some (.int .i64 d)∧w.cell? ⟨b,3,none⟩=some (.int .i64 dp)∧w.cell? ⟨b,4,none⟩=some v∧w.cell? ⟨b,5,none⟩=some (.map (some sb)) ∧
  (∀ i,w.frozen? ⟨b,i,none⟩=false):=⟨h.cell 0,h.cell 1,h.cell 2,h.cell 3,h.cell 4,h.cell 5,h.free⟩
set_option maxRecDepth 100000 in
set_option maxHeartbeats 6400000 in
theorem within_any (r:Nat) (hN:∀ r',r=r'+1→NextC r') (w:World) (b:Nat) (s:ByteArray) (l:List UInt8) (o D DP sb B:Nat) (v:Value) (ns:List ByteArray) (k:Nat) (hk:k<17) (hP:Pre w b s l o D DP sb B v ns) (hD:D+r=12) :
  Calls Tryd.prog 50 #[.pointer (some ⟨b,0,none⟩),.int .i64 (k:Int)] w (PartR b s o D D DP sb B v ns w (witT r k (l.drop o))):=by
 have HP:=Lib.hid hP
 have HN:=Lib.hid hN
 have HD:=Lib.hid hD
 have HK:=Lib.hid hk
 obtain ⟨g,hg⟩:∃ g,w.heap.size=g:=⟨_,rfl⟩
 have hB0:=Blk.new w #[.string ⟨#[]⟩,.string ⟨#[]⟩] 74
 rw [hg] at hB0
 have hN0:Nx w (w.alloc (Obj.cells #[.string ⟨#[]⟩,.string ⟨#[]⟩] 74)):=nx0 _ _
 have hgb:g≠b:=by have:=hP.bB;have:=hP.bz;omega
 have HGB:=Lib.hid hgb
 have hgI:w.heap.size≤g:=by omega
 have hP1:=hP.nx hN0
 have c5:(w.alloc (Obj.cells #[.string ⟨#[]⟩,.string ⟨#[]⟩] 74)).cell? ⟨b,5,none⟩=some (.map (some sb)):=hP1.cur.cell 5
 have c2:(w.alloc (Obj.cells #[.string ⟨#[]⟩,.string ⟨#[]⟩] 74)).cell? ⟨b,2,none⟩=some (.int .i64 (D:Int)):=hP1.cur.cell 2
 have HB0:=Lib.hid hB0
 have HN0:=Lib.hid hN0
 have HP1:=Lib.hid hP1
 by_cases hc:k≠13∧k≠14∧k≠15
 ·have hl:=look_at HP1.out.sg k 0 HK.out (by decide) 0 rfl _ (sign_other hc) 0 rfl false rfl
  have HW:Hid (witT r k (l.drop o)=(0,.bs k,0)):=by unfold Hid witT;rw [if_pos hc]
  rw [HW.out]
  clear hP hN hD hB0 hN0 hgb hP1 hk hc
  go_enter Tryd.func50,Tryd.ntmps50
  go_wp2_with fail
  refine bodyPost_ret (results_cell_tmp_rowK rfl _ _ g _ _ _ _ rfl HB0.out.2 Tryd.underlying74 rfl (by kernel_rfl)) rfl ?_
  have hle:=HP1.out.le
  refine ⟨_,_,rfl,fun _=>⟨rfl,rfl⟩,_,_,v,HP1.out.cur,Fr.nx HN0.out _ _,fun _=>⟨rfl,?_,?_⟩⟩
  ·dsimp only [depthT];congr 1;omega
  ·rw [show nmB (.bs k)=[] from rfl,List.append_nil];exact HP1.out.own
 ·have hk3:k=13∨k=14∨k=15:=by omega
  have HK3:=Lib.hid hk3
  have hl:=look_at HP1.out.sg k 0 HK.out (by decide) 0 rfl _ (sign_some hk3) 60 rfl true rfl
  cases r with
  | zero =>
   have hD12:D=12:=by omega
   subst hD12
   have HW:Hid (witT 0 k (l.drop o)=noTy 6):=by unfold Hid witT;rw [if_neg hc]
   rw [HW.out]
   clear hP hN hD hB0 hN0 hgb hP1 hk hc hk3
   go_enter Tryd.func50,Tryd.ntmps50
   go_wp2_with fail
   refine bodyPost_ret (results_cell_tmp_rowK rfl _ _ g _ _ _ _ rfl HB0.out.2 Tryd.underlying74 rfl (by kernel_rfl)) rfl ?_
   exact ⟨_,_,rfl,fun h=>absurd h (by decide),Aft.err HP1.out.cur (Fr.nx HN0.out _ _) (by decide)⟩
  | succ r =>
   have hD12:((D:Int) == 12)=false:=by rw [beq_eq_false_iff_ne];omega
   have hD8:(D:Int)<12:=by omega
   have HW:Hid (witT (r+1) k (l.drop o)=innT (parT r) k (l.drop o)):=by unfold Hid witT;rw [if_neg hc]
   rw [HW.out]
   have f2:(w.alloc (Obj.cells #[.string ⟨#[]⟩,.string ⟨#[]⟩] 74)).frozen? ⟨b,2,none⟩=false:=hP1.cur.free 2
   clear hP hN hD hB0 hN0 hgb hP1 hk hc hk3
   go_enter Tryd.func50,Tryd.ntmps50
   go_wp2_with fail
   generalize hW:World.setCell _ _ _=w1
   obtain ⟨D1,hD1⟩:∃ D1,D+1=D1:=⟨_,rfl⟩
   have eD:(D:Int)+1=(D1:Int):=by omega
   have hC1:CurK w1 b s (o:Int) (D1:Int) (DP:Int) v sb:=by rw [← hW,eD];exact HP1.out.cur.put2 _
   have hB1:Blk w1 g g #[.string ⟨#[]⟩,.string ⟨#[]⟩] 74:=by rw [← hW];exact HB0.out.other (Ne.symm HGB.out) _ _
   have hO1:Oth b w w1:=by rw [← hW];exact (Oth.nx HN0.out).trans (Oth.set _ _ _ _)
   have HC1:=Lib.hid hC1
   have HB1:=Lib.hid hB1
   have HO1:=Lib.hid hO1
   have HD1:=Lib.hid hD1
   obtain ⟨c0,c1,c2,c3,c4,c5',f⟩:=hC1.cells
   have f3:=f 3
   clear hW hB1 hO1 hC1 f c4 c0 c1 f2 hl c5 eD
   obtain ⟨M,hMe⟩:∃ M,max DP D1=M:=⟨_,rfl⟩
   have hM:(if (DP:Int)<(D1:Int) then (D1:Int) else (DP:Int))=(M:Int):=by split <;> omega
   have HMe:=Lib.hid hMe
   clear hMe hD1
   go_still_tail 12,(by kernel_rfl)
   change wpList _ _ _ _ _ w1.drew
   have HC2:Hid (CurK w1.drew b s (o:Int) (D1:Int) (DP:Int) v sb):=HC1.out
   have HB2:Hid (Blk w1.drew g g #[.string ⟨#[]⟩,.string ⟨#[]⟩] 74):=HB1.out
   have HO2:Hid (Oth b w w1.drew):=HO1.out.trans (Oth.nx ((Nx.refl w1).dr 1))
   clear HC1 HB1 HO1 c2 c3 f3 c5'
   generalize w1.drew=w2 at *
   have c3:w2.cell? ⟨b,3,none⟩=some (.int .i64 (DP:Int)):=HC2.out.cell 3
   have f3:w2.frozen? ⟨b,3,none⟩=false:=HC2.out.free 3
   go_wp2_with fail
   generalize hW2:World.setCell _ _ _=w3
   have eM:max (DP:Int) (D1:Int)=(M:Int):=by have:=HMe.out;omega
   have hC3:CurK w3 b s (o:Int) ((D+1:Nat):Int) (M:Int) v sb:=by rw [← hW2,eM,HD1.out];exact HC2.out.put3 _
   have hB3:Blk w3 g g #[.string ⟨#[]⟩,.string ⟨#[]⟩] 74:=by rw [← hW2];exact HB2.out.other (Ne.symm HGB.out) _ _
   have hO3:Oth b w w3:=by rw [← hW2];exact HO2.out.trans (Oth.set _ _ _ _)
   have hP3:=HP.out.oth hO3 hC3 (Nat.le_refl _) HP.out.ho (by have:=HMe.out;have:=HD1.out;omega) (by have:=HMe.out;have:=HD1.out;have:=HP.out.dp;omega)
   have HP3:=Lib.hid hP3
   have HB3:=Lib.hid hB3
   have HO3:=Lib.hid hO3
   clear hW2 eM hC3 hB3 hO3 hP3 c3 f3
   refine (between_any r (HN.out r rfl) w3 b s l o D M sb B v ns k HK3.out HP3.out (by have:=HD.out;omega)).mono ?_;rintro e w4 ⟨A,C,rfl,hh,o4,dp4,v4,hC4,hF4,hA4⟩
   obtain ⟨R,hR⟩:∃ R,Hid (innT (parT r) k (l.drop o)=R):=⟨_,rfl⟩
   have hdep:=innT_depth (parT r) k (l.drop o)
   rw [hR.out] at hh hA4 hdep ⊢
   have hB4:=hF4.blk HB3.out HGB.out (HP3.out.own.ne HB3.out (by decide))
   have hF5:=(Fr.oth HO3.out v).trans hF4
   rw [HD1.out] at hC4
   have HC4:=Lib.hid hC4
   have HB4:=Lib.hid hB4
   have HF5:=Lib.hid hF5
   have HA4:=Lib.hid hA4
   have HH:=Lib.hid hh
   have HDEP:=Lib.hid hdep
   have c2:w4.cell? ⟨b,2,none⟩=some (.int .i64 (D1:Int)):=hC4.cell 2
   have f2:w4.frozen? ⟨b,2,none⟩=false:=hC4.free 2
   have c0:w4.cell? ⟨g,0,none⟩=some (.string ⟨#[]⟩):=hB4.cell 0
   have c1:w4.cell? ⟨g,1,none⟩=some (.string ⟨#[]⟩):=hB4.cell 1
   have f0:w4.frozen? ⟨g,0,none⟩=false:=hB4.free 0
   have f1:w4.frozen? ⟨g,1,none⟩=false:=hB4.free 1
   have hgb:=HGB.out
   have eD2:(D1:Int) - 1=(D:Int):=by have:=HD1.out;omega
   clear hC4 hB4 hF4 hF5 hA4 hh hdep
   go_wp2_with fail
   have hB6:=(HB4.out.put2 (v0:=.string A) (v1:=.string C)).other (Ne.symm hgb) 2 (.int .i64 (D:Int))
   refine bodyPost_ret (results_cell_tmp_rowK rfl _ _ g _ _ _ _ rfl hB6.put2.2 Tryd.underlying74 rfl (by kernel_rfl)) rfl ?_
   rw [hR.out]
   refine ⟨A,C,rfl,HH.out,o4,dp4,v4,((HC4.out.other2 hgb).put2 _).other2 hgb,((HF5.out.put2 hgI).trans (Fr.set _ b 2 _ v4)).put2 hgI,fun h0=>?_⟩
   obtain ⟨h1,h2,h3⟩:=HA4.out h0
   refine ⟨h1,?_,?_⟩
   ·rw [h2]
    have:=HDEP.out h0
    have:=HMe.out
    have:=HD1.out
    congr 1
    omega
   ·have hg4:v4.ownBlock≠some g:=h3.ne HB4.out (by decide)
    have hb4:v4.ownBlock≠some b:=fun e=>by have:=(h3.own b e).1;have:=HP.out.bB;omega
    exact ((((h3.set hg4 0 _).set hg4 1 _).set hb4 2 _).set hg4 0 _).set hg4 1 _
end Go.Proofs.YtnfelopknfdpfaaDoor
namespace Go.Proofs.YtnfelopknfdpfaaDoor
open Go.RowKit
theorem Blk.put4 {w:World} {B g:Nat} {T:TypeId} {a0 a1 a2 a3 v0 v1 v2 v3:Value} (h:Blk w B g #[a0,a1,a2,a3] T) :
  Blk ((((w.setCell ⟨g,0,none⟩ v0).setCell ⟨g,1,none⟩ v1).setCell ⟨g,2,none⟩ v2).setCell ⟨g,3,none⟩ v3) B g #[v0,v1,v2,v3] T:=(((h.put 0 v0).put 1 v1).put 2 v2).put 3 v3
theorem Fr.put4 {b g:Nat} {v v' v0 v1 v2 v3:Value} {w w':World} (h:Fr b v w v' w') (hg:w.heap.size≤g):Fr b v w v' ((((w'.setCell ⟨g,0,none⟩ v0).setCell ⟨g,1,none⟩ v1).setCell ⟨g,2,none⟩ v2).setCell ⟨g,3,none⟩ v3):=(((h.put hg 0 v0).put hg 1 v1).put hg 2 v2).put hg 3 v3
theorem OwnN.set4 {w:World} {B c:Nat} {v v0 v1 v2 v3:Value} {xs:List ByteArray} (h:OwnN w B v xs) (hc:v.ownBlock≠some c) :
  OwnN ((((w.setCell ⟨c,0,none⟩ v0).setCell ⟨c,1,none⟩ v1).setCell ⟨c,2,none⟩ v2).setCell ⟨c,3,none⟩ v3) B v xs:=(((h.set hc 0 v0).set hc 1 v1).set hc 2 v2).set hc 3 v3
theorem cells4 {w:World} {B g:Nat} {T:TypeId} {a0 a1 a2 a3:Value} (h:Blk w B g #[a0,a1,a2,a3] T) :
  w.cell? ⟨g,0,none⟩=some a0∧w.cell? ⟨g,1,none⟩=some a1∧w.cell? ⟨g,2,none⟩=some a2∧w.cell? ⟨g,3,none⟩=some a3∧w.frozen? ⟨g,0,none⟩=false∧w.frozen? ⟨g,1,none⟩=false∧w.frozen? ⟨g,2,none⟩=false∧w.frozen? ⟨g,3,none⟩=false :=
 ⟨h.cell 0,h.cell 1,h.cell 2,h.cell 3,h.free 0,h.free 1,h.free 2,h.free 3⟩
theorem addT_err (n:Nat) (p:Nat×Ty×Nat):(addT n p).1=p.1:=by
 unfold addT
 split
 ·rfl
 ·rename_i h;simp at h;exact h.symm
theorem addT_ok (n:Nat) (p:Nat×Ty×Nat) (h:p.1=0):addT n p=(0,p.2.1,n+p.2.2):=by
 unfold addT
 rw [if_neg (by simpa using h)]
theorem innT_head (par:List UInt8→Nat×Ty×Nat) (k:Nat) (l:List UInt8) (h:(innT par k l).1=0):(headT (innT par k l).2.1).1=k∧(headT (innT par k l).2.1).2.1=[]:=by
 unfold innT at h ⊢
 split at h
 ·cases h
 ·rename_i h1
  rw [if_neg h1]
  split at h
  ·rename_i h2;exact absurd h h2
  ·rename_i h2
   rw [if_neg h2]
   split at h
   ·rename_i h3
    rw [if_pos h3]
    split at h
    ·cases h
    ·rename_i h4
     rw [if_neg h4]
     split at h
     ·rename_i h5;exact absurd h h5
     ·rename_i h5
      rw [if_neg h5]
      split at h
      ·cases h
      ·rename_i h6
       rw [if_neg h6]
       exact ⟨h3.symm,rfl⟩
   ·rename_i h3
    rw [if_neg h3]
    split at h
    ·cases h
    ·rename_i h4
     rw [if_neg h4]
     exact ⟨rfl,rfl⟩
theorem witT_head (r k:Nat) (l:List UInt8) (h:(witT r k l).1=0):(headT (witT r k l).2.1).1=k∧(headT (witT r k l).2.1).2.1=[]:=by
 unfold witT at h ⊢
 split at h
 ·rename_i h1
  rw [if_pos h1]
  exact ⟨rfl,rfl⟩
 ·rename_i h1
  rw [if_neg h1]
  cases r with
  | zero=>cases h
  | succ r=>exact innT_head _ _ _ h
theorem OwnN.nx {w w':World} {B:Nat} {v:Value} {xs:List ByteArray} (h:OwnN w B v xs) (hn:Nx w w'):OwnN w' B v xs:=OwnS.nx h hn
end Go.Proofs.YtnfelopknfdpfaaDoor
namespace Go.Proofs.YtnfelopknfdpfaaDoor
open Go.RowKit
theorem CurK.other4 {w:World} {b g:Nat} {s:ByteArray} {o d dp:Int} {v v0 v1 v2 v3:Value} {sb:Nat} (h:CurK w b s o d dp v sb) (hg:g≠b):CurK ((((w.setCell ⟨g,0,none⟩ v0).setCell ⟨g,1,none⟩ v1).setCell ⟨g,2,none⟩ v2).setCell ⟨g,3,none⟩ v3) b s o d dp v sb :=
 (((Blk.other h hg 0 v0).other hg 1 v1).other hg 2 v2).other hg 3 v3
theorem Pre.stepH {w w3:World} {b g:Nat} {s:ByteArray} {l:List UInt8} {o D1 DP sb B o2 DP2:Nat} {v v2:Value} {ns ns2:List ByteArray} {cs:Array Value} (h:Pre w b s l o D1 DP sb B v ns) (hF:Fr b v w v2 w3) (hc:CurK w3 b s (o2:Int) (D1:Int) (DP2:Int) v2 sb)
  (hO:OwnN w3 B v2 ns2) (hB:Blk w3 g g cs 96) (hg:w.heap.size≤g) (hgb:g≠b) (u:Value) (i:Nat) (ho:o2≤l.length) (hn:ns2.length≤o2) (hle:D1≤DP2) (hdp:DP2≤12) :
  Pre (w3.setCell ⟨g,i,none⟩ u) b s l o2 D1 DP2 sb B v2 ns2 :=
 h.fr (hF.put hg i u) (Blk.other hc hgb i u) ho (hO.set (hO.ne hB (by decide)) i u) hn hle hdp
set_option maxRecDepth 100000 in
set_option maxHeartbeats 6400000 in
theorem next_step (r:Nat) (hN:∀ r',r=r'+1→NextC r'):NextC r:=by
 intro w b s l o D DP sb B v ns hP hD
 have HP:=Lib.hid hP
 have HN:=Lib.hid hN
 have HD:=Lib.hid hD
 obtain ⟨g,hg⟩:∃ g,w.heap.size=g:=⟨_,rfl⟩
 have hB0:=Blk.new w #[.int .i64 0,.string ⟨#[]⟩,.string ⟨#[]⟩,.string ⟨#[]⟩] 96
 rw [hg] at hB0
 have hN0:Nx w (w.alloc (Obj.cells #[.int .i64 0,.string ⟨#[]⟩,.string ⟨#[]⟩,.string ⟨#[]⟩] 96)):=nx0 _ _
 have hgb:g≠b:=by have:=hP.bB;have:=hP.bz;omega
 have HGB:=Lib.hid hgb
 have hgI:w.heap.size≤g:=by omega
 have hP1:=hP.nx hN0
 have HB0:=Lib.hid hB0
 have HN0:=Lib.hid hN0
 have HP1:=Lib.hid hP1
 obtain ⟨l1,hl1⟩:∃ l1,Hid (l.drop o=l1):=⟨_,rfl⟩
 have hpw:=parT_word r l1
 rw [hl1.out]
 obtain ⟨N,hNn⟩:∃ N,Hid (spanN isNmS l1=N):=⟨_,rfl⟩
 have hNl:o+N≤l.length:=by have:=spanN_le isNmS l1;rw [hNn.out,← hl1.out] at this;have:=hP.ho;simp at *;omega
 rw [hNn.out] at hpw
 obtain ⟨W,hW⟩:∃ W,Hid (l1.take N=W):=⟨_,rfl⟩
 rw [hW.out] at hpw
 have hWl:W.length=N:=by rw [← hW.out,← hNn.out];exact wl l1
 have HWL:=Lib.hid hWl
 obtain ⟨R,hR⟩:∃ R,Hid (parT r l1=R):=⟨_,rfl⟩
 rw [hR.out] at hpw ⊢
 have HPW:=Lib.hid hpw
 clear hP hN hD hB0 hN0 hgb hP1 hpw hWl
 go_enter Tryd.func42,Tryd.ntmps42
 go_wp2_with fail
 generalize hW0:World.alloc _ _=w0
 rw [hW0] at HB0 HN0 HP1
 clear hW0
 have hwd:=word_any b s l o D DP v sb w0 HP1.out.cur HP1.out.tx HP1.out.ho HP1.out.hs
 rw [hl1.out,hNn.out,hW.out] at hwd
 refine hwd.mono ?_;rintro e w1 ⟨u,rfl,HU,hC1,hO1⟩
 clear hwd
 obtain ⟨O1,hO1e⟩:∃ O1,o+N=O1:=⟨_,rfl⟩
 rw [hO1e] at hC1 hNl
 have HO1e:=Lib.hid hO1e
 have hP2:=HP1.out.oth hO1 hC1 (by omega) hNl HP1.out.le HP1.out.dp
 have hB2:=hO1.blk HB0.out HGB.out
 have HP2:=Lib.hid hP2
 have HB2:=Lib.hid hB2
 have HO2:Hid (Oth b w w1):=(Oth.nx HN0.out).trans hO1
 clear hC1 hO1 hP2 hO1e
 obtain ⟨c0,c1,c2,c3,f0,f1,f2,f3⟩:=cells4 hB2
 clear hB2
 obtain ⟨k,hk⟩:∃ k,Hid (kindW W=k):=⟨_,rfl⟩
 have hk17:k<17:=by
  rcases kindW_is W with h | ⟨h,-⟩
  ·rw [hk.out] at h;omega
  ·rw [hk.out] at h;unfold isKw at h;omega
 rw [hk.out] at HPW
 have HK17:=Lib.hid hk17
 have hkI:(k:Int)<17:=by omega
 go_wp2_with fail
 have hko:=kindOf_any u W w1 HU.out HP2.out.tab
 rw [hk.out] at hko
 refine hko.mono ?_;rintro e w' ⟨rfl,rfl⟩
 clear hko
 by_cases hk0:k=0
 ·subst hk0
  rw [show ((0:Nat):Int)=0 from rfl]
  go_wp2_with fail
  have HB3:Hid (Blk (World.setCell w' ⟨g,0,none⟩ (.int .i64 0)) g g #[.int .i64 0,.string ⟨#[]⟩,.string ⟨#[]⟩,.string ⟨#[]⟩] 96):=HB2.out.put 0 _
  have HF3:Hid (Fr b v w v (World.setCell w' ⟨g,0,none⟩ (.int .i64 0))):=(Fr.oth HO2.out v).put hgI 0 _
  have HP3:Hid (Pre (World.setCell w' ⟨g,0,none⟩ (.int .i64 0)) b s l O1 D DP sb B v ns):=HP.out.stepH (Fr.oth HO2.out v) HP2.out.cur HP2.out.own HB2.out hgI HGB.out _ _ HP2.out.ho HP2.out.nsl HP2.out.le HP2.out.dp
  clear c0 c1 c2 c3 f0 f1 f2 f3
  generalize World.setCell w' ⟨g,0,none⟩ (.int .i64 0)=w3 at *
  have hWs:(W.length:Int)≤100000:=by have:=HWL.out;have:=HP.out.hs;have:=HO1e.out;omega
  refine (isName_any u W w3 HU.out hWs HP3.out.tab HP3.out.maxc).mono ?_;rintro e w4 ⟨rfl,n4,hw4⟩
  have HN4:Hid (Nx w3 w4):=by unfold Hid;rw [hw4];exact Nx.drewN _ _
  clear hw4
  have HB4:=Lib.hid (HB3.out.below HN4.out)
  have HF4:=Lib.hid (HF3.out.trans (Fr.nx HN4.out _ _))
  have HP4:=Lib.hid (HP3.out.nx HN4.out)
  obtain ⟨c0,c1,c2,c3,f0,f1,f2,f3⟩:=cells4 HB4.out
  have c4:w4.cell? ⟨b,4,none⟩=some v:=HP4.out.cur.cell 4
  have fb4:w4.frozen? ⟨b,4,none⟩=false:=HP4.out.cur.free 4
  have HPW:Hid (R=nameT W):=by unfold Hid;rw [HPW.out];exact if_pos trivial
  obtain ⟨NB,hNB⟩:∃ NB,Hid (nameOk W=NB):=⟨_,rfl⟩
  rw [hNB.out]
  cases NB
  ·have HR:Hid (R=noTy 2):=by unfold Hid;rw [HPW.out];unfold nameT;rw [hNB.out];rfl
   go_wp2_with fail
   refine bodyPost_ret (results_cell_tmp_rowK rfl _ _ g _ _ _ _ rfl HB4.out.put4.2 Tryd.underlying96 rfl (by kernel_rfl)) rfl ?_
   rw [HR.out]
   exact ⟨_,_,_,_,rfl,fun h=>absurd h (by decide),Aft.err (HP4.out.cur.other4 HGB.out) (HF4.out.put4 hgI) (by decide)⟩
  ·have HR:Hid (R=(0,.nm W,N)):=by unfold Hid;rw [HPW.out];unfold nameT;rw [hNB.out,HWL.out];rfl
   have hgb:=HGB.out
   have hnsl:(ns.length:Int)≤100000:=by have:=HP4.out.nsl;have:=HP4.out.hs;omega
   have HNE:=Lib.hid (HP4.out.own.ne HB4.out (by decide))
   have HOW:Hid (OwnN ((w4.setCell ⟨g,1,none⟩ (.string u)).alloc (.cells #[.string u] 9)) B v ns):=(HP4.out.own.set HNE.out 1 _).nx (nx0 _ _)
   have HCL:Hid (((w4.setCell ⟨g,1,none⟩ (.string u)).alloc (.cells #[.string u] 9)).cell? ⟨w4.heap.size,0,none⟩=some (.string u)):=by
    have:=(Blk.new (w4.setCell ⟨g,1,none⟩ (.string u)) #[.string u] 9).cell 0
    have e:(w4.setCell ⟨g,1,none⟩ (.string u)).heap.size=w4.heap.size:=by simp [World.setCell]
    rw [e] at this
    exact this
   have HBZ:Hid (B≤((w4.setCell ⟨g,1,none⟩ (.string u)).alloc (.cells #[.string u] 9)).heap.size):=by
    have:=HP4.out.bz
    have e:=(nx0 (w4.setCell ⟨g,1,none⟩ (.string u)) (.cells #[.string u] 9)).size
    have e2:(w4.setCell ⟨g,1,none⟩ (.string u)).heap.size=w4.heap.size:=by simp [World.setCell]
    unfold Hid
    omega
   have HCW:Hid (CurK ((w4.setCell ⟨g,1,none⟩ (.string u)).alloc (.cells #[.string u] 9)) b s (O1:Int) (D:Int) (DP:Int) v sb):=Blk.alloc (Blk.other HP4.out.cur hgb _ _) _
   have HBW:Hid (Blk ((w4.setCell ⟨g,1,none⟩ (.string u)).alloc (.cells #[.string u] 9)) g g #[.int .i64 0,.string u,.string ⟨#[]⟩,.string ⟨#[]⟩] 96):=(HB4.out.put 1 _).alloc _
   have HFW:Hid (Fr b v w v ((w4.setCell ⟨g,1,none⟩ (.string u)).alloc (.cells #[.string u] 9))):=(HF4.out.put hgI 1 _).trans (Fr.nx (nx0 _ _) _ _)
   have HVB:=Lib.hid (HP4.out.ne b HP4.out.bB)
   clear hgb
   go_wp2_with (refine wpList_appN _ (o:=⟨some 36,_,_,_,_,_⟩) rfl _ _ rfl B v ns u rfl HOW.out _ rfl HCL.out hnsl HBZ.out ?_;intro v5 w5 hown5 hfr5;have HOW5:=Lib.hid hown5;have HFR5:=Lib.hid hfr5;clear hfr5 c0 c1 c2 c3 c4 f0 f1 f2 f3 fb4;obtain ⟨A5,q5,rfl,_,_,_⟩:=OwnS.sl strC_size hown5;clear hown5;have HC5:Hid (CurK w5 b s (O1:Int) (D:Int) (DP:Int) v sb):=(HFR5.out g).blk HCW.out (Ne.symm HGB.out) HVB.out;have HB5:=Lib.hid ((HFR5.out b).blk HBW.out HGB.out HNE.out);have c4:w5.cell? ⟨b,4,none⟩=some v:=HC5.out.cell 4;have fb4:w5.frozen? ⟨b,4,none⟩=false:=HC5.out.free 4;obtain ⟨c0,c1,c2,c3,f0,f1,f2,f3⟩:=cells4 HB5.out;have hgb:=HGB.out)
   have e5:(ns++[u]).length=ns.length+1:=by simp
   rw [e5] at HOW5 HFR5
   have hgb5:=HGB.out
   have hC6:=HC5.out.put4 (Value.slice A5 (ns.length+1) q5)
   have hB6:=HB5.out.other (Ne.symm hgb5) 4 (Value.slice A5 (ns.length+1) q5)
   have hF6:=(HFW.out.trans (HFR5.out b)).trans (Fr.set w5 b 4 (Value.slice A5 (ns.length+1) q5) (Value.slice A5 (ns.length+1) q5))
   refine bodyPost_ret (results_cell_tmp_rowK rfl _ _ g _ _ _ _ rfl hB6.put4.2 Tryd.underlying96 rfl (by kernel_rfl)) rfl ?_
   rw [HR.out]
   refine ⟨_,_,_,_,rfl,fun _=>⟨rfl,HU.out,rfl,rfl⟩,_,_,_,hC6.other4 hgb5,hF6.put4 hgI,fun _=>⟨?_,?_,?_⟩⟩
   ·rw [HO1e.out]
   ·have:=HP.out.le;dsimp only [depthT];congr 1;omega
   ·have hu:nmB (.nm W)=[u]:=by
     show [(⟨W.toArray⟩:ByteArray)]=[u]
     rw [← HU.out.eq]
    dsimp only
    rw [hu]
    have h1:(Value.slice A5 (ns.length+1) q5).ownBlock≠some g:=HOW5.out.ne HB5.out (by decide)
    have h2:(Value.slice A5 (ns.length+1) q5).ownBlock≠some b:=fun e=>by have:=(HOW5.out.own b e).1;have:=HP.out.bB;omega
    exact (HOW5.out.set h2 4 _).set4 h1
 ·have hb:((k:Int) != 0)=true:=by rw [bne_iff_ne];omega
  have HR:Hid (R=addT N (witT r k (l.drop O1))):=by
   unfold Hid;rw [HPW.out,if_neg hk0,← hl1.out,List.drop_drop,HO1e.out]
  have HK0:=Lib.hid hk0
  clear hk0
  go_wp2_with fail
  have HB3:Hid (Blk (World.setCell w' ⟨g,0,none⟩ (.int .i64 (k:Int))) g g #[.int .i64 (k:Int),.string ⟨#[]⟩,.string ⟨#[]⟩,.string ⟨#[]⟩] 96):=HB2.out.put 0 _
  have HF3:Hid (Fr b v w v (World.setCell w' ⟨g,0,none⟩ (.int .i64 (k:Int)))):=(Fr.oth HO2.out v).put hgI 0 _
  have HP3:Hid (Pre (World.setCell w' ⟨g,0,none⟩ (.int .i64 (k:Int))) b s l O1 D DP sb B v ns):=HP.out.stepH (Fr.oth HO2.out v) HP2.out.cur HP2.out.own HB2.out hgI HGB.out _ _ HP2.out.ho HP2.out.nsl HP2.out.le HP2.out.dp
  clear c0 c1 c2 c3 f0 f1 f2 f3
  generalize World.setCell w' ⟨g,0,none⟩ (.int .i64 (k:Int))=w3 at *
  refine (within_any r HN.out w3 b s l O1 D DP sb B v ns k HK17.out HP3.out HD.out).mono ?_;rintro e w4 ⟨A,C,rfl,hh,o4,dp4,v4,hC4,hF4,hA4⟩
  obtain ⟨Q,hQ⟩:∃ Q,Hid (witT r k (l.drop O1)=Q):=⟨_,rfl⟩
  rw [hQ.out] at hh hA4 HR ⊢
  have HB4:=Lib.hid (hF4.blk HB3.out HGB.out (HP3.out.own.ne HB3.out (by decide)))
  have HF4:=Lib.hid (HF3.out.trans hF4)
  have HC4:=Lib.hid hC4
  have HA4:=Lib.hid hA4
  have HH:=Lib.hid hh
  obtain ⟨c0,c1,c2,c3,f0,f1,f2,f3⟩:=cells4 HB4.out
  clear hC4 hF4 hA4 hh
  go_wp2_with fail
  have hB6:=(HB4.out.put 2 (.string A)).put 3 (.string C)
  refine bodyPost_ret (results_cell_tmp_rowK rfl _ _ g _ _ _ _ rfl (Blk.put4 (a0:=.int .i64 (k:Int)) (a1:=.string ⟨#[]⟩) (a2:=.string A) (a3:=.string C) hB6).2 Tryd.underlying96 rfl (by kernel_rfl)) rfl ?_
  have hR1:R.1=Q.1:=by rw [HR.out];exact addT_err _ _
  have hwh:=witT_head r k (l.drop O1)
  rw [hQ.out] at hwh
  refine ⟨(k:Int),⟨#[]⟩,A,C,by rw [← hR1];rfl,fun h0=>?_,o4,dp4,v4,CurK.other4 (Blk.other (Blk.other HC4.out (Ne.symm (Ne.symm HGB.out)) _ _) HGB.out _ _) HGB.out,((HF4.out.put hgI 2 _).put hgI 3 _).put4 hgI,fun h0=>?_⟩
  ·have hq:Q.1=0:=by rw [← hR1];exact h0
   have hRq:R=(0,Q.2.1,N+Q.2.2):=by rw [HR.out];exact addT_ok _ _ hq
   rw [hRq]
   have h1:=hwh hq
   have h2:=HH.out hq
   exact ⟨by rw [h1.1],by rw [h1.2];rfl,h2.1,h2.2⟩
  ·have hq:Q.1=0:=by rw [← hR1];exact h0
   have hRq:R=(0,Q.2.1,N+Q.2.2):=by rw [HR.out];exact addT_ok _ _ hq
   rw [hRq]
   obtain ⟨h1,h2,h3⟩:=HA4.out hq
   refine ⟨?_,h2,?_⟩
   ·rw [h1];have:=HO1e.out;dsimp only;congr 1;omega
   ·have hg4:v4.ownBlock≠some g:=h3.ne HB4.out (by decide)
    exact ((h3.set hg4 2 _).set hg4 3 _).set4 hg4
theorem next_all:∀ r,NextC r:=by
 intro r
 induction r with
 | zero=>exact next_step 0 (fun r' h=>by omega)
 | succ r ih=>exact next_step (r+1) (fun r' h=>Nat.succ.inj h ▸ ih)
end Go.Proofs.YtnfelopknfdpfaaDoor
namespace Go.Proofs.YtnfelopknfdpfaaDoor
open Go.RowKit
theorem results_2cell_tmp_row {P:Program} {fn:Func} {p q u:Tmp} {ty ty2:TypeId} (h:fn.results=#[.cell p ty,.cell q ty2,.tmp u]) (tmps:Array Value) (w:World) (g g2:Nat) (t t2:TypeId) (cs cs2:Array Value) (fr fr2:Nat×Nat) (d d2:TypeDesc)
  (hp:tmps.getD p undef = .pointer (some ⟨g,0,none⟩)) (hg:w.heap[g]? = some (.cells cs t fr))
  (hu:P.underlying ty=some d) (hd:(match d with | .struct _ | .array _ _=>true | _=>false)=true) (hi:(P.info? ty).map (·.size)=some cs.size)
  (hp2:tmps.getD q undef = .pointer (some ⟨g2,0,none⟩)) (hg2:w.heap[g2]? = some (.cells cs2 t2 fr2))
  (hu2:P.underlying ty2=some d2) (hd2:(match d2 with | .struct _ | .array _ _=>true | _=>false)=true) (hi2:(P.info? ty2).map (·.size)=some cs2.size) :
  (results fn tmps).run P w = .ok (.tuple #[.agg cs,.agg cs2,tmps.getD u undef]) w:=by
 have hp':tmps[p]?.getD undef = .pointer (some ⟨g,0,none⟩):=by simpa using hp
 have hp2':tmps[q]?.getD undef = .pointer (some ⟨g2,0,none⟩):=by simpa using hp2
 simp [results,h,hp',hp2',asAddr,run_loadVar_row w g t ty cs fr d hg hu hd hi,run_loadVar_row w g2 t2 ty2 cs2 fr2 d2 hg2 hu2 hd2 hi2]
def headZ:Value:=.agg #[.int .i64 0,.string ⟨#[]⟩,.string ⟨#[]⟩,.string ⟨#[]⟩]
def curZ:Value:=.agg #[.string ⟨#[]⟩,.int .i64 0,.int .i64 0,.int .i64 0,.slice none 0 0,.map none]
def ReadR (w:World) (s:ByteArray) (l:List UInt8) (e:Ending) (w':World):Prop :=
 Nx w w'∧(((wholeT l).1≠0∧e = .returned (.tuple #[headZ,curZ,.int .i64 ((wholeT l).1:Nat)])) ∨
  ((wholeT l).1=0∧∃ (K:Int) (N A C:ByteArray) (o:Int) (v:Value) (sb:Nat),e = .returned (.tuple #[.agg #[.int .i64 K,.string N,.string A,.string C],.agg #[.string s,.int .i64 o,.int .i64 0,.int .i64 (depthT (wholeT l).2:Nat),v,.map (some sb)],.int .i64 0]) ∧
   HeadIs (wholeT l).2 K N A C∧OwnN w' w.heap.size v (nmB (wholeT l).2)))
theorem Blk.put6 {w:World} {B g:Nat} {T:TypeId} {a0 a1 a2 a3 a4 a5 v0 v1 v2 v3 v4 v5:Value} (h:Blk w B g #[a0,a1,a2,a3,a4,a5] T) :
  Blk ((((((w.setCell ⟨g,0,none⟩ v0).setCell ⟨g,1,none⟩ v1).setCell ⟨g,2,none⟩ v2).setCell ⟨g,3,none⟩ v3).setCell ⟨g,4,none⟩ v4).setCell ⟨g,5,none⟩ v5) B g #[v0,v1,v2,v3,v4,v5] T :=
 (((((h.put 0 v0).put 1 v1).put 2 v2).put 3 v3).put 4 v4).put 5 v5
theorem Blk.other4 {w:World} {B g k:Nat} {cs:Array Value} {T:TypeId} {v0 v1 v2 v3:Value} (h:Blk w B g cs T) (hk:k≠g):Blk ((((w.setCell ⟨k,0,none⟩ v0).setCell ⟨k,1,none⟩ v1).setCell ⟨k,2,none⟩ v2).setCell ⟨k,3,none⟩ v3) B g cs T :=
 (((h.other hk 0 v0).other hk 1 v1).other hk 2 v2).other hk 3 v3
theorem Blk.other6 {w:World} {B g k:Nat} {cs:Array Value} {T:TypeId} {v0 v1 v2 v3 v4 v5:Value} (h:Blk w B g cs T) (hk:k≠g):Blk ((((((w.setCell ⟨k,0,none⟩ v0).setCell ⟨k,1,none⟩ v1).setCell ⟨k,2,none⟩ v2).setCell ⟨k,3,none⟩ v3).setCell ⟨k,4,none⟩ v4).setCell ⟨k,5,none⟩ v5) B g cs T :=
 (((((h.other hk 0 v0).other hk 1 v1).other hk 2 v2).other hk 3 v3).other hk 4 v4).other hk 5 v5
theorem Nx.put4 {w w':World} {g:Nat} {v0 v1 v2 v3:Value} (h:Nx w w') (hg:w.heap.size≤g):Nx w ((((w'.setCell ⟨g,0,none⟩ v0).setCell ⟨g,1,none⟩ v1).setCell ⟨g,2,none⟩ v2).setCell ⟨g,3,none⟩ v3):=(((h.put' hg 0 v0).put' hg 1 v1).put' hg 2 v2).put' hg 3 v3
theorem Nx.put6 {w w':World} {g:Nat} {v0 v1 v2 v3 v4 v5:Value} (h:Nx w w') (hg:w.heap.size≤g):Nx w ((((((w'.setCell ⟨g,0,none⟩ v0).setCell ⟨g,1,none⟩ v1).setCell ⟨g,2,none⟩ v2).setCell ⟨g,3,none⟩ v3).setCell ⟨g,4,none⟩ v4).setCell ⟨g,5,none⟩ v5) :=
 (((((h.put' hg 0 v0).put' hg 1 v1).put' hg 2 v2).put' hg 3 v3).put' hg 4 v4).put' hg 5 v5
end Go.Proofs.YtnfelopknfdpfaaDoor
namespace Go.Proofs.YtnfelopknfdpfaaDoor
open Go.RowKit
set_option maxRecDepth 100000 in
set_option maxHeartbeats 6400000 in
theorem read_any (w:World) (s:ByteArray) (l:List UInt8) (hl:Tx s l) (hs:(l.length:Int)≤8000) (ht:TabK w) (hm:MaxC w) :
  Calls Tryd.prog 33 #[.string s] w (ReadR w s l):=by
 have HL:=Lib.hid hl
 have HT:=Lib.hid ht
 have HM:=Lib.hid hm
 obtain ⟨g,hg⟩:∃ g,w.heap.size=g:=⟨_,rfl⟩
 have HG:=Lib.hid hg
 have hB0:=Blk.new w #[.int .i64 0,.string ⟨#[]⟩,.string ⟨#[]⟩,.string ⟨#[]⟩] 96
 have hN0:Nx w (w.alloc (Obj.cells #[.int .i64 0,.string ⟨#[]⟩,.string ⟨#[]⟩,.string ⟨#[]⟩] 96)):=nx0 _ _
 have hC0:=Blk.new (w.alloc (Obj.cells #[.int .i64 0,.string ⟨#[]⟩,.string ⟨#[]⟩,.string ⟨#[]⟩] 96)) #[.string ⟨#[]⟩,.int .i64 0,.int .i64 0,.int .i64 0,.slice none 0 0,.map none] 99
 have hB1:=hB0.alloc (.cells #[.string ⟨#[]⟩,.int .i64 0,.int .i64 0,.int .i64 0,.slice none 0 0,.map none] 99)
 have hN1:=hN0.al (.cells #[.string ⟨#[]⟩,.int .i64 0,.int .i64 0,.int .i64 0,.slice none 0 0,.map none] 99)
 have hsz:((w.alloc (Obj.cells #[.int .i64 0,.string ⟨#[]⟩,.string ⟨#[]⟩,.string ⟨#[]⟩] 96)).alloc (.cells #[.string ⟨#[]⟩,.int .i64 0,.int .i64 0,.int .i64 0,.slice none 0 0,.map none] 99)).heap.size=g+2:=by simp [← hg]
 have e1:(w.alloc (Obj.cells #[.int .i64 0,.string ⟨#[]⟩,.string ⟨#[]⟩,.string ⟨#[]⟩] 96)).heap.size=g+1:=by simp [← hg]
 rw [e1] at hC0
 rw [hg] at hB1
 obtain ⟨b,hb⟩:∃ b,g+1=b:=⟨_,rfl⟩
 rw [hb] at hC0
 have HB1:=Lib.hid hB1
 have HC0:=Lib.hid hC0
 have HN1:=Lib.hid hN1
 have HSZ:=Lib.hid hsz
 have HB:=Lib.hid hb
 clear hl ht hm hB0 hN0 hC0 hB1 hN1 hsz e1
 go_enter Tryd.func33,Tryd.ntmps33
 go_wp2_with fail
 generalize hW:World.alloc (World.alloc _ _) _=w1
 rw [hW] at HB1 HC0 HN1 HSZ
 clear hW
 refine (signs_any w1).mono ?_;rintro e w2 ⟨rfl,hsg,hn2⟩
 obtain ⟨sb,hsbe⟩:∃ sb,w1.heap.size=sb:=⟨_,rfl⟩
 have HSZ2:Hid (sb=g+2):=by unfold Hid;rw [← hsbe];exact HSZ.out
 rw [hsbe] at hsg ⊢
 have HC2:=Lib.hid (HC0.out.below hn2)
 have HB2:=Lib.hid (HB1.out.below hn2)
 have HN2:=Lib.hid (HN1.out.trans hn2)
 have HSG:=Lib.hid hsg
 have HZ2:Hid (sb<w2.heap.size):=by
  obtain ⟨es,c,h,-⟩:=hsg
  exact (Array.getElem?_eq_some_iff.1 h).1
 have cc:=HC2.out.cell
 have d0:w2.cell? ⟨b,0,none⟩=some (.string ⟨#[]⟩):=cc 0
 have d1:w2.cell? ⟨b,1,none⟩=some (.int .i64 0):=cc 1
 have d2:w2.cell? ⟨b,2,none⟩=some (.int .i64 0):=cc 2
 have d3:w2.cell? ⟨b,3,none⟩=some (.int .i64 0):=cc 3
 have d4:w2.cell? ⟨b,4,none⟩=some (.slice none 0 0):=cc 4
 have d5:w2.cell? ⟨b,5,none⟩=some (.map none):=cc 5
 have x0:w2.frozen? ⟨b,0,none⟩=false:=HC2.out.free 0
 have x1:w2.frozen? ⟨b,1,none⟩=false:=HC2.out.free 1
 have x2:w2.frozen? ⟨b,2,none⟩=false:=HC2.out.free 2
 have x3:w2.frozen? ⟨b,3,none⟩=false:=HC2.out.free 3
 have x4:w2.frozen? ⟨b,4,none⟩=false:=HC2.out.free 4
 have x5:w2.frozen? ⟨b,5,none⟩=false:=HC2.out.free 5
 clear hsg hn2 hsbe cc hg hb
 go_wp2_with fail
 have HC3:=Lib.hid (HC2.out.put6 (v0:=.string s) (v1:=.int .i64 0) (v2:=.int .i64 0) (v3:=.int .i64 0) (v4:=.slice none 0 0) (v5:=.map (some sb)))
 have HO3:Hid (Oth b w2 ((((((w2.setCell ⟨b,0,none⟩ (.string s)).setCell ⟨b,1,none⟩ (.int .i64 0)).setCell ⟨b,2,none⟩ (.int .i64 0)).setCell ⟨b,3,none⟩ (.int .i64 0)).setCell ⟨b,4,none⟩ (.slice none 0 0)).setCell ⟨b,5,none⟩ (.map (some sb)))) :=
  ((((((Oth.refl b w2).own).own).own).own).own).own
 clear d0 d1 d2 d3 d4 d5 x0 x1 x2 x3 x4 x5
 generalize ((((((w2.setCell ⟨b,0,none⟩ (.string s)).setCell ⟨b,1,none⟩ (.int .i64 0)).setCell ⟨b,2,none⟩ (.int .i64 0)).setCell ⟨b,3,none⟩ (.int .i64 0)).setCell ⟨b,4,none⟩ (.slice none 0 0)).setCell ⟨b,5,none⟩ (.map (some sb)))=w3 at *
 have HGl:Hid (2 < g):=by
  obtain ⟨t,fr,h⟩:=HT.out
  have:=(Array.getElem?_eq_some_iff.1 h).1
  unfold Hid;rw [← HG.out];exact this
 have HGm:Hid (3 < g):=by
  obtain ⟨m,h⟩:=HM.out
  have:=World.block_lt_of_cell? w _ h
  unfold Hid;rw [← HG.out];exact this
 have hnone:∀ k:Nat,(Value.slice none 0 0).ownBlock≠some k:=fun k h=>by cases h
 have hF3:Fr b (.slice none 0 0) w2 (.slice none 0 0) w3:=Fr.oth HO3.out _
 have hT2:=HT.out.nx HN2.out
 have hM2:=HM.out.nx HN2.out
 have hP3:Pre w3 b s l 0 0 0 sb w2.heap.size (.slice none 0 0) []:=by
  have h1:=HB.out
  have h2:=HSZ2.out
  have h3:=HZ2.out
  have h4:=HGl.out
  have h5:=HGm.out
  exact { cur:=⟨Nat.zero_le _,HC3.out.2⟩,tx:=HL.out,ho:=Nat.zero_le _,hs:=hs,own:=OwnS.nil_ _ _,nsl:=Nat.le_refl _,sg:=hF3.sg HSG.out (by omega) (hnone _),sbB:=h3,sbb:=by omega,tab:=hF3.tab hT2 (by omega) (hnone _),maxc:=hF3.maxC hM2 (by omega) (hnone _),gb0:=by omega,gb1:=by omega,gB0:=by omega,gB1:=by omega,bB:=by omega,le:=Nat.le_refl _,dp:=by omega,bz:=HO3.out.size }
 have HB3:=Lib.hid (HO3.out.blk HB2.out (by have:=HB.out;omega))
 have hgb:g≠b:=by have:=HB.out;omega
 have HGB:=Lib.hid hgb
 have HF3:=Lib.hid hF3
 clear hnone hF3 hT2 hM2 hgb
 refine (next_all 12 w3 b s l 0 0 0 sb w2.heap.size (.slice none 0 0) [] hP3 rfl).mono ?_;rintro e w4 ⟨K,N,A,C,rfl,hh,o4,dp4,v4,hC4,hF4,hA4⟩
 have HP3:=Lib.hid hP3
 rw [List.drop_zero] at hh hA4 ⊢
 obtain ⟨P,hPe⟩:∃ P,Hid (parT 12 l=P):=⟨_,rfl⟩
 rw [hPe.out] at hh hA4 ⊢
 have hWT:wholeT l=if P.1≠0 then (P.1,.bs 0) else if P.2.2<l.length then (2,.bs 0) else (0,P.2.1):=by unfold wholeT;rw [hPe.out]
 have hnm:=parT_names 12 l
 rw [hPe.out] at hnm
 have HB4:=Lib.hid (hF4.blk HB3.out HGB.out (fun h=>by cases h))
 have HC4:=Lib.hid hC4
 have HF4:=Lib.hid hF4
 have HA4:=Lib.hid hA4
 have HH:=Lib.hid hh
 have HWT:=Lib.hid hWT
 have HNM:=Lib.hid hnm
 obtain ⟨c0,c1,c2,c3,f0,f1,f2,f3⟩:=cells4 HB4.out
 obtain ⟨d0,d1,d2,d3,d4,d5,x⟩:=hC4.cells
 have x0:=x 0
 have x1:=x 1
 have x2:=x 2
 have x3:=x 3
 have x4:=x 4
 have x5:=x 5
 have hgb:=HGB.out
 have hbg:=Ne.symm hgb
 clear hP3 hh hC4 hF4 hA4 hWT hnm x
 by_cases hp1:P.1=0
 ·obtain ⟨h1,h2,h3⟩:=HA4.out hp1
  subst h1 h2
  by_cases hlt:P.2.2<l.length
  ·have hb1:((P.1:Int) == 0)=true:=by rw [beq_iff_eq];omega
   have hb2:P.2.2<s.size:=by rw [HL.out.size];exact hlt
   have hb3:decide (P.2.2<s.size)=true:=decide_eq_true hb2
   have HR:Hid (wholeT l=(2,.bs 0)):=by unfold Hid;rw [HWT.out,if_neg (by simpa using hp1),if_pos hlt]
   have HP1:=Lib.hid hp1
   clear hp1 hlt h3
   go_wp2_with fail
   have hN4:Nx w w4:=HF4.out.to (HO3.out.to HN2.out (by have:=HB.out;have:=HG.out;omega)) (by have:=HB.out;have:=HG.out;omega) (fun k h=>by cases h)
   have hgw:w.heap.size≤g:=by rw [HG.out];exact Nat.le_refl _
   have hbw:w.heap.size≤b:=by have:=HB.out;omega
   have hCz:=Blk.put6 (v0:=.string ⟨#[]⟩) (v1:=.int .i64 0) (v2:=.int .i64 0) (v3:=.int .i64 0) (v4:=.slice none 0 0) (v5:=.map none) (Blk.other4 (v0:=.int .i64 0) (v1:=.string ⟨#[]⟩) (v2:=.string ⟨#[]⟩) (v3:=.string ⟨#[]⟩) (Blk.other4 (v0:=.int .i64 K) (v1:=.string N) (v2:=.string A) (v3:=.string C) HC4.out hgb) hgb)
   refine bodyPost_ret (results_2cell_tmp_row rfl _ _ g b _ _ _ _ _ _ _ _ rfl (Blk.other6 HB4.out.put4.put4 hbg).2 Tryd.underlying96 rfl (by kernel_rfl) rfl hCz.2 Tryd.underlying99 rfl (by kernel_rfl)) rfl ?_
   refine ⟨((hN4.put4 hgw).put4 hgw).put6 hbw,.inl ⟨by rw [HR.out];decide,?_⟩⟩
   rw [HR.out]
   rfl
  ·have hb1:((P.1:Int) == 0)=true:=by rw [beq_iff_eq];omega
   have hb2:((P.1:Int) != 0)=false:=by rw [bne_eq_false_iff_eq];omega
   have hb4:¬ P.2.2<s.size:=by rw [HL.out.size];exact hlt
   have hb3:decide (P.2.2<s.size)=false:=decide_eq_false hb4
   have HR:Hid (wholeT l=(0,P.2.1)):=by unfold Hid;rw [HWT.out,if_neg (by simpa using hp1),if_neg hlt]
   have HP1:=Lib.hid hp1
   have H3:=Lib.hid h3
   obtain ⟨A5,q5,hv5,-,-,-⟩:=OwnS.sl strC_size h3
   obtain ⟨n5,hn5⟩:∃ n5,([]++nmB P.2.1).length=n5:=⟨_,rfl⟩
   rw [hn5] at hv5
   subst hv5
   clear hp1 hlt h3 hn5
   go_wp2_with fail
   go_region
   all_goals go_wp2_with fail
   have hN4:Nx w w4:=HF4.out.to (HO3.out.to HN2.out (by have:=HB.out;have:=HG.out;omega)) (by have:=HB.out;have:=HG.out;omega) (fun k h=>by cases h)
   have hgw:w.heap.size≤g:=by rw [HG.out];exact Nat.le_refl _
   have hbw:w.heap.size≤b:=by have:=HB.out;omega
   have hCz:=Blk.put6 (v0:=.string s) (v1:=.int .i64 (P.2.2:Int)) (v2:=.int .i64 0) (v3:=.int .i64 (depthT P.2.1:Int)) (v4:=.slice A5 n5 q5) (v5:=.map (some sb)) (Blk.other4 (v0:=.int .i64 K) (v1:=.string N) (v2:=.string A) (v3:=.string C) (Blk.other4 (v0:=.int .i64 K) (v1:=.string N) (v2:=.string A) (v3:=.string C) HC4.out hgb) hgb)
   have hBz:=Blk.other6 (v0:=.string s) (v1:=.int .i64 (P.2.2:Int)) (v2:=.int .i64 0) (v3:=.int .i64 (depthT P.2.1:Int)) (v4:=.slice A5 n5 q5) (v5:=.map (some sb)) (Blk.put4 (v0:=.int .i64 K) (v1:=.string N) (v2:=.string A) (v3:=.string C) (Blk.put4 (v0:=.int .i64 K) (v1:=.string N) (v2:=.string A) (v3:=.string C) HB4.out)) hbg
   refine bodyPost_ret (results_2cell_tmp_row rfl _ _ g b _ _ _ _ _ _ _ _ rfl (hBz.drew 1).2 Tryd.underlying96 rfl (by kernel_rfl) rfl (hCz.drew 1).2 Tryd.underlying99 rfl (by kernel_rfl)) rfl ?_
   have hH:=HH.out HP1.out
   have hg5:(Value.slice A5 n5 q5).ownBlock≠some g:=H3.out.ne HB4.out (by decide)
   have hb5:(Value.slice A5 n5 q5).ownBlock≠some b:=fun e=>by have:=(H3.out.own b e).1;have:=HP3.out.bB;omega
   have ho:=((((((((OwnN.set4 (v0:=.int .i64 K) (v1:=.string N) (v2:=.string A) (v3:=.string C) (OwnN.set4 (v0:=.int .i64 K) (v1:=.string N) (v2:=.string A) (v3:=.string C) H3.out hg5) hg5).set hb5 0 (.string s)).set hb5 1 (.int .i64 (P.2.2:Int))).set hb5 2 (.int .i64 0)).set hb5 3 (.int .i64 (depthT P.2.1:Int))).set hb5 4 (.slice A5 n5 q5)).set hb5 5 (.map (some sb))).nx ((Nx.refl _).dr 1))
   refine ⟨(((hN4.put4 hgw).put4 hgw).put6 hbw).dr 1,.inr ⟨by rw [HR.out],K,N,A,C,(P.2.2:Int),.slice A5 n5 q5,sb,?_,?_,?_⟩⟩
   ·rw [HR.out];rfl
   ·rw [HR.out];exact hH
   ·rw [HR.out]
    exact OwnS.less ho (HN2.out.size)
 ·have hb1:((P.1:Int) == 0)=false:=by rw [beq_eq_false_iff_ne];omega
  have hb2:((P.1:Int) != 0)=true:=by rw [bne_iff_ne];omega
  have HR:Hid (wholeT l=(P.1,.bs 0)):=by unfold Hid;rw [HWT.out,if_pos hp1]
  have HP1:=Lib.hid hp1
  clear hp1
  go_wp2_with fail
  have hN4:Nx w w4:=HF4.out.to (HO3.out.to HN2.out (by have:=HB.out;have:=HG.out;omega)) (by have:=HB.out;have:=HG.out;omega) (fun k h=>by cases h)
  have hgw:w.heap.size≤g:=by rw [HG.out];exact Nat.le_refl _
  have hbw:w.heap.size≤b:=by have:=HB.out;omega
  have hCz:=Blk.put6 (v0:=.string ⟨#[]⟩) (v1:=.int .i64 0) (v2:=.int .i64 0) (v3:=.int .i64 0) (v4:=.slice none 0 0) (v5:=.map none) (Blk.other4 (v0:=.int .i64 0) (v1:=.string ⟨#[]⟩) (v2:=.string ⟨#[]⟩) (v3:=.string ⟨#[]⟩) (Blk.other4 (v0:=.int .i64 K) (v1:=.string N) (v2:=.string A) (v3:=.string C) HC4.out hgb) hgb)
  refine bodyPost_ret (results_2cell_tmp_row rfl _ _ g b _ _ _ _ _ _ _ _ rfl (Blk.other6 HB4.out.put4.put4 hbg).2 Tryd.underlying96 rfl (by kernel_rfl) rfl hCz.2 Tryd.underlying99 rfl (by kernel_rfl)) rfl ?_
  refine ⟨((hN4.put4 hgw).put4 hgw).put6 hbw,.inl ⟨by rw [HR.out];exact HP1.out,?_⟩⟩
  rw [HR.out]
  rfl
end Go.Proofs.YtnfelopknfdpfaaDoor
namespace Go.Proofs.YtnfelopknfdpfaaDoor
open Go.RowKit
def headW (l:List UInt8):Nat×List UInt8×List UInt8×List UInt8:=if (wholeT l).1≠0 then (0,[],[],[]) else headT (wholeT l).2
def bA (l:List UInt8):ByteArray:=⟨l.toArray⟩
theorem bA_tx {s:ByteArray} {l:List UInt8} (h:Tx s l):s=bA l:=h.eq
theorem ReadR.form {w w':World} {s:ByteArray} {l:List UInt8} {e:Ending} (h:ReadR w s l e w'):∃ (o D:Int) (T:ByteArray) (v:Value) (m:Option Nat),
  e = .returned (.tuple #[.agg #[.int .i64 ((headW l).1:Nat),.string (bA (headW l).2.1),.string (bA (headW l).2.2.1),.string (bA (headW l).2.2.2)],.agg #[.string T,.int .i64 o,.int .i64 0,.int .i64 D,v,.map m],.int .i64 ((wholeT l).1:Nat)]) ∧
  D=((if (wholeT l).1≠0 then 0 else depthT (wholeT l).2:Nat):Int)∧OwnN w' w.heap.size v (if (wholeT l).1≠0 then [] else nmB (wholeT l).2)∧Nx w w'∧∃ A n c,v = .slice A n c:=by
 obtain ⟨hn,⟨h1,rfl⟩ | ⟨h1,K,N,A,C,o,v,sb,rfl,hh,ho⟩⟩:=h
 ·refine ⟨0,0,⟨#[]⟩,.slice none 0 0,none,?_,by rw [if_pos h1];rfl,by rw [if_pos h1];exact OwnS.nil_ _ _,hn,_,_,_,rfl⟩
  unfold headW
  rw [if_pos h1]
  rfl
 ·obtain ⟨hK,hN,hA,hC⟩:=hh
  obtain ⟨A5,q5,hv5,-,-,-⟩:=OwnS.sl strC_size ho
  refine ⟨o,_,s,v,some sb,?_,rfl,by rw [if_neg (by simpa using h1)];exact ho,hn,_,_,_,hv5⟩
  unfold headW
  rw [if_neg (by simpa using h1),if_neg (by simpa using h1),h1,hK,bA_tx hN,bA_tx hA,bA_tx hC]
  rfl
end Go.Proofs.YtnfelopknfdpfaaDoor
namespace Go.Proofs.YtnfelopknfdpfaaDoor
open Go.RowKit
set_option maxRecDepth 100000 in
set_option maxHeartbeats 6400000 in
theorem head_any (w:World) (s:ByteArray) (l:List UInt8) (hl:Tx s l) (hs:(l.length:Int)≤8000) (ht:TabK w) (hm:MaxC w) :
  Calls Tryd.prog 21 #[.string s] w fun e w'=>e = .returned (.tuple #[.int .i64 ((headW l).1:Nat),.string (bA (headW l).2.1),.string (bA (headW l).2.2.1),.string (bA (headW l).2.2.2),.int .i64 ((wholeT l).1:Nat)])∧Nx w w':=by
 have HR:=Lib.hid (read_any w s l hl hs ht hm)
 obtain ⟨H,HH⟩:∃ H,Hid (headW l=H):=⟨_,rfl⟩
 obtain ⟨W,HW⟩:∃ W,Hid (wholeT l=W):=⟨_,rfl⟩
 rw [HH.out,HW.out]
 obtain ⟨hk,hN,hA,hC⟩:=H
 dsimp only
 obtain ⟨N,HN0⟩:∃ N,Hid (bA hN=N):=⟨_,rfl⟩
 obtain ⟨A1,HA0⟩:∃ N,Hid (bA hA=N):=⟨_,rfl⟩
 obtain ⟨C,HC0⟩:∃ N,Hid (bA hC=N):=⟨_,rfl⟩
 rw [HN0.out,HA0.out,HC0.out]
 clear hl ht hm
 go_enter Tryd.func21,Tryd.ntmps21
 go_wp2_with fail
 refine HR.out.mono ?_;rintro e w1 hr
 obtain ⟨o,D,T,v,m,he,hD,hown,hn,A,n,c,rfl⟩:=hr.form
 rw [HH.out,HW.out] at he
 dsimp only at he
 rw [HN0.out,HA0.out,HC0.out] at he
 subst he
 obtain ⟨g,hg⟩:∃ g,w1.heap.size=g:=⟨_,rfl⟩
 have HG:=Lib.hid hg
 clear hr hD hown
 have HN:=Lib.hid hn
 clear hn
 dsimp only
 go_wp2_with fail
 have hB1:=(Blk.new w1 #[.int .i64 (hk:Int),.string N,.string A1,.string C] 96).alloc (.cells #[.string T,.int .i64 o,.int .i64 0,.int .i64 D,.slice A n c,.map m] 99)
 have hN1:=((Nx.refl w1).al (.cells #[.int .i64 (hk:Int),.string N,.string A1,.string C] 96)).al (.cells #[.string T,.int .i64 o,.int .i64 0,.int .i64 D,.slice A n c,.map m] 99)
 rw [hg] at hB1
 generalize World.alloc (World.alloc _ _) _=w2 at *
 have HN2:Hid (Nx w w2):=HN.out.trans hN1
 have L0:∀ x:Gr w2,x.1.cell? ⟨g,0,none⟩=some (.int .i64 (hk:Int)):=fun x=>(hB1.below x.2).cell 0
 have L1:∀ x:Gr w2,x.1.cell? ⟨g,1,none⟩=some (.string N):=fun x=>(hB1.below x.2).cell 1
 have L2:∀ x:Gr w2,x.1.cell? ⟨g,2,none⟩=some (.string A1):=fun x=>(hB1.below x.2).cell 2
 have L3:∀ x:Gr w2,x.1.cell? ⟨g,3,none⟩=some (.string C):=fun x=>(hB1.below x.2).cell 3
 clear hN1 hB1
 refine wp_region_hyb [(0,true),(1,true),(2,true),(3,true),(5,true),(6,true),(7,true),(9,true),(10,true),(11,true),(13,true),(4,false),(8,false),(12,false),(14,true),(15,true),(16,true),(17,true),(18,true)] rfl (by kernel_rfl) ?_
 iterate 11 (refine hyb_calm rfl (fun K hK=>?_);go_simp;refine hK _ ?_;clear hK K)
 clear L0 L1 L2 L3
 refine hyb_alone rfl (fun w3 hn3 K hK=>?_)
 go_simp
 refine (fresh_any N _).mono ?_;rintro e w4 ⟨rfl,hw4⟩
 refine hK _ _ hw4 ?_
 clear hK K
 refine hyb_alone rfl (fun w5 hn5 K hK=>?_)
 go_simp
 refine (fresh_any A1 _).mono ?_;rintro e w6 ⟨rfl,hw6⟩
 refine hK _ _ hw6 ?_
 clear hK K
 refine hyb_alone rfl (fun w7 hn7 K hK=>?_)
 go_simp
 refine (fresh_any C _).mono ?_;rintro e w8 ⟨rfl,hw8⟩
 refine hK _ _ hw8 ?_
 clear hK K
 iterate 5 (refine hyb_calm rfl (fun K hK=>?_);go_simp;refine hK _ ?_;clear hK K)
 refine hyb_nil (fun w9 hn9=>?_)
 have hN9:Nx w w9:=HN2.out.trans (hn3.trans (hw4.trans (hn5.trans (hw6.trans (hn7.trans (hw8.trans hn9))))))
 go_wp2_with fail
 exact bodyPost_ret (v:=.tuple #[.int .i64 (hk:Int),.string N,.string A1,.string C,.int .i64 (W.1:Int)]) (by simp [results,Tryd.results21,go_sem]) rfl ⟨rfl,hN9⟩
end Go.Proofs.YtnfelopknfdpfaaDoor
namespace Go.Proofs.YtnfelopknfdpfaaDoor
open Go.RowKit
theorem head_base {t:List UInt8} {k:Nat} (h:baseT t=some k):headW t=(k,[],[],[])∧(wholeT t).1=0∧t.length≤6∧(k=2∨k=3∨k=4∨k=6∨k=8∨k=10):=by
 unfold baseT at h
 repeat' split at h
 all_goals first
  | (rename_i e;injection h with h;subst h;subst e;exact ⟨by decide +kernel,by decide +kernel,by decide,by decide⟩)
  | cases h
theorem head_aA:headW aA=(0,aA,[],[])∧(wholeT aA).1=0:=⟨by decide +kernel,by decide +kernel⟩
theorem head_aE:headW aE=(0,aE,[],[])∧(wholeT aE).1=0:=⟨by decide +kernel,by decide +kernel⟩
theorem tx_ (l:List UInt8):Tx ⟨l.toArray⟩ l:=rfl
set_option maxRecDepth 100000 in
set_option maxHeartbeats 6400000 in
theorem newShape_base (w:World) (s0 s1 s2:Value) (h0:IsSlv s0) (h1:IsSlv s1) (h2:IsSlv s2) (ht:TabK w) (hm:MaxC w) (t:List UInt8) (k:Nat) (hk:baseT t=some k) :
  Calls Tryd.prog 24 #[.agg #[s0,s1,s2],.string ⟨t.toArray⟩] w fun e w'=>∃ g,e = .returned (.pointer (some ⟨g,0,none⟩))∧Blk w' w.heap.size g (shB k) 77∧Nx w w':=by
 obtain ⟨A0,u0,c0,rfl⟩:=h0
 obtain ⟨A1,u1,c1,rfl⟩:=h1
 obtain ⟨A2,u2,c2,rfl⟩:=h2
 obtain ⟨e1,e2,e3,e4⟩:=head_base hk
 obtain ⟨g1,hg1⟩:∃ g,w.heap.size=g:=⟨_,rfl⟩
 obtain ⟨w1,hw1⟩:∃ x,w.alloc (.cells #[.slice A0 u0 c0,.slice A1 u1 c1,.slice A2 u2 c2] 32)=x:=⟨_,rfl⟩
 have hn1:Nx w w1:=by rw [← hw1];exact nx0 _ _
 have hh:=head_any w1 ⟨t.toArray⟩ t (tx_ t) (by omega) (ht.nx hn1) (hm.nx hn1)
 rw [e1,e2] at hh
 have HH:=Lib.hid hh
 have HN1:=Lib.hid hn1
 have q1:((k:Int) == 13)=false:=by simp;omega
 have q2:¬ (k:Int)=13:=by omega
 have q3:decide ((k:Int)=13)=false:=decide_eq_false q2
 have q4:((k:Int) != 0)=true:=by simp;omega
 have q5:¬ (k:Int)=0:=by omega
 have q6:((k:Int) == 0)=false:=by simp;omega
 clear hh e1 e2 e3 e4 hk ht hm hn1
 go_enter Tryd.func24,Tryd.ntmps24
 go_upto_region 1 with (fail)
 try rw [hw1]
 clear hw1 hg1
 go_wp2_with fail
 refine HH.out.mono ?_;rintro e w2 ⟨rfl,hn2⟩
 dsimp only [bA]
 have HN2:=Lib.hid (HN1.out.trans hn2)
 obtain ⟨g2,hg2⟩:∃ g,w2.heap.size=g:=⟨_,rfl⟩
 obtain ⟨w3,hw3⟩:∃ x,w2.alloc (.cells #[.int .i64 (k:Int),.string ⟨#[]⟩,.string ⟨#[]⟩,.pointer none,.map none] 77)=x:=⟨_,rfl⟩
 have hb3:Blk w3 g2 g2 (shB k) 77:=by rw [← hw3,← hg2];exact Blk.new w2 _ _
 have HB3:=Lib.hid (hb3.less (B':=w.heap.size) (by rw [← hg2];exact HN2.out.size))
 have hn3:Nx w2 w3:=by rw [← hw3];exact nx0 _ _
 have HN3:=Lib.hid (HN2.out.trans hn3)
 clear hn2 hb3 hn3
 go_wp2_with fail
 go_ret
 exact ⟨g2,rfl,HB3.out,HN3.out⟩
def ShS (w:World) (B g:Nat) (K:Int) (nm:List UInt8) (fl:Value) (fs:List FldS):Prop:=∃ gr,g≠gr∧Blk w B g #[.int .i64 12,.string ⟨#[]⟩,.string ⟨#[]⟩,.pointer (some ⟨gr,0,none⟩),.map none] 77∧RecS w B gr K nm fl fs
theorem nmN_one (x:List UInt8):nmN [x] x=some 0:=by unfold nmN;rw [if_pos rfl]
theorem nmN_nil (x:List UInt8):nmN [] x=none:=rfl
theorem SchS.g {w:World} {Sv:Value} {K:Int} {nm:List UInt8} {fs:List FldS} (h:SchS w Sv K nm fs):∃ s0 s1 s2 fl A c,Sv = .agg #[s0,s1,s2]∧s0 = .slice A 1 c∧RdR strA 3 w A [⟨K,nm,fl⟩]∧RdFs w fl fs∧IsSlv s0∧IsSlv s1∧IsSlv s2∧SchG w s0 s1 s2 [⟨K,nm,fl⟩] []:=by
 obtain ⟨A,c,Ae,ce,As,us,cs,fl,e,h1,h2,h3,h4,h5⟩:=h
 refine ⟨_,_,_,fl,A,c,e,rfl,h4,h5,⟨_,_,_,rfl⟩,⟨_,_,_,rfl⟩,⟨_,_,_,rfl⟩,⟨⟨A,c,rfl,h4⟩,⟨Ae,ce,rfl,fun h=>absurd h (by simp)⟩,⟨_,_,_,rfl⟩,by simp,by simp,fun x hx=>?_,fun y hy=>by cases hy⟩⟩
 rw [List.mem_singleton.1 hx]
 obtain ⟨⟨fA,fc,rfl,-⟩,-⟩:=h5
 exact ⟨_,_,_,rfl⟩
set_option maxRecDepth 100000 in
set_option maxHeartbeats 6400000 in
theorem newShape_str (w0 w:World) (hn0:Nx w0 w) (Sv:Value) (K:Int) (fs:List FldS) (hs:SchS w0 Sv K aA fs) (hid:∀ f ∈ fs,okZ f.id) (ht:TabK w) (hm:MaxC w) :
  Calls Tryd.prog 24 #[Sv,.string ⟨aA.toArray⟩] w fun e w'=>∃ g fl,e = .returned (.pointer (some ⟨g,0,none⟩))∧ShS w' w.heap.size g K aA fl fs∧RdFs w0 fl fs∧Nx w w':=by
 obtain ⟨s0,s1,s2,fl,A,c,rfl,hs0,hrd,hfs,-,⟨A1,u1,c1,rfl⟩,⟨A2,u2,c2,rfl⟩,hg⟩:=hs.g
 have HFS0:=Lib.hid hfs
 replace hrd:=hrd.nx hn0
 replace hfs:=hfs.nx hn0
 replace hg:=hg.nx hn0
 subst hs0
 obtain ⟨e1,e2⟩:=head_aA
 obtain ⟨⟨fA,fc,rfl,-⟩,-⟩:=id hfs
 obtain ⟨g,off,rfl,hgl,hc⟩:=hrd (by simp)
 obtain ⟨gS,hgS⟩:∃ g,w.heap.size=g:=⟨_,rfl⟩
 obtain ⟨w1,hw1⟩:∃ x,w.alloc (.cells #[.slice (some ⟨g,off,none⟩) 1 c,.slice A1 u1 c1,.slice A2 u2 c2] 32)=x:=⟨_,rfl⟩
 have hn1:Nx w w1:=by rw [← hw1];exact nx0 _ _
 have hb1:Blk w1 gS gS #[.slice (some ⟨g,off,none⟩) 1 c,.slice A1 u1 c1,.slice A2 u2 c2] 32:=by rw [← hw1,← hgS];exact Blk.new w _ _
 have hh:=head_any w1 ⟨aA.toArray⟩ aA (tx_ aA) (by decide) (ht.nx hn1) (hm.nx hn1)
 rw [e1,e2] at hh
 have HH:=Lib.hid hh
 have HN1:=Lib.hid hn1
 have HB1:=Lib.hid hb1
 have HG:=Lib.hid hg
 have HFS:=Lib.hid hfs
 have HID:=Lib.hid hid
 have HC:Hid (g<w.heap.size∧∀ q,q<3→w.cell? ⟨g,off+q,none⟩=(strA ⟨K,aA,.slice fA fs.length fc⟩)[q]?):=⟨hgl,fun q hq=>by have:=hc 0 (by simp) q hq;rw [Nat.zero_mul,Nat.add_zero] at this;exact this⟩
 have hfind:findP ([(⟨K,aA,.slice fA fs.length fc⟩:StrS)].map (·.nm)) (([]:List EnmS).map (·.nm)) aA=(12,0):=by unfold findP;rw [show ([(⟨K,aA,.slice fA fs.length fc⟩:StrS)].map (·.nm))=[aA] from rfl,nmN_one]
 have HFI:=Lib.hid hfind
 obtain ⟨n,hn⟩:∃ n,fs.length=n:=⟨_,rfl⟩
 rw [hn] at HFS HFS0 HC HG HFI
 clear hh e1 e2 ht hm hn1 hb1 hg hfs hid hrd hc hgl hfind hs hn0
 go_enter Tryd.func24,Tryd.ntmps24
 go_upto_region 1 with (fail)
 try rw [hw1]
 clear hw1 hgS
 go_wp2_with fail
 refine HH.out.mono ?_;rintro e w2 ⟨rfl,hn2⟩
 dsimp only [bA]
 have HN2:=Lib.hid (HN1.out.trans hn2)
 have hb2:=HB1.out.below hn2
 have HB2:=Lib.hid hb2
 have a0:w2.cell? ⟨gS,0,none⟩=some (.slice (some ⟨g,off,none⟩) 1 c):=hb2.cell 0
 have a1:w2.cell? ⟨gS,1,none⟩=some (.slice A1 u1 c1):=hb2.cell 1
 have a2:w2.cell? ⟨gS,2,none⟩=some (.slice A2 u2 c2):=hb2.cell 2
 have hfi:=find_any w2 _ _ _ _ _ (HG.out.nx HN2.out) aA
 rw [HFI.out] at hfi
 have HFD:=Lib.hid hfi
 clear hn2 hb2 hfi
 go_wp2_with fail
 refine HFD.out.mono ?_;rintro e w3 ⟨rfl,hn3⟩
 dsimp only
 have HN3:=Lib.hid (HN2.out.trans hn3)
 obtain ⟨gX,hgX⟩:∃ g,w3.heap.size=g:=⟨_,rfl⟩
 obtain ⟨w4,hw4⟩:∃ x,w3.alloc (.cells #[.int .i64 12,.string ⟨#[]⟩,.string ⟨#[]⟩,.pointer none,.map none] 77)=x:=⟨_,rfl⟩
 have hb4:Blk w4 gX gX #[.int .i64 12,.string ⟨#[]⟩,.string ⟨#[]⟩,.pointer none,.map none] 77:=by rw [← hw4,← hgX];exact Blk.new w3 _ _
 have hn4:Nx w3 w4:=by rw [← hw4];exact nx0 _ _
 have hbs:=(HB2.out.below hn3).below hn4
 have hn24:Nx w w4:=HN3.out.trans hn4
 have HN4:=Lib.hid hn24
 have HB4:Hid (Blk w4 w.heap.size gX #[.int .i64 12,.string ⟨#[]⟩,.string ⟨#[]⟩,.pointer none,.map none] 77):=hb4.less (by rw [← hgX];exact HN3.out.size)
 have HRC:=Lib.hid (newRecord_any w4 K aA _ fs (HFS.out.nx hn24) HID.out)
 have hc4:∀ q,q<3→w4.cell? ⟨g,off+q,none⟩=(strA ⟨K,aA,.slice fA n fc⟩)[q]?:=fun q hq=>(hn24.cell (p:=⟨g,off+q,none⟩) HC.out.1).trans (HC.out.2 q hq)
 have b0:w4.cell? ⟨gS,0,none⟩=some (.slice (some ⟨g,off,none⟩) 1 c):=hbs.cell 0
 have k0:w4.cell? ⟨g,off,none⟩=some (.int .i64 K):=hc4 0 (by decide)
 have k1:w4.cell? ⟨g,off+1,none⟩=some (.string ⟨aA.toArray⟩):=hc4 1 (by decide)
 have k2:w4.cell? ⟨g,off+2,none⟩=some (.slice fA n fc):=hc4 2 (by decide)
 clear hn3 hb4 hn4 hbs hn24 hc4 a0 a1 a2
 go_upto_region 12 with (fail)
 try rw [hw4]
 clear hw4 hgX
 go_wp2_with fail
 refine HRC.out.mono ?_;rintro e w5 ⟨gr,rfl,hrec,hn5⟩
 have hb5:=HB4.out.below hn5
 have HB5:=Lib.hid hb5
 have HREC:=Lib.hid hrec
 have HN5:=Lib.hid (HN4.out.trans hn5)
 have x2:w5.cell? ⟨gX,3,none⟩=some (.pointer none):=hb5.cell 3
 have f2:=hb5.free 3
 have HSZ:Hid (gX<w4.heap.size∧w.heap.size≤gX):=⟨HB4.out.lt,HB4.out.1⟩
 clear hrec hn5 hb5 b0 k0 k1 k2
 go_wp2_with fail
 go_ret
 have hp:=HB5.out.put 3 (.pointer (some ⟨gr,0,none⟩))
 obtain ⟨gm,r1,r2,r3,r4⟩:=HREC.out
 have hsz:=HSZ.out
 have r31:=r3.1
 refine ⟨gX,_,rfl,⟨gr,by omega,hp,gm,Nat.le_trans HN4.out.size r1,r2,(r3.other (by omega) 3 _).less HN4.out.size,r4.keep ?_⟩,HFS0.out,HN5.out.put' hsz.2 3 _⟩
 simp only [World.setCell];rw [Array.getElem?_modify,if_neg (by omega)]
end Go.Proofs.YtnfelopknfdpfaaDoor
