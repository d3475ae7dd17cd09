/- The document's descent, however deep; its load as a function. A result in a block beside three in slots; a block written as it was. Plain lemmas. The contract of the document's load. -/
import Derived.Test.YtpfecpcgdfbekaaGreatDoorG25
import Derived.Test.YtpfecpcgdfbekaaGreatDoorG12
import Derived.Test.YtpfecpcgdfbekaaGreatDoorG09
import Derived.Laws.ResultCell
import Derived.Laws.Rows
import Derived.BigRegion
set_option linter.unusedVariables false
set_option linter.unusedSimpArgs false
set_option linter.unnecessarySimpa false
namespace Go.Proofs.YtpfecpcgdfbekaaGreatDoor
open Go.RowKit
section
variable {rt:List UInt8} {A:Option Addr} {n c:Nat} {xs:List (List UInt8×List UInt8)} {w0:World} {g:Nat}
theorem down_zero (hn0:xs.length=n):DnC rt A n c xs w0 g 0:=by
 intro w s vo vn vf opn nm h0 hop hnd hall hnm hno hlen m hz h6
 exfalso
 have hd:(opn++[nm]).Nodup:=by
  rw [List.nodup_append]
  refine ⟨hnd,by simp,fun a ha b hb=>?_⟩
  rw [List.mem_singleton.1 hb]
  rintro rfl
  rw [List.contains_iff_mem.2 ha] at hno
  cases hno
 have:=names_le xs (opn++[nm]) hd (fun x hx=>by
  rcases List.mem_append.1 hx with hx | hx
  ·exact hall x hx
  ·rw [List.mem_singleton.1 hx];exact hnm)
 simp at this
 omega
theorem down_any (hn0:xs.length=n) (hn5:n≤5) (hr:RdW w0 A xs) (hok:∀ x ∈ xs,x.2.length≤140737488355328) (hdoc:∀ nm,DocOk ((txtW xs nm).getD [])):∀ k,DnC rt A n c xs w0 g k
 | 0=>down_zero hn0
 | k+1=>down_step (down_any hn0 hn5 hr hok hdoc k) hn0 hn5 hr hok hdoc
end
def twL:List (List UInt8)→List (List UInt8×List UInt8)→Option (List UInt8)
 | _,[]=>none
 | seen,x :: r=>if seen.contains x.1 then some x.1 else twL (seen++[x.1]) r
def plL:List (List UInt8×List UInt8)→Option (List UInt8)
 | []=>none
 | x :: r=>if plainP x.1 then plL r else some x.1
def loadW (root:List UInt8) (xs:List (List UInt8×List UInt8)):LdW :=
 if 5<xs.length then ⟨[],[],4,[],0⟩
 else match twL [] xs with
 | some t=>⟨[],[],8,t,0⟩
 | none=>match plL xs with
  | some t=>⟨[],[],2,t,0⟩
  | none =>
   if (txtW xs root).isSome=false then ⟨[],[],15,root,0⟩
   else if (downW xs xs.length [] root lw0).e≠0 then ⟨[],[],(downW xs xs.length [] root lw0).e,(downW xs xs.length [] root lw0).file,(downW xs xs.length [] root lw0).at_⟩
   else ⟨(downW xs xs.length [] root lw0).names,(downW xs xs.length [] root lw0).files,0,[],0⟩
end Go.Proofs.YtpfecpcgdfbekaaGreatDoor
namespace Go.Proofs.YtpfecpcgdfbekaaGreatDoor
open Go.RowKit
theorem nx_same2 {w:World} {B g:Nat} {v u:Value} {T:TypeId} (h:Blk w B g #[v,u] T):Nx w ((w.setCell ⟨g,0,none⟩ v).setCell ⟨g,1,none⟩ u):=by
 refine ⟨rfl,rfl,rfl,by simp [World.setCell],fun k hk=>?_⟩
 by_cases e:k=g
 ·subst e
  rw [((h.put 0 v).put 1 u).2,h.2]
  rfl
 ·simp only [World.setCell]
  rw [Array.getElem?_modify,if_neg (fun e'=>e e'.symm),Array.getElem?_modify,if_neg (fun e'=>e e'.symm)]
theorem results_cell_tmp3_row {P:Program} {fn:Func} {p u1 u2 u3:Tmp} {ty:TypeId} (h:fn.results=#[.cell p ty,.tmp u1,.tmp u2,.tmp u3]) (tmps:Array Value) (w:World) (g:Nat) (t:TypeId) (cs:Array Value) (fr:Nat×Nat) (d:TypeDesc)
  (hp:tmps.getD p undef = .pointer (some ⟨g,0,none⟩)) (hg:w.heap[g]? = some (.cells cs t fr))
  (hu:P.underlying ty=some d) (hd:(match d with | .struct _ | .array _ _=>true | _=>false)=true) (hi:(P.info? ty).map (·.size)=some cs.size) :
  (results fn tmps).run P w = .ok (.tuple #[.agg cs,tmps.getD u1 undef,tmps.getD u2 undef,tmps.getD u3 undef]) w:=by
 have hp':tmps[p]?.getD undef = .pointer (some ⟨g,0,none⟩):=by simpa using hp
 simp [results,h,hp',asAddr,run_loadVar_row w g t ty cs fr d hg hu hd hi]
end Go.Proofs.YtpfecpcgdfbekaaGreatDoor
namespace Go.Proofs.YtpfecpcgdfbekaaGreatDoor
open Go.RowKit
def LoadR (w:World) (o:LdW) (e:Ending) (w':World):Prop:=∃ vn vf,e = .returned (.tuple #[.agg #[vn,vf],.int .i64 (o.e:Int),.string ⟨o.file.toArray⟩,.int .i64 (o.at_:Int)]) ∧
 RepL strA 1 9 (REq (α:=List UInt8)) w' (Fm w.heap.size) vn o.names∧RepL filA 3 74 RFile w' (Fm w.heap.size) vf o.files∧Nx w w'
theorem twL_take (xs:List (List UInt8×List UInt8)):∀ (i:Nat) (seen:List (List UInt8)),(∀ j (h:j<xs.length),j<i→seen.contains xs[j].1=false∧∀ k (hk:k<j),xs[k].1≠xs[j].1)→twL seen xs=twL (seen++(xs.take i).map (·.1)) (xs.drop i):=by
 induction xs with
 | nil=>intro i seen _;simp [twL]
 | cons x r ih =>
  intro i seen h
  cases i with
  | zero=>simp
  | succ i =>
   have h0:=h 0 (by simp) (by omega)
   show (if seen.contains x.1 then _ else _)=_
   rw [show seen.contains x.1=false from h0.1,if_neg (by decide),ih i (seen++[x.1]) (fun j hj hji=>?_)]
   ·simp
   ·have h1:=h (j+1) (by simp;omega) (by omega)
    refine ⟨?_,fun k hk=>h1.2 (k+1) (by omega)⟩
    have h2:=h1.2 0 (by omega)
    have h3:=h1.1
    simp at h2 h3 ⊢
    exact ⟨h3,fun e=>h2 e.symm⟩
theorem plL_none {xs:List (List UInt8×List UInt8)} (h:∀ j (h:j<xs.length),plainP xs[j].1=true):plL xs=none:=by
 induction xs with
 | nil=>rfl
 | cons x r ih =>
  show (if plainP x.1=true then _ else _)=_
  rw [if_pos (show plainP x.1=true from h 0 (by simp))]
  exact ih fun j hj=>h (j+1) (by simp;omega)
theorem plL_at:∀ {xs:List (List UInt8×List UInt8)} (i:Nat) (hi:i<xs.length),(∀ j (h:j<xs.length),j<i→plainP xs[j].1=true)→plainP xs[i].1=false→plL xs=some xs[i].1
 | x :: r,0,_,_,h=>by
  show (if plainP x.1=true then _ else _)=_
  rw [if_neg (by rw [show plainP x.1=false from h];decide)];rfl
 | x :: r,i+1,hi,h,h2=>by
  show (if plainP x.1=true then _ else _)=_
  rw [if_pos (show plainP x.1=true from h 0 (by simp) (by omega))]
  exact plL_at i (by simpa using hi) (fun j hj hji=>h (j+1) (by simp;omega) (by omega)) h2
set_option maxRecDepth 100000 in
set_option maxHeartbeats 6400000 in
theorem dload_of (w:World) (root:List UInt8) (A:Option Addr) (n c:Nat) (xs:List (List UInt8×List UInt8)) (hn:xs.length=n) (hrd:RdW w A xs) (hok:∀ x ∈ xs,x.1.length≤8000∧x.2.length≤140737488355328) (hn6:(n:Int)≤100000) (hdoc:∀ nm,DocOk ((txtW xs nm).getD [])) :
  Calls Tryz.prog 8 #[.agg #[.string ⟨root.toArray⟩,.slice A n c]] w fun e w'=>LoadR w (loadW root xs) e w':=by
 have HRD:=Lib.hid hrd
 have HOK:=Lib.hid hok
 have HN:=Lib.hid hn
 have HN6:=Lib.hid hn6
 have HDOC:=Lib.hid hdoc
 clear hrd hok hn hn6 hdoc
 go_enter Tryz.func8,Tryz.ntmps8
 go_upto_region 1 with (fail)
 obtain ⟨gb,hgb⟩:∃ g,w.heap.size=g:=⟨_,rfl⟩
 obtain ⟨gr,hgr⟩:∃ g,gb+1=g:=⟨_,rfl⟩
 rw [hgb,hgr]
 obtain ⟨w1,hw1⟩:∃ w1,(w.alloc (.cells #[.string ⟨root.toArray⟩,.slice A n c] 36)).alloc (.cells #[.slice none 0 0,.slice none 0 0] 28)=w1:=⟨_,rfl⟩
 have HB1:Hid (Blk w1 gb gb #[.string ⟨root.toArray⟩,.slice A n c] 36):=by
  unfold Hid;rw [← hw1,← hgb];exact (Blk.new w _ _).alloc _
 have HBR:Hid (Blk w1 gb gr #[.slice none 0 0,.slice none 0 0] 28):=by
  unfold Hid;rw [← hw1,← hgr,← hgb,show w.heap.size+1=(w.alloc (.cells #[.string ⟨root.toArray⟩,.slice A n c] 36)).heap.size from by simp]
  exact (Blk.new (w.alloc (.cells #[.string ⟨root.toArray⟩,.slice A n c] 36)) _ _).less (by simp)
 have HN1:Hid (Nx w w1):=by unfold Hid;rw [← hw1];exact Nx.al (nx0 w _) _
 rw [hw1]
 clear hw1
 have HNN:=Lib.hid hgb
 have hb1:=HB1.out.cell 1
 have c0:w1.cell? ⟨gr,0,none⟩=some (.slice none 0 0):=HBR.out.cell 0
 have c1:w1.cell? ⟨gr,1,none⟩=some (.slice none 0 0):=HBR.out.cell 1
 have f0:=HBR.out.free 0
 have f1:=HBR.out.free 1
 have d1:w1.cell? ⟨gb,1,none⟩=some (.slice A n c):=HB1.out.cell 1
 have HNE:Hid (gb≠gr):=by unfold Hid;omega
 clear hgb hgr hb1
 by_cases h5:5<n
 ·have b5:decide ((n:Int) > 5)=true:=decide_eq_true (by omega)
  have b6:(5:Int)<(n:Int):=by omega
  have HO:Hid (loadW root xs=⟨[],[],4,[],0⟩):=by unfold Hid loadW;rw [if_pos (by rw [HN.out];exact h5)]
  clear h5
  go_wp2_with fail
  have hb2:=(HBR.out.put 0 (.slice none 0 0)).put 1 (.slice none 0 0)
  refine bodyPost_ret (results_cell_tmp3_row rfl _ _ gr _ _ _ _ rfl hb2.2 Tryz.underlying28 rfl (by kernel_rfl)) rfl ?_
  unfold LoadR
  rw [HO.out]
  exact ⟨_,_,rfl,RepL.nil_,RepL.nil_,HN1.out.trans (nx_same2 HBR.out)⟩
 have b5:decide ((n:Int) > 5)=false:=decide_eq_false (by omega)
 have b6:¬ (5:Int)<(n:Int):=by omega
 have hn5:n≤5:=by omega
 have HN5:=Lib.hid hn5
 have HR1:=Lib.hid (HRD.out.nx HN1.out)
 clear h5 c0 c1 f0 f1
 go_upto_block 0 with (fail)
 go_cut [6,7] (fun _ _ wx=>Nx w1 wx∧∀ j (h:j<xs.length),∀ k (hk:k<j),xs[k].1≠xs[j].1)
 case first =>
  go_wp2_with fail
  go_loopw [6,7] (fun iv _ wr=>∃ i:Nat,iv = .int .i64 (i:Int)∧i≤n∧Nx w1 wr∧∀ j (h:j<xs.length),j<i→∀ k (hk:k<j),xs[k].1≠xs[j].1) (fun iv _ _=>(100 - intOf iv).toNat)
  case atStart=>exact ⟨0,rfl,Nat.zero_le _,Nx.refl _,fun j _ h=>absurd h (by omega)⟩
  case round =>
   obtain ⟨i,rfl,hi,hnx,hno⟩:=hrel
   have HNX:=Lib.hid hnx
   have HNO:=Lib.hid hno
   have e1:wr.cell? ⟨gb,1,none⟩=some (.slice A n c):=(HB1.out.below HNX.out).cell 1
   have hiI:(i:Int)≤5:=by omega
   clear hnx hno d1
   by_cases hlt:i<n
   ·have q1:decide ((i:Int)<(n:Int))=true:=decide_eq_true (by omega)
    have q2:(i:Int)<(n:Int):=by omega
    have hix:i<xs.length:=by rw [HN.out];exact hlt
    have HIX:=Lib.hid hix
    have HLT:=Lib.hid hlt
    clear hix
    go_wp2_with fail
    clear e1
    go_loopw [7] (fun kv wr=>∃ k:Nat,kv = .int .i64 (k:Int)∧k≤i∧Nx w1 wr∧∀ m (h:m<k),m<xs.length→∀ (hm:m<xs.length),xs[m].1≠(xs[i]'HIX.out).1) (fun kv _=>(100 - intOf kv).toNat)
    case atStart=>exact ⟨0,rfl,Nat.zero_le _,HNX.out,fun m h=>absurd h (by omega)⟩
    case round =>
     obtain ⟨k,rfl,hk,hnx2,hno2⟩:=hrel
     have HNX2:=Lib.hid hnx2
     have HNO2:=Lib.hid hno2
     have e1:wr.cell? ⟨gb,1,none⟩=some (.slice A n c):=(HB1.out.below HNX2.out).cell 1
     have hkI:(k:Int)≤5:=by omega
     clear hnx2 hno2
     by_cases hki:k<i
     ·have r1:decide ((k:Int)<(i:Int))=true:=decide_eq_true (by omega)
      have r2:(k:Int)<(i:Int):=by omega
      have hkx:k<xs.length:=by have:=HIX.out;omega
      obtain ⟨gx,o,rfl,hgx,hc⟩:=HRD.out (by omega)
      have m1:=((HN1.out.trans HNX2.out).cell (p:=⟨gx,o+k * 2,none⟩) hgx).trans (hc k hkx).1
      have m2:=((HN1.out.trans HNX2.out).cell (p:=⟨gx,o+i * 2,none⟩) hgx).trans (hc i HIX.out).1
      have hne1:gb≠gr:=HNE.out
      have hne2:gx≠gr:=by have:=HNN.out;have:=HBR.out.1;omega
      obtain ⟨⟨a1,t1⟩,ha1⟩:∃ y,xs[k]=y:=⟨_,rfl⟩
      obtain ⟨⟨a2,t2⟩,ha2⟩:∃ y,xs[i]'HIX.out=y:=⟨_,rfl⟩
      rw [ha1] at m1
      rw [ha2] at m2
      unfold bt at m1 m2
      dsimp only at m1 m2
      have hin1:(i:Int)<(n:Int):=by have:=HLT.out;omega
      have hkn1:(k:Int)<(n:Int):=by have:=HLT.out;omega
      by_cases heq:a1=a2
      ·subst heq
       have HO:Hid (loadW root xs=⟨[],[],8,a1,0⟩):=by
        have ht:twL [] xs=some a1:=by
         rw [twL_take xs i [] (fun j hj hji=>⟨by simp,fun k hk=>HNO.out j hj hji k hk⟩),List.drop_eq_getElem_cons HIX.out,ha2]
         refine if_pos ?_
         rw [List.nil_append,List.contains_iff_mem,List.mem_map]
         refine ⟨xs[k],?_,by rw [ha1]⟩
         rw [List.mem_take_iff_getElem]
         exact ⟨k,by omega,rfl⟩
        unfold Hid loadW
        rw [if_neg (by rw [HN.out];have:=HN5.out;omega),ht]
       have b3:(a1 == a1)=true:=by simp
       have hb3:=HBR.out.below HNX2.out
       have c0:wr.cell? ⟨gr,0,none⟩=some (.slice none 0 0):=hb3.cell 0
       have c1:wr.cell? ⟨gr,1,none⟩=some (.slice none 0 0):=hb3.cell 1
       have f0:=hb3.free 0
       have f1:=hb3.free 1
       have HB3:=Lib.hid hb3
       clear hb3 hc ha1 ha2 hkx hgx hki
       go_wp2_with fail
       go_quiet (fail)
       go_wp2_with fail
       go_region
       all_goals
        go_wp2_with fail
        refine bodyPost_ret (results_cell_tmp3_row rfl _ _ gr _ _ _ _ rfl (((HB3.out.drew _).put 0 (.slice none 0 0)).put 1 (.slice none 0 0)).2 Tryz.underlying28 rfl (by kernel_rfl)) rfl ?_
        unfold LoadR
        rw [HO.out]
        exact ⟨_,_,rfl,RepL.nil_,RepL.nil_,(HN1.out.trans HNX2.out).trans ((Nx.drewN _ _).trans (nx_same2 (HB3.out.drew _)))⟩
      ·have b3:(a1 == a2)=false:=by rw [beq_eq_false_iff_ne];exact heq
       have HN2:Hid (∀ m (h:m<k+1),m<xs.length→∀ (hm:m<xs.length),xs[m].1≠(xs[i]'HIX.out).1):=by
        intro m h _ hm
        rcases Nat.lt_or_ge m k with h3 | h3
        ·exact HNO2.out m h3 hm hm
        ·obtain rfl:m=k:=by omega
         rw [ha1,ha2];exact heq
       have HKI:=Lib.hid hki
       clear hc ha1 ha2 hkx hgx heq hki
       go_wp2_with fail
       go_quiet (fail)
       go_wp2_with fail
       go_roundw
       case rel=>exact ⟨k+1,by go_num,HKI.out,HNX2.out.dr _,HN2.out⟩
       case measure=>have:=HKI.out;simp [intOf];omega
     ·have r1:decide ((k:Int)<(i:Int))=false:=decide_eq_false (by omega)
      have r2:¬ (k:Int)<(i:Int):=by omega
      have HN3:Hid (∀ j (h:j<xs.length),j<i+1→∀ k (hk:k<j),xs[k].1≠xs[j].1):=by
       intro j hj hji m hm
       rcases Nat.lt_or_ge j i with h3 | h3
       ·exact HNO.out j hj h3 m hm
       ·obtain rfl:j=i:=by omega
        exact HNO2.out m (by omega) (by omega) (by omega)
      clear hki
      go_wp2_with fail
      go_roundw
      case rel=>exact ⟨i+1,by go_num,HLT.out,HNX2.out,HN3.out⟩
      case measure=>have:=HLT.out;simp [intOf];omega
   ·have q1:decide ((i:Int)<(n:Int))=false:=decide_eq_false (by omega)
    have q2:¬ (i:Int)<(n:Int):=by omega
    have HAL:Hid (∀ j (h:j<xs.length),∀ k (hk:k<j),xs[k].1≠xs[j].1):=fun j hj k hk=>HNO.out j hj (by have:=HN.out;omega) k hk
    clear hlt
    go_wp2_with fail
    go_meet
    case rel=>exact ⟨HNX.out,HAL.out⟩
 case rest =>
 obtain ⟨hnx,hall⟩:=hcut
 have HTW:Hid (twL [] xs=none):=by
  unfold Hid
  rw [twL_take xs xs.length [] (fun j hj hji=>⟨by simp,fun k hk=>hall j hj k hk⟩),List.drop_length]
  rfl
 have HNX:=Lib.hid hnx
 clear hnx hall
 go_upto_block 4 with (fail)
 go_cut [8] (fun _ wx=>Nx w1 wx∧∀ j (h:j<xs.length),plainP xs[j].1=true)
 case first =>
  go_wp2_with fail
  go_loopw [8] (fun iv wr=>∃ i:Nat,iv = .int .i64 (i:Int)∧i≤n∧Nx w1 wr∧∀ j (h:j<xs.length),j<i→plainP xs[j].1=true) (fun iv _=>(100 - intOf iv).toNat)
  case atStart=>exact ⟨0,rfl,Nat.zero_le _,HNX.out,fun j _ h=>absurd h (by omega)⟩
  case round =>
   obtain ⟨i,rfl,hi,hnx,hno⟩:=hrel
   have HNX3:=Lib.hid hnx
   have HNO:=Lib.hid hno
   have e1:wr.cell? ⟨gb,1,none⟩=some (.slice A n c):=(HB1.out.below HNX3.out).cell 1
   have hiI:(i:Int)≤5:=by omega
   clear hnx hno
   by_cases hlt:i<n
   ·have q1:decide ((i:Int)<(n:Int))=true:=decide_eq_true (by omega)
    have q2:(i:Int)<(n:Int):=by omega
    have hix:i<xs.length:=by rw [HN.out];exact hlt
    have HLT:=Lib.hid hlt
    obtain ⟨gx,o,rfl,hgx,hc⟩:=HRD.out (by omega)
    have m1:=((HN1.out.trans HNX3.out).cell (p:=⟨gx,o+i * 2,none⟩) hgx).trans (hc i hix).1
    have hox:=(HOK.out _ (List.getElem_mem hix)).1
    obtain ⟨⟨a1,t1⟩,ha1⟩:∃ y,xs[i]=y:=⟨_,rfl⟩
    rw [ha1] at m1 hox
    unfold bt at m1
    dsimp only at m1 hox
    obtain ⟨B,hB⟩:∃ B,Hid (plainP a1=B):=⟨_,rfl⟩
    have HPL:Hid (∀ w,Calls Tryz.prog 16 #[.string ⟨a1.toArray⟩] w fun e w'=>e = .returned (.bool B)∧Nx w w'):=fun w=>rplain_any w _ a1 (Tx.of _) B hB.out (by omega)
    have HAT:Hid (B=false→loadW root xs=⟨[],[],2,a1,0⟩):=by
     intro hb
     unfold loadW
     rw [if_neg (by rw [HN.out];have:=HN5.out;omega),HTW.out]
     dsimp only
     rw [plL_at i hix HNO.out (by rw [ha1];exact hB.out.trans hb),ha1]
    have HST:Hid (B=true→∀ j (h:j<xs.length),j<i+1→plainP xs[j].1=true):=by
     intro hb j hj hji
     rcases Nat.lt_or_ge j i with h3 | h3
     ·exact HNO.out j hj h3
     ·obtain rfl:j=i:=by omega
      rw [ha1];exact hB.out.trans hb
    have hne1:gb≠gr:=HNE.out
    have hne2:gx≠gr:=by have:=HNN.out;have:=HBR.out.1;omega
    have HGX:=Lib.hid hgx
    have HM1:Hid (w.cell? ⟨gx,o+i * 2,none⟩=some (.string ⟨a1.toArray⟩)):=by have:=(hc i hix).1;rw [ha1] at this;exact this
    clear hc ha1 hix hgx hox
    go_wp2_with fail
    refine (HPL.out _).mono ?_;rintro e w4 ⟨rfl,hn4⟩
    have HNX4:=Lib.hid (HNX3.out.trans hn4)
    clear hn4 HPL m1 e1
    cases B with
    | true =>
     go_wp2_with fail
     go_roundw
     case rel=>exact ⟨i+1,by go_num,HLT.out,HNX4.out,HST.out (by first | exact trivial | exact rfl)⟩
     case measure=>have:=HLT.out;simp [intOf];omega
    | false =>
     have HO:=Lib.hid (HAT.out (by first | exact trivial | exact rfl))
     have hb4:=HBR.out.below HNX4.out
     have c0:w4.cell? ⟨gr,0,none⟩=some (.slice none 0 0):=hb4.cell 0
     have c1:w4.cell? ⟨gr,1,none⟩=some (.slice none 0 0):=hb4.cell 1
     have f0:=hb4.free 0
     have f1:=hb4.free 1
     have HB4:=Lib.hid hb4
     have e1:w4.cell? ⟨gb,1,none⟩=some (.slice (some ⟨gx,o,none⟩) n c):=(HB1.out.below HNX4.out).cell 1
     have m1:w4.cell? ⟨gx,o+i * 2,none⟩=some (.string ⟨a1.toArray⟩):=((HN1.out.trans HNX4.out).cell (p:=⟨gx,o+i * 2,none⟩) HGX.out).trans HM1.out
     clear hb4 HAT HST
     go_wp2_with fail
     go_region
     all_goals
      go_wp2_with fail
      refine bodyPost_ret (results_cell_tmp3_row rfl _ _ gr _ _ _ _ rfl (((HB4.out.drew _).put 0 (.slice none 0 0)).put 1 (.slice none 0 0)).2 Tryz.underlying28 rfl (by kernel_rfl)) rfl ?_
      unfold LoadR
      rw [HO.out]
      exact ⟨_,_,rfl,RepL.nil_,RepL.nil_,(HN1.out.trans HNX4.out).trans ((Nx.drewN _ _).trans (nx_same2 (HB4.out.drew _)))⟩
   ·have q1:decide ((i:Int)<(n:Int))=false:=decide_eq_false (by omega)
    have q2:¬ (i:Int)<(n:Int):=by omega
    have HAL:Hid (∀ j (h:j<xs.length),plainP xs[j].1=true):=fun j hj=>HNO.out j hj (by have:=HN.out;omega)
    clear hlt
    go_wp2_with fail
    go_meet
    case rel=>exact ⟨HNX3.out,HAL.out⟩
 case rest =>
 obtain ⟨hnx,hall⟩:=hcut
 have HPL:=Lib.hid (plL_none hall)
 have HNX5:=Lib.hid hnx
 have e0:wc.cell? ⟨gb,0,none⟩=some (.string ⟨root.toArray⟩):=(HB1.out.below hnx).cell 0
 have e1:wc.cell? ⟨gb,1,none⟩=some (.slice A n c):=(HB1.out.below hnx).cell 1
 clear hnx hall HNX
 go_upto_region 17 with (fail)
 obtain ⟨g,hg⟩:∃ g,wc.heap.size=g:=⟨_,rfl⟩
 have HBX:=Blk.new wc #[.string ⟨root.toArray⟩,.slice A n c,.slice none 0 0,.slice none 0 0,.slice none 0 0,.int .i64 0,.string ⟨#[]⟩,.int .i64 0] 64
 obtain ⟨w2,hw2⟩:∃ w2,wc.alloc (.cells #[.string ⟨root.toArray⟩,.slice A n c,.slice none 0 0,.slice none 0 0,.slice none 0 0,.int .i64 0,.string ⟨#[]⟩,.int .i64 0] 64)=w2:=⟨_,rfl⟩
 have HNXA:Hid (Nx wc w2):=by unfold Hid;rw [← hw2];exact nx0 _ _
 rw [hw2,hg] at HBX
 rw [hw2,hg]
 have HG:Hid (wc.heap.size=g):=hg
 have HS2:Hid (DlS root (.slice A n c) wc g lw0 (.slice none 0 0) (.slice none 0 0) (.slice none 0 0) w2):=by
  refine ⟨HNXA.out,⟨by rw [hg];exact Nat.le_refl _,HBX.2⟩,RepL.nil_,RepL.nil_⟩
 have HO2:Hid (OpR wc.heap.size g (.slice none 0 0) (.slice none 0 0) w2 (.slice none 0 0) []):=⟨none,0,rfl,Nat.le_refl _,Nat.zero_le _,fun h=>absurd h (by simp)⟩
 have HRC:=Lib.hid (HRD.out.nx (HN1.out.trans HNX5.out))
 have HOK2:Hid (∀ x ∈ xs,x.2.length≤140737488355328):=fun x hx=>(HOK.out x hx).2
 obtain ⟨B,hB⟩:∃ B,Hid ((txtW xs root).isSome=B):=⟨_,rfl⟩
 obtain ⟨T0,hT0⟩:∃ T,Hid ((txtW xs root).getD []=T):=⟨_,rfl⟩
 have HDT:Hid (Calls Tryz.prog 17 #[.pointer (some ⟨g,0,none⟩),.string ⟨root.toArray⟩] w2 fun e w'=>e = .returned (.tuple #[.string ⟨T0.toArray⟩,.bool B])∧Nx w2 w'):=by
  have:=dtext_any A n c xs HN.out (by have:=HN5.out;omega) HS2.out HRC.out root
  rw [hT0.out,hB.out] at this
  exact this
 obtain ⟨D,hD⟩:∃ D,Hid (downW xs n [] root lw0=D):=⟨_,rfl⟩
 have HLW:Hid (loadW root xs=if B=false then ⟨[],[],15,root,0⟩ else if D.e≠0 then ⟨[],[],D.e,D.file,D.at_⟩ else ⟨D.names,D.files,0,[],0⟩):=by
  unfold Hid loadW
  rw [if_neg (by rw [HN.out];have:=HN5.out;omega),HTW.out]
  dsimp only
  rw [HPL.out]
  dsimp only
  rw [HN.out,hD.out,hB.out]
 have m0:w2.cell? ⟨gb,0,none⟩=some (.string ⟨root.toArray⟩):=(HB1.out.below (HNX5.out.trans HNXA.out)).cell 0
 have HBR2:=Lib.hid (HBR.out.below (HNX5.out.trans HNXA.out))
 have hne1:gb≠gr:=HNE.out
 have hne3:g≠gr:=by have:=HBR.out.lt;have:=HNX5.out.size;omega
 have HNE3:=Lib.hid hne3
 clear hw2 hg HBX e0 e1
 go_wp2_with fail
 refine HDT.out.mono ?_;rintro e w4 ⟨rfl,hn4⟩
 have HN4:=Lib.hid hn4
 have HS4:=Lib.hid (HS2.out.next hn4)
 have HO4:=Lib.hid (HO2.out.fr (DlF.nx hn4 _ _))
 clear hn4 HDT m0
 have m0:w4.cell? ⟨gb,0,none⟩=some (.string ⟨root.toArray⟩):=(HB1.out.below ((HNX5.out.trans HNXA.out).trans HN4.out)).cell 0
 cases B with
 | false =>
  have HO:Hid (loadW root xs=⟨[],[],15,root,0⟩):=by unfold Hid;rw [HLW.out,if_pos rfl]
  have hb4:=HBR2.out.below HN4.out
  have c0:w4.cell? ⟨gr,0,none⟩=some (.slice none 0 0):=hb4.cell 0
  have c1:w4.cell? ⟨gr,1,none⟩=some (.slice none 0 0):=hb4.cell 1
  have f0:=hb4.free 0
  have f1:=hb4.free 1
  have HB4:=Lib.hid hb4
  clear hb4 HLW
  go_wp2_with fail
  go_region
  all_goals
   go_wp2_with fail
   refine bodyPost_ret (results_cell_tmp3_row rfl _ _ gr _ _ _ _ rfl (((HB4.out.drew _).put 0 (.slice none 0 0)).put 1 (.slice none 0 0)).2 Tryz.underlying28 rfl (by kernel_rfl)) rfl ?_
   unfold LoadR
   rw [HO.out]
   exact ⟨_,_,rfl,RepL.nil_,RepL.nil_,(HN1.out.trans ((HNX5.out.trans HNXA.out).trans HN4.out)).trans ((Nx.drewN _ _).trans (nx_same2 (HB4.out.drew _)))⟩
 | true =>
  have HSW:Hid (Sw lw0 0):=⟨Nat.le_refl _,Nat.le_refl _⟩
  have H6:Hid (0+6 ^ n≤90000):=by
   have h1:6 ^ n≤6 ^ 5:=Nat.pow_le_pow_right (by decide) HN5.out
   have h2:6 ^ 5=7776:=rfl
   unfold Hid;omega
  have HDC:=Lib.hid (down_any (rt:=root) (A:=A) (c:=c) (g:=g) HN.out HN5.out HRC.out HOK2.out HDOC.out n w4 lw0 _ _ _ [] root HS4.out HO4.out List.nodup_nil (fun x hx=>by cases hx) hB.out rfl (by simp) 0 HSW.out H6.out)
  have HLW2:Hid (loadW root xs=if D.e≠0 then ⟨[],[],D.e,D.file,D.at_⟩ else ⟨D.names,D.files,0,[],0⟩):=by unfold Hid;rw [HLW.out,if_neg (by decide)]
  clear HLW
  go_wp2_with fail
  refine HDC.out.mono ?_;rintro e w5 ⟨rfl,vo5,vn5,vf5,hs5,-,hf5⟩
  have HS5:Hid (DlS root (.slice A n c) wc g D vo5 vn5 vf5 w5):=hs5.eq hD.out
  have HNX6:Hid (Nx wc w5):=HS5.out.nx
  have hb5:=HBR.out.below (HNX5.out.trans HNX6.out)
  have c0:w5.cell? ⟨gr,0,none⟩=some (.slice none 0 0):=hb5.cell 0
  have c1:w5.cell? ⟨gr,1,none⟩=some (.slice none 0 0):=hb5.cell 1
  have f0:=hb5.free 0
  have f1:=hb5.free 1
  have HB5:=Lib.hid hb5
  obtain ⟨nA,nc,-,rfl,-,-,-,-,-⟩:=HS5.out.nm.sl strA_size
  obtain ⟨fA,fc,-,rfl,-,-,-,-,-⟩:=HS5.out.fl.sl (show ∀ x,(filA x).size=3 from fun _=>rfl)
  obtain ⟨-,-,k2,k3,-,k5,k6,k7⟩:=HS5.out.cs
  unfold bt at k6
  clear hb5 hs5 hf5 HDC m0
  by_cases he:D.e=0
  ·have b0:((D.e:Int) != 0)=false:=by rw [he];rfl
   have HO:Hid (loadW root xs=⟨D.names,D.files,0,[],0⟩):=by unfold Hid;rw [HLW2.out,if_neg (by omega)]
   clear he HLW2
   go_wp2_with fail
   refine bodyPost_ret (results_cell_tmp3_row rfl _ _ gr _ _ _ _ rfl ((HB5.out.put 0 (.slice nA D.names.length nc)).put 1 (.slice fA D.files.length fc)).2 Tryz.underlying28 rfl (by kernel_rfl)) rfl ?_
   unfold LoadR
   rw [HO.out]
   have hgr:gr<wc.heap.size:=Nat.lt_of_lt_of_le HBR.out.lt HNX5.out.size
   have hwc:w.heap.size≤wc.heap.size:=(HN1.out.trans HNX5.out).size
   have hgw:w.heap.size≤gr:=by have:=HNN.out;have:=HBR.out.1;omega
   have hk:∀ k,k≠gr→((w5.setCell ⟨gr,0,none⟩ (.slice nA D.names.length nc)).setCell ⟨gr,1,none⟩ (.slice fA D.files.length fc)).heap[k]? = w5.heap[k]?:=fun k hk=>by
    simp only [World.setCell]
    rw [Array.getElem?_modify,if_neg (fun e=>hk e.symm),Array.getElem?_modify,if_neg (fun e=>hk e.symm)]
   exact ⟨_,_,rfl,HS5.out.nm.mv REq.lasts ⟨fun k hp _=>hk k (by have:=hp.1;omega),fun k hp _=>Nat.le_trans hwc hp.1⟩,HS5.out.fl.mv RFile.lasts ⟨fun k hp _=>hk k (by have:=hp.1;omega),fun k hp _=>Nat.le_trans hwc hp.1⟩,
    Nx.put' (Nx.put' (HN1.out.trans (HNX5.out.trans HNX6.out)) hgw 0 _) hgw 1 _⟩
  ·have b0:((D.e:Int) != 0)=true:=by rw [bne_iff_ne];omega
   have HO:Hid (loadW root xs=⟨[],[],D.e,D.file,D.at_⟩):=by unfold Hid;rw [HLW2.out,if_pos he]
   clear he HLW2
   go_wp2_with fail
   go_region
   all_goals
    go_wp2_with fail
    refine bodyPost_ret (results_cell_tmp3_row rfl _ _ gr _ _ _ _ rfl (((HB5.out.drew _).put 0 (.slice none 0 0)).put 1 (.slice none 0 0)).2 Tryz.underlying28 rfl (by kernel_rfl)) rfl ?_
    unfold LoadR
    rw [HO.out]
    exact ⟨_,_,rfl,RepL.nil_,RepL.nil_,(HN1.out.trans (HNX5.out.trans HNX6.out)).trans ((Nx.drewN _ _).trans (nx_same2 (HB5.out.drew _)))⟩
end Go.Proofs.YtpfecpcgdfbekaaGreatDoor
