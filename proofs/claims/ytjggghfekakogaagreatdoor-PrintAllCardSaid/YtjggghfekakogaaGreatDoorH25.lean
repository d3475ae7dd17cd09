/- The code's printer: constants within constants. The code's printer: lists and maps of constants, in whatever order their parts are reckoned. Plain lemmas. The code's printer: constants. -/
import Derived.Test.YtjggghfekakogaaGreatDoorH22
import Derived.Test.YtjggghfekakogaaGreatDoorH18
import Derived.Test.YtjggghfekakogaaGreatDoorH24
import Derived.Test.YtjggghfekakogaaGreatDoorH02
set_option linter.unusedVariables false
set_option linter.unusedSimpArgs false
set_option linter.unnecessarySimpa false
namespace Go.Proofs.YtjggghfekakogaaGreatDoor
open Go.RowKit
def CoP (sh:Nat→List UInt8) (n:Nat):Prop:=∀ (B:Nat) (w:World) (v:Value) (xs:List UInt8) (x:ConS) (c:Con),Ob B w v xs→TabB B w→RC n w (No v) x c→prC n c →
 (xs.length:Int)+((constF tenS sh n c).length:Int)≤64000 →
 Calls Tryz.prog 52 #[v,.agg (conA x)] w fun e w'=>∃ v',e = .returned v'∧Ob B w' v' (xs++constF tenS sh n c)∧Gw v w v' w'
theorem LC.gw {n:Nat} {v v' lv:Value} {w w':World} {l:List Con} (h:LC n w (No v) lv l) (hg:Gw v w v' w'):LC n w' (No v') lv l:=LC.lasts n hg.mv h
theorem RC.gw {n:Nat} {v v':Value} {w w':World} {x:ConS} {c:Con} (h:RC n w (No v) x c) (hg:Gw v w v' w'):RC n w' (No v') x c:=RC.lasts n hg.mv h
theorem RC.but {n:Nat} {P:Nat→Prop} {v:Value} {w:World} {x:ConS} {c:Con} (h:RC n w (But P v) x c):RC n w P x c:=RC.lasts n ⟨fun _ _ _=>rfl,fun _ h _=>h.1⟩ h
set_option maxRecDepth 100000 in
set_option maxHeartbeats 6400000 in
theorem appendInner_any {sh:Nat→List UInt8} {n:Nat} (ih:CoP sh n) (B:Nat) (w:World) (v lv:Value) (xs sg:List UInt8) (l:List Con) (s:ByteArray) (hs:Tx s sg) (hsg:sg.length=2) (hown:Ob B w v xs) (ht:TabB B w) (hr:LC n w (No v) lv l)
  (hll:l.length≤100000) (hok:∀ y ∈ l,prC n y) (hlen:(xs.length:Int)+((innF sg (l.map (constF tenS sh n)) l.length).length:Int)≤64000) :
  Calls Tryz.prog 105 #[v,lv,.string s] w fun e w'=>∃ v',e = .returned v'∧Ob B w' v' (xs++innF sg (l.map (constF tenS sh n)) l.length)∧Gw v w v' w':=by
 obtain ⟨A,ac,zs,hlv,hzl,hzc,hzm,hrd,hall⟩:=hr.sl conA_size
 have HR:=Lib.hid hr
 subst hlv
 obtain ⟨ts,hts⟩:∃ ts,Hid (l.map (constF tenS sh n)=ts):=⟨_,Lib.hid rfl⟩
 rw [hts.out] at hlen ⊢
 have htl:ts.length=l.length:=by rw [← hts.out,List.length_map]
 have HTL:=Lib.hid htl
 have HOWN:=Lib.hid hown
 have HT:=Lib.hid ht
 have HS:=Lib.hid hs
 have HSG:=Lib.hid hsg
 have HOK:=Lib.hid hok
 have HLEN:=Lib.hid hlen
 have HIH:=Lib.hid ih
 have hnI:(l.length:Int)≤100000:=by omega
 clear hown ht hs hsg hok hlen ih hr hrd hall htl hzl hzc hzm
 go_enter Tryz.func105,Tryz.ntmps105
 go_wp2_with fail
 go_loopw [0,11] (fun bv' iv wr=>∃ i:Nat,iv = .int .i64 (i:Int)∧i≤l.length∧Hid (Ob B wr bv' (xs++innF sg ts i))∧Hid (Gw v w bv' wr)) (fun _ iv _=>(200000 - intOf iv).toNat)
 case atStart=>exact ⟨0,rfl,Nat.zero_le _,Lib.hid (HOWN.out.cast (by simp [innF])),Lib.hid (Gw.refl _ _)⟩
 case round =>
  obtain ⟨i,rfl,hi,HO,HG⟩:=hrel
  have hiI:(i:Int)≤100000:=by omega
  by_cases hlt:i<l.length
  ·have q1:decide ((i:Int)<(l.length:Int))=true:=decide_eq_true (by omega)
   have q2:(i:Int)<(l.length:Int):=by omega
   have hr2:=HR.out.gw HG.out
   obtain ⟨A',ac',zs,hlv,hzl,hzc,hzm,hrd,hall⟩:=hr2.sl conA_size
   injection hlv with h1 h2 h3
   subst h1 h3
   obtain ⟨g2,rfl,hg2,hcs⟩:=hrd (by omega)
   obtain ⟨Z,hZ⟩:∃ Z,zs[i]'(by omega)=Z:=⟨_,rfl⟩
   have hrc:RC n wr (No u0) Z l[i]:=by
    have:=hall.at_ i (by omega) hlt
    rw [hZ] at this
    exact this.but
   obtain ⟨hst,hle⟩:=innF_step sg ts i (by rw [HTL.out];exact hlt)
   have hte:ts[i]'(by rw [HTL.out];exact hlt)=constF tenS sh n l[i]:=by simp only [← hts.out,List.getElem_map]
   rw [hte] at hst hle
   have hx:=HLEN.out
   rw [← HTL.out] at hx
   obtain ⟨E,hE⟩:∃ E,Hid (constF tenS sh n l[i]=E):=⟨_,Lib.hid rfl⟩
   rw [hE.out] at hst hle
   have HST:=Lib.hid hst
   have HSUM:Hid ((xs.length:Int)+(innF sg ts i).length+(sepF sg i).length+E.length≤64000):=by unfold Hid;omega
   obtain ⟨ek,ei,ed,es,el⟩:=Z
   obtain ⟨lA,lk,lc,rfl⟩:∃ A k cap,el = .slice A k cap:=hrc.slv
   have hcell:∀ j,j<5→wr.cell? ⟨g2,i * 5+j,none⟩=(conA ⟨ek,ei,ed,es,.slice lA lk lc⟩)[j]?:=fun j hj=>by rw [hcs i (by omega) j hj,hZ]
   have e0:wr.cell? ⟨g2,i * 5,none⟩=some (.int .i64 (ek:Int)):=hcell 0 (by decide)
   have e1:wr.cell? ⟨g2,i * 5+1,none⟩=some (.int .i64 ei):=hcell 1 (by decide)
   have e2:wr.cell? ⟨g2,i * 5+2,none⟩=some (.int .u64 (ed:Int)):=hcell 2 (by decide)
   have e3:wr.cell? ⟨g2,i * 5+3,none⟩=some (.string ⟨es.toArray⟩):=hcell 3 (by decide)
   have e4:wr.cell? ⟨g2,i * 5+4,none⟩=some (.slice lA lk lc):=hcell 4 (by decide)
   have HRC:=Lib.hid hrc
   clear hst hle hx hte hcs hcell hrd hall hr2 hZ hrc hzl hzc hzm
   obtain ⟨g,hg⟩:∃ g,wr.heap.size=g:=⟨_,rfl⟩
   go_upto_region 4 with fail
   have hB4:=Blk.new wr #[.int .i64 (ek:Int),.int .i64 ei,.int .u64 (ed:Int),.string ⟨es.toArray⟩,.slice lA lk lc] 48
   rw [hg] at hB4
   have hn4:Nx wr (wr.alloc (.cells #[.int .i64 (ek:Int),.int .i64 ei,.int .u64 (ed:Int),.string ⟨es.toArray⟩,.slice lA lk lc] 48)):=nx0 _ _
   generalize World.alloc wr _=W1 at *
   have HO1:=Lib.hid (HO.out.nx hn4)
   have HG1:=Lib.hid (HG.out.trans (Gw.nx hn4 u0))
   have HRC1:Hid (RC n W1 (No u0) ⟨ek,ei,ed,es,.slice lA lk lc⟩ l[i]):=HRC.out.gw (Gw.nx hn4 u0)
   have hne:u0.ownBlock≠some g:=by rw [← hg];exact HO.out.new
   have HB4:=Lib.hid hB4
   have HNE:=Lib.hid hne
   obtain ⟨bA,bc,hu0,-,-,-⟩:=HO1.out.sl
   obtain ⟨L,hL⟩:∃ L,Hid ((xs++innF sg ts i).length=L):=⟨_,Lib.hid rfl⟩
   rw [hL.out] at hu0
   subst hu0
   have hLb:(L:Int)+(sepF sg i).length+E.length≤64000:=by
    have:=HSUM.out
    rw [← hL.out,List.length_append];omega
   have b1:decide ((L:Int) > 64000)=false:=decide_eq_false (by omega)
   have b2:¬ 64000<L:=by omega
   have HLB:=Lib.hid hLb
   clear hB4 hn4 hne hg HRC HO HG e0 e1 e2 e3 e4 hLb
   go_upto_block 2 with fail
   go_cut [0] (fun v wx=>Hid (Ob B wx v (xs++innF sg ts i++sepF sg i))∧Hid (Gw (.slice bA L bc) W1 v wx))
   case first =>
    by_cases h1:i % 2=1
    ·have hsep:sepF sg i=sg:=by unfold sepF;rw [if_pos h1]
     have hrem:(i:Int).tmod 2=1:=by rw [show (2:Int)=((2:Nat):Int) from rfl,← Int.ofNat_tmod,h1];rfl
     have hz:(L:Int)+(sg.length:Int)≤1000000000:=by have:=HSG.out;have:=HLB.out;omega
     rw [← hL.out] at hz
     clear h1
     go_wp2_with (refine wpList_apS _ rfl _ _ rfl _ (xs++innF sg ts i) rfl HO1.out s sg HS.out rfl hz ?_;intro v1 w1 ho hg;have HO2:=Lib.hid ho;have HG2:=Lib.hid hg;clear ho hg)
     go_meet
     case rel=>exact ⟨by rw [hsep];exact HO2,HG2⟩
    ·have hrem:(i:Int).tmod 2=0:=by rw [show (2:Int)=((2:Nat):Int) from rfl,← Int.ofNat_tmod,show i % 2=0 by omega];rfl
     by_cases h0:0<i
     ·have hsep:sepF sg i=[44,32]:=by unfold sepF;rw [if_neg h1,if_pos h0]
      have b3:decide ((i:Int) > 0)=true:=decide_eq_true (by omega)
      have hz:(L:Int)+(([44,32]:List UInt8).length:Int)≤1000000000:=by have:=HLB.out;simp;omega
      rw [← hL.out] at hz
      clear h1
      go_wp2_with (refine wpList_apS _ rfl _ _ rfl _ (xs++innF sg ts i) rfl HO1.out ⟨#[44,32]⟩ [44,32] (Tx.of _) rfl hz ?_;intro v1 w1 ho hg;have HO2:=Lib.hid ho;have HG2:=Lib.hid hg;clear ho hg)
      go_meet
      case rel=>exact ⟨by rw [hsep];exact HO2,HG2⟩
     ·obtain rfl:i=0:=by omega
      have hsep:sepF sg 0=[]:=rfl
      clear h1
      go_wp2_with fail
      go_meet
      case rel=>exact ⟨by rw [hsep,List.append_nil];exact HO1,Lib.hid (Gw.refl _ _)⟩
   case rest =>
    obtain ⟨HO2,HG2⟩:=hcut
    obtain ⟨hB5,hne5⟩:=HG2.out.blk HB4.out HNE.out
    have c0:wc.cell? ⟨g,0,none⟩=some (.int .i64 (ek:Int)):=hB5.cell 0
    have c1:wc.cell? ⟨g,1,none⟩=some (.int .i64 ei):=hB5.cell 1
    have c2:wc.cell? ⟨g,2,none⟩=some (.int .u64 (ed:Int)):=hB5.cell 2
    have c3:wc.cell? ⟨g,3,none⟩=some (.string ⟨es.toArray⟩):=hB5.cell 3
    have c4:wc.cell? ⟨g,4,none⟩=some (.slice lA lk lc):=hB5.cell 4
    have hcall:=HIH.out B wc u0 (xs++innF sg ts i++sepF sg i) ⟨ek,ei,ed,es,.slice lA lk lc⟩ l[i] HO2.out (HT.out.on ((HG1.out.trans HG2.out).below HOWN.out)) (HRC1.out.gw HG2.out) (HOK.out _ (List.getElem_mem hlt))
     (by rw [hE.out];have:=HSUM.out;rw [List.length_append,List.length_append];omega)
    rw [hE.out] at hcall
    have HCALL:=Lib.hid hcall
    clear hB5 hne5 hcall
    go_wp2_with fail
    refine HCALL.out.mono ?_;rintro e w5 ⟨v5,rfl,ho,hg5⟩
    have HO5:=Lib.hid ho;have HG5:=Lib.hid ((HG1.out.trans HG2.out).trans hg5);clear ho hg5
    go_wp2_with fail
    go_roundw
    case rel=>exact ⟨i+1,by go_num,hlt,Lib.hid (HO5.out.cast (by rw [HST.out];simp only [List.append_assoc])),HG5⟩
    case measure=>simp [intOf];omega
  ·obtain rfl:i=l.length:=by omega
   have q1:decide ((l.length:Int)<(l.length:Int))=false:=decide_eq_false (by omega)
   clear hlt hi
   go_wp2_with fail
   go_ret
   exact ⟨_,rfl,HO.out,HG.out⟩
end Go.Proofs.YtjggghfekakogaaGreatDoor
namespace Go.Proofs.YtjggghfekakogaaGreatDoor
open Go.RowKit
def updB (q:Nat→Bool) (i:Nat):Nat→Bool:=fun j=>if j=i then true else q j
theorem getD_upd {ls:Array Bool} {i:Nat} (h:i<ls.size):(fun j=>(ls.setIfInBounds i true).getD j false)=updB (fun j=>ls.getD j false) i:=by
 funext j
 unfold updB
 by_cases hj:j=i
 ·subst hj;rw [if_pos rfl];simp [h]
 ·rw [if_neg hj,getD_set_ne false (Ne.symm hj)]
def OneS (cv:Value) (w:World) (c:UInt8) (v:Value):Prop:=∃ h,v = .slice (some ⟨h,0,none⟩) 1 1∧Blk w h h #[bv c] 5∧cv.ownBlock≠some h
theorem OneS.nx {cv:Value} {w w':World} {c:UInt8} {v:Value} (h:OneS cv w c v) (hn:Nx w w'):OneS cv w' c v:=by
 obtain ⟨g,h1,h2,h3⟩:=h
 exact ⟨g,h1,h2.below hn,h3⟩
theorem OneS.gw {cv cv':Value} {w w':World} {c:UInt8} {v:Value} (h:OneS cv w c v) (hg:Gw cv w cv' w'):OneS cv' w' c v:=by
 obtain ⟨g,h1,h2,h3⟩:=h
 obtain ⟨h4,h5⟩:=hg.blk h2 h3
 exact ⟨g,h1,h4,h5⟩
theorem OneS.new {B:Nat} {cv:Value} {w:World} {ct:List UInt8} (h:Ob B w cv ct) (c:UInt8):OneS cv (w.alloc (.cells #[bv c] 5)) c (.slice (some ⟨w.heap.size,0,none⟩) 1 1) :=
 ⟨_,rfl,Blk.new _ _ _,h.new⟩
structure LsV (B g:Nat) (v lv:Value) (xs I:List UInt8) (c0 c1:UInt8) (W:World) (q:Nat→Bool) (x:Nat→Value) (w:World) (cv:Value) (ct:List UInt8):Prop where
 ob:Ob B w cv ct
 gw:Gw v W cv w
 x0:q 0=true→x 0=v
 x1:q 1=true→OneS cv w c0 (x 1)
 x3:q 3=true→x 3 = .pointer (some ⟨g,4,none⟩)
 x4:q 4=true→x 4=lv
 x6:q 6=true→OneS cv w c1 (x 6)
 o2:q 2=false→cv=v∧ct=xs
 o5:q 2=true→q 5=false→cv=x 2∧ct=xs++[c0]
 o7:q 5=true→q 7=false→cv=x 5∧ct=xs++[c0]++I
 x7:q 7=true→cv=x 7∧ct=xs++[c0]++I++[c1]
 x8:q 8=true→x 8=x 7
def LsS (B g:Nat) (v lv:Value) (xs I:List UInt8) (c0 c1:UInt8) (W:World) (ls:Array Bool) (x:Nat→Value) (w:World):Prop:=∃ cv ct,LsV B g v lv xs I c0 c1 W (fun j=>ls.getD j false) x w cv ct
section
variable {B g:Nat} {v lv:Value} {xs I:List UInt8} {c0 c1:UInt8} {W:World} {q:Nat→Bool} {x:Nat→Value} {w w':World} {cv cv':Value} {ct:List UInt8}
theorem LsV.set0 (h:LsV B g v lv xs I c0 c1 W q x w cv ct):LsV B g v lv xs I c0 c1 W (updB q 0) (RI.upd x 0 v) w cv ct where
 ob:=h.ob
 gw:=h.gw
 x0:=fun _=>RI.upd_same _ _ _
 x1:=by simpa [RI.upd,updB] using h.x1
 x3:=by simpa [RI.upd,updB] using h.x3
 x4:=by simpa [RI.upd,updB] using h.x4
 x6:=by simpa [RI.upd,updB] using h.x6
 o2:=by simpa [RI.upd,updB] using h.o2
 o5:=by simpa [RI.upd,updB] using h.o5
 o7:=by simpa [RI.upd,updB] using h.o7
 x7:=by simpa [RI.upd,updB] using h.x7
 x8:=by simpa [RI.upd,updB] using h.x8
theorem LsV.set3 (h:LsV B g v lv xs I c0 c1 W q x w cv ct):LsV B g v lv xs I c0 c1 W (updB q 3) (RI.upd x 3 (.pointer (some ⟨g,4,none⟩))) w cv ct where
 ob:=h.ob
 gw:=h.gw
 x0:=by simpa [RI.upd,updB] using h.x0
 x1:=by simpa [RI.upd,updB] using h.x1
 x3:=fun _=>RI.upd_same _ _ _
 x4:=by simpa [RI.upd,updB] using h.x4
 x6:=by simpa [RI.upd,updB] using h.x6
 o2:=by simpa [RI.upd,updB] using h.o2
 o5:=by simpa [RI.upd,updB] using h.o5
 o7:=by simpa [RI.upd,updB] using h.o7
 x7:=by simpa [RI.upd,updB] using h.x7
 x8:=by simpa [RI.upd,updB] using h.x8
theorem LsV.set4 (h:LsV B g v lv xs I c0 c1 W q x w cv ct):LsV B g v lv xs I c0 c1 W (updB q 4) (RI.upd x 4 lv) w cv ct where
 ob:=h.ob
 gw:=h.gw
 x0:=by simpa [RI.upd,updB] using h.x0
 x1:=by simpa [RI.upd,updB] using h.x1
 x3:=by simpa [RI.upd,updB] using h.x3
 x4:=fun _=>RI.upd_same _ _ _
 x6:=by simpa [RI.upd,updB] using h.x6
 o2:=by simpa [RI.upd,updB] using h.o2
 o5:=by simpa [RI.upd,updB] using h.o5
 o7:=by simpa [RI.upd,updB] using h.o7
 x7:=by simpa [RI.upd,updB] using h.x7
 x8:=by simpa [RI.upd,updB] using h.x8
theorem LsV.set8 (h:LsV B g v lv xs I c0 c1 W q x w cv ct):LsV B g v lv xs I c0 c1 W (updB q 8) (RI.upd x 8 (x 7)) w cv ct where
 ob:=h.ob
 gw:=h.gw
 x0:=by simpa [RI.upd,updB] using h.x0
 x1:=by simpa [RI.upd,updB] using h.x1
 x3:=by simpa [RI.upd,updB] using h.x3
 x4:=by simpa [RI.upd,updB] using h.x4
 x6:=by simpa [RI.upd,updB] using h.x6
 o2:=by simpa [RI.upd,updB] using h.o2
 o5:=by simpa [RI.upd,updB] using h.o5
 o7:=by simpa [RI.upd,updB] using h.o7
 x7:=by simpa [RI.upd,updB] using h.x7
 x8:=by simp [RI.upd,updB]
theorem LsV.set1 (h:LsV B g v lv xs I c0 c1 W q x w cv ct):LsV B g v lv xs I c0 c1 W (updB q 1) (RI.upd x 1 (.slice (some ⟨w.heap.size,0,none⟩) 1 1)) (w.alloc (.cells #[bv c0] 5)) cv ct where
 ob:=h.ob.nx (nx0 _ _)
 gw:=h.gw.trans (Gw.nx (nx0 _ _) _)
 x0:=by simpa [RI.upd,updB] using h.x0
 x1:=fun _=>by rw [RI.upd_same];exact OneS.new h.ob c0
 x3:=by simpa [RI.upd,updB] using h.x3
 x4:=by simpa [RI.upd,updB] using h.x4
 x6:=fun k=>by rw [RI.upd_ne _ _ _ _ (by decide)];exact (h.x6 (by simpa [updB] using k)).nx (nx0 _ _)
 o2:=by simpa [RI.upd,updB] using h.o2
 o5:=by simpa [RI.upd,updB] using h.o5
 o7:=by simpa [RI.upd,updB] using h.o7
 x7:=by simpa [RI.upd,updB] using h.x7
 x8:=by simpa [RI.upd,updB] using h.x8
theorem LsV.set6 (h:LsV B g v lv xs I c0 c1 W q x w cv ct):LsV B g v lv xs I c0 c1 W (updB q 6) (RI.upd x 6 (.slice (some ⟨w.heap.size,0,none⟩) 1 1)) (w.alloc (.cells #[bv c1] 5)) cv ct where
 ob:=h.ob.nx (nx0 _ _)
 gw:=h.gw.trans (Gw.nx (nx0 _ _) _)
 x0:=by simpa [RI.upd,updB] using h.x0
 x1:=fun k=>by rw [RI.upd_ne _ _ _ _ (by decide)];exact (h.x1 (by simpa [updB] using k)).nx (nx0 _ _)
 x3:=by simpa [RI.upd,updB] using h.x3
 x4:=by simpa [RI.upd,updB] using h.x4
 x6:=fun _=>by rw [RI.upd_same];exact OneS.new h.ob c1
 o2:=by simpa [RI.upd,updB] using h.o2
 o5:=by simpa [RI.upd,updB] using h.o5
 o7:=by simpa [RI.upd,updB] using h.o7
 x7:=by simpa [RI.upd,updB] using h.x7
 x8:=by simpa [RI.upd,updB] using h.x8
theorem LsV.set2 (h:LsV B g v lv xs I c0 c1 W q x w cv ct) (n5:q 5=false) (n7:q 7=false) (ho:Ob B w' cv' (xs++[c0])) (hg:Gw cv w cv' w'):LsV B g v lv xs I c0 c1 W (updB q 2) (RI.upd x 2 cv') w' cv' (xs++[c0]) where
 ob:=ho
 gw:=h.gw.trans hg
 x0:=by simpa [RI.upd,updB] using h.x0
 x1:=fun k=>by rw [RI.upd_ne _ _ _ _ (by decide)];exact (h.x1 (by simpa [updB] using k)).gw hg
 x3:=by simpa [RI.upd,updB] using h.x3
 x4:=by simpa [RI.upd,updB] using h.x4
 x6:=fun k=>by rw [RI.upd_ne _ _ _ _ (by decide)];exact (h.x6 (by simpa [updB] using k)).gw hg
 o2:=by simp [updB]
 o5:=fun _ _=>⟨(RI.upd_same _ _ _).symm,rfl⟩
 o7:=fun k=>by simp [updB,n5] at k
 x7:=fun k=>by simp [updB,n7] at k
 x8:=by simpa [RI.upd,updB] using h.x8
theorem LsV.set5 (h:LsV B g v lv xs I c0 c1 W q x w cv ct) (y2:q 2=true) (n7:q 7=false) (ho:Ob B w' cv' (xs++[c0]++I)) (hg:Gw cv w cv' w'):LsV B g v lv xs I c0 c1 W (updB q 5) (RI.upd x 5 cv') w' cv' (xs++[c0]++I) where
 ob:=ho
 gw:=h.gw.trans hg
 x0:=by simpa [RI.upd,updB] using h.x0
 x1:=fun k=>by rw [RI.upd_ne _ _ _ _ (by decide)];exact (h.x1 (by simpa [updB] using k)).gw hg
 x3:=by simpa [RI.upd,updB] using h.x3
 x4:=by simpa [RI.upd,updB] using h.x4
 x6:=fun k=>by rw [RI.upd_ne _ _ _ _ (by decide)];exact (h.x6 (by simpa [updB] using k)).gw hg
 o2:=fun k=>by simp [updB,y2] at k
 o5:=fun _ k=>by simp [updB] at k
 o7:=fun _ _=>⟨(RI.upd_same _ _ _).symm,rfl⟩
 x7:=fun k=>by simp [updB,n7] at k
 x8:=by simpa [RI.upd,updB] using h.x8
theorem LsV.set7 (h:LsV B g v lv xs I c0 c1 W q x w cv ct) (y2:q 2=true) (y5:q 5=true) (n8:q 8=false) (ho:Ob B w' cv' (xs++[c0]++I++[c1])) (hg:Gw cv w cv' w'):LsV B g v lv xs I c0 c1 W (updB q 7) (RI.upd x 7 cv') w' cv' (xs++[c0]++I++[c1]) where
 ob:=ho
 gw:=h.gw.trans hg
 x0:=by simpa [RI.upd,updB] using h.x0
 x1:=fun k=>by rw [RI.upd_ne _ _ _ _ (by decide)];exact (h.x1 (by simpa [updB] using k)).gw hg
 x3:=by simpa [RI.upd,updB] using h.x3
 x4:=by simpa [RI.upd,updB] using h.x4
 x6:=fun k=>by rw [RI.upd_ne _ _ _ _ (by decide)];exact (h.x6 (by simpa [updB] using k)).gw hg
 o2:=fun k=>by simp [updB,y2] at k
 o5:=fun _ k=>by simp [updB,y5] at k
 o7:=fun _ k=>by simp [updB] at k
 x7:=fun _=>⟨(RI.upd_same _ _ _).symm,rfl⟩
 x8:=fun k=>by simp [updB,n8] at k
end
end Go.Proofs.YtjggghfekakogaaGreatDoor
namespace Go.Proofs.YtjggghfekakogaaGreatDoor
open Go.RowKit
set_option maxRecDepth 100000 in
set_option maxHeartbeats 6400000 in
theorem appendConst_step {sh:Nat→List UInt8} (hsh:∀ B l,ShowR B l→l=sh B) (n:Nat) (ih:CoP sh n):CoP sh (n+1):=by
 intro B w v xs x c hown ht hr hok hlen
 obtain ⟨k,i,d,s,l⟩:=c
 obtain ⟨xk,xi,xd,xs',xl⟩:=x
 obtain ⟨rfl,rfl,rfl,rfl,hrl⟩:xk=k∧xi=i∧xd=d∧xs'=s∧LC n w (No v) xl l:=hr
 obtain ⟨⟨hk1,hk6⟩,hev,⟨hi1,hi2⟩,hd,hll,hoks⟩:=hok
 obtain ⟨A,ac,-,hxl,-,-,-,-,-⟩:=RepL.sl conA_size hrl
 have HRL:=Lib.hid hrl
 subst hxl
 obtain ⟨F,hF⟩:∃ F,Hid (constF tenS sh (n+1) (.mk xk xi xd xs' l)=F):=⟨_,Lib.hid rfl⟩
 rw [hF.out] at hlen ⊢
 have HIH:=Lib.hid ih
 have HSH:=Lib.hid hsh
 have HOK:=Lib.hid hoks
 have HLEN:=Lib.hid hlen
 have HOWN:=Lib.hid hown
 have HT:=Lib.hid ht
 obtain ⟨g,hg⟩:∃ g,w.heap.size=g:=⟨_,rfl⟩
 have hB:=Blk.new w #[.int .i64 (xk:Int),.int .i64 xi,.int .u64 (xd:Int),.string ⟨xs'.toArray⟩,.slice A l.length ac] 48
 rw [hg] at hB
 have hne:v.ownBlock≠some g:=by rw [← hg];exact hown.new
 have hn0:Nx w (w.alloc (.cells #[.int .i64 (xk:Int),.int .i64 xi,.int .u64 (xd:Int),.string ⟨xs'.toArray⟩,.slice A l.length ac] 48)):=nx0 _ _
 have HB:=Lib.hid hB
 have HN0:=Lib.hid hn0
 have HNE:=Lib.hid hne
 clear hrl hlen hoks ih hB hn0 hne hown ht hsh
 show Calls _ _ #[v,.agg #[.int .i64 (xk:Int),.int .i64 xi,.int .u64 (xd:Int),.string ⟨xs'.toArray⟩,.slice A l.length ac]] _ _
 go_enter Tryz.func52,Tryz.ntmps52
 go_upto_region 1 with fail
 generalize World.alloc w _=W at *
 have HO:=Lib.hid (HOWN.out.nx HN0.out)
 have HTW:=Lib.hid (HT.out.on ((Gw.nx HN0.out v).below HOWN.out))
 have c0:W.cell? ⟨g,0,none⟩=some (.int .i64 (xk:Int)):=HB.out.cell 0
 have c1:W.cell? ⟨g,1,none⟩=some (.int .i64 xi):=HB.out.cell 1
 have c2:W.cell? ⟨g,2,none⟩=some (.int .u64 (xd:Int)):=HB.out.cell 2
 have c3:W.cell? ⟨g,3,none⟩=some (.string ⟨xs'.toArray⟩):=HB.out.cell 3
 have c4:W.cell? ⟨g,4,none⟩=some (.slice A l.length ac):=HB.out.cell 4
 clear hg
 by_cases h1:xk=1
 ·subst h1
  obtain rfl:F=tenS xi:=hF.out.symm
  have hx:=HLEN.out
  go_wp2_with fail
  refine (appendInt_any B xi v xs W hi1 hi2 HO.out HTW.out (by omega)).mono ?_;rintro e w2 ⟨v2,rfl,ho,hg⟩
  have HO2:=Lib.hid ho;have HG2:=Lib.hid ((Gw.nx HN0.out v).trans hg);clear ho hg
  go_wp2_with fail
  go_ret
  exact ⟨v2,rfl,HO2.out,HG2.out⟩
 have b1:((xk:Int) == 1)=false:=by rw [beq_eq_false_iff_ne];omega
 have b1':¬ (xk:Int)=1:=by omega
 by_cases h2:xk=2
 ·subst h2
  obtain rfl:F=sh xd:=hF.out.symm
  have hx:(xs.length:Int)+((sh xd).length:Int)≤1000000000:=by have:=HLEN.out;omega
  go_wp2_with fail
  refine (dshow_any xd W hd HTW.out.here).mono ?_;rintro e w2 ⟨t,lt,rfl,HTX,hS,hn2⟩
  obtain rfl:lt=sh xd:=HSH.out _ _ hS.out
  have HO2:=Lib.hid (HO.out.nx hn2)
  have HG2:=Lib.hid (Gw.nx (HN0.out.trans hn2) v)
  clear hS hn2
  go_wp2_with (refine wpList_apS _ rfl _ _ rfl v xs rfl HO2.out t (sh xd) HTX.out rfl hx ?_;intro v3 w3 ho hg;have HO3:=Lib.hid ho;have HG3:=Lib.hid (HG2.out.trans hg);clear ho hg)
  go_ret
  exact ⟨v3,rfl,HO3.out,HG3.out⟩
 have b2:((xk:Int) == 2)=false:=by rw [beq_eq_false_iff_ne];omega
 have b2':¬ (xk:Int)=2:=by omega
 by_cases h3:xk=3
 ·subst h3
  have hF3:F=if xs'.contains 34 then 39 :: (xs'++[39]) else 34 :: (xs'++[34]):=hF.out.symm
  have hFl:F.length=xs'.length+2:=by rw [hF3];split <;> simp
  have hx:(xs.length:Int)+(xs'.length:Int)≤10000000:=by have:=HLEN.out;omega
  have HF3:=Lib.hid hF3
  clear hF3 hFl
  go_wp2_with fail
  refine (appendQuoted_any B ⟨xs'.toArray⟩ xs' v xs W (Tx.of _) HO.out hx).mono ?_;rintro e w2 ⟨v2,rfl,ho,hg⟩
  rw [← HF3.out] at ho
  have HO2:=Lib.hid ho;have HG2:=Lib.hid ((Gw.nx HN0.out v).trans hg);clear ho hg
  go_wp2_with fail
  go_ret
  exact ⟨v2,rfl,HO2.out,HG2.out⟩
 have b3:((xk:Int) == 3)=false:=by rw [beq_eq_false_iff_ne];omega
 have b3':¬ (xk:Int)=3:=by omega
 by_cases h4:xk=4
 ·subst h4
  obtain rfl:F=xs':=hF.out.symm
  have hx:(xs.length:Int)+(F.length:Int)≤1000000000:=by have:=HLEN.out;omega
  go_wp2_with (refine wpList_apS _ rfl _ _ rfl v xs rfl HO.out ⟨F.toArray⟩ F (Tx.of _) rfl hx ?_;intro v3 w3 ho hg;have HO3:=Lib.hid ho;have HG3:=Lib.hid ((Gw.nx HN0.out v).trans hg);clear ho hg)
  go_ret
  exact ⟨v3,rfl,HO3.out,HG3.out⟩
 have b4:((xk:Int) == 4)=false:=by rw [beq_eq_false_iff_ne];omega
 have b4':¬ (xk:Int)=4:=by omega
 by_cases h5:xk=5
 ·subst h5
  have hF5:F=91 :: (commaF (l.map (constF tenS sh n))++[93]):=hF.out.symm
  obtain ⟨I,hI⟩:∃ I,Hid (innF [44,32] (l.map (constF tenS sh n)) l.length=I):=⟨_,Lib.hid rfl⟩
  have hII:commaF (l.map (constF tenS sh n))=I:=by
   rw [← hI.out]
   have h:=innF_list (l.map (constF tenS sh n)) l.length (by rw [List.length_map];exact Nat.le_refl _)
   rw [h,List.take_of_length_le (by rw [List.length_map];exact Nat.le_refl _)]
  rw [hII] at hF5
  have HF5:Hid (xs++F=xs++[91]++I++[93]):=by unfold Hid;rw [hF5];simp
  have hlI:(xs.length:Int)+(I.length:Int)+2≤64000:=by
   have h:=HLEN.out
   rw [hF5] at h
   simp only [List.length_append,List.length_cons,List.length_nil] at h
   omega
  have HLI:=Lib.hid hlI
  obtain ⟨LV,hLV⟩:∃ LV,Hid (LV=Value.slice A l.length ac):=⟨_,Lib.hid rfl⟩
  clear hF5 hII hlI
  go_upto_region 11 with fail
  refine RI.wp_region_X (LsS B g v LV xs I 91 93 W) rfl (by kernel_rfl) (by kernel_rfl) ?_ ?_ ?_
  ·intro x
   refine ⟨v,xs,?_⟩
   have e:(fun j=>(Array.replicate 9 false).getD j false)=fun _=>false:=by
    funext j
    rw [Array.getD_eq_getD_getElem?]
    cases h:(Array.replicate 9 false)[j]? with
    | none=>rfl
    | some b =>
     obtain ⟨h1,h2⟩:=Array.getElem?_eq_some_iff.1 h
     simp at h2
     simp [← h2]
   show LsV B g v LV xs I 91 93 W (fun j=>(Array.replicate 9 false).getD j false) x _ v xs
   rw [e]
   exact ⟨HO.out.nx (Nx.drawn _),Gw.nx (Nx.drawn _) _,(fun h=>by cases h),(fun h=>by cases h),(fun h=>by cases h),(fun h=>by cases h),(fun h=>by cases h),fun _=>⟨rfl,rfl⟩,(fun h=>by cases h),(fun h=>by cases h),(fun h=>by cases h),(fun h=>by cases h)⟩
  ·refine ⟨?_,?_,?_,?_,?_,?_,?_,?_,?_,trivial⟩
   ·intro a x ls w' hS hsz hni hcl hin hout hd K hK
    obtain ⟨cv,ct,hS⟩:=hS
    have o:a.eval (.tmp 0)=v:=hout 0 (by kernel_rfl)
    have:=hK w' v ⟨cv,ct,by rw [getD_upd (by rw [hsz];decide)];exact hS.set0⟩
    rw [← o] at this
    exact this
   ·intro a x ls w' hS hsz hni hcl hin hout hd K hK
    obtain ⟨cv,ct,hS⟩:=hS
    have:=hK _ _ ⟨cv,ct,by rw [getD_upd (by rw [hsz];decide)];exact hS.set1⟩
    clear hin hout hd hcl hS hK
    go_simp
    exact this
   ·intro a x ls w' hS hsz hni hcl hin hout hd K hK
    obtain ⟨cv,ct,hS⟩:=hS
    have n2:ls.getD 2 false=false:=RI.off_of (by rw [hsz];decide) hni
    have n5:ls.getD 5 false=false:=hcl.not 20 5 2 (by kernel_rfl) hni
    have n7:ls.getD 7 false=false:=hcl.not 20 7 2 (by kernel_rfl) hni
    have y0:=hd ⟨0,.data⟩ (by simp) rfl
    have y1:=hd ⟨1,.data⟩ (by simp) rfl
    obtain ⟨rfl,rfl⟩:=hS.o2 n2
    obtain ⟨h,k1,k2,k3⟩:=hS.x1 y1
    have i0:a.eval (.tmp 34)=cv:=(hin 34 0 (by kernel_rfl) (show 34<53 by decide)).trans (hS.x0 y0)
    have i1:a.eval (.tmp 35) = .slice (some ⟨h,0,none⟩) 1 1:=(hin 35 1 (by kernel_rfl) (show 35<53 by decide)).trans k1
    refine op_ap1 w' (.tmp 34) (.tmp 35) rfl cv ct i0 hS.ob h 91 i1 (k2.cell 0) (by have:=HLI.out;omega) fun v' w2 ho hg=>?_
    exact hK w2 v' ⟨v',_,by rw [getD_upd (by rw [hsz];decide)];exact hS.set2 n5 n7 ho hg⟩
   ·intro a x ls w' hS hsz hni hcl hin hout hd K hK
    obtain ⟨cv,ct,hS⟩:=hS
    have i3:a.tmps.getD 3 undef = .pointer (some ⟨g,0,none⟩):=hout 3 (by kernel_rfl)
    have j3:=i3
    rw [Array.getD_eq_getD_getElem?] at j3
    have:=hK _ _ ⟨cv,ct,by rw [getD_upd (by rw [hsz];decide)];exact hS.set3⟩
    clear hin hout hd hcl hS hK
    go_simp
    exact this
   ·intro a x ls w' hS hsz hni hcl hin hout hd K hK
    obtain ⟨cv,ct,hS⟩:=hS
    have y3:=hd ⟨3,.data⟩ (by simp) rfl
    have i3:a.tmps.getD 37 undef = .pointer (some ⟨g,4,none⟩):=(hin 37 3 (by kernel_rfl) (show 37<53 by decide)).trans (hS.x3 y3)
    have j3:=i3
    rw [Array.getD_eq_getD_getElem?] at j3
    obtain ⟨hb2,-⟩:=hS.gw.blk HB.out HNE.out
    have k4:w'.cell? ⟨g,4,none⟩=some (.slice A l.length ac):=hb2.cell 4
    have:=hK _ _ ⟨cv,ct,by rw [getD_upd (by rw [hsz];decide)];exact hS.set4⟩
    rw [hLV.out] at this
    clear hin hout hd hcl hS hK hb2
    go_simp
    exact this
   ·intro a x ls w' hS hsz hni hcl hin hout hd K hK
    obtain ⟨cv,ct,hS⟩:=hS
    have n5:ls.getD 5 false=false:=RI.off_of (by rw [hsz];decide) hni
    have n7:ls.getD 7 false=false:=hcl.not 20 7 5 (by kernel_rfl) hni
    have y2:=hd ⟨2,.data⟩ (by simp) rfl
    have y4:=hd ⟨4,.data⟩ (by simp) rfl
    obtain ⟨e2,rfl⟩:=hS.o5 y2 n5
    have i2:a.tmps.getD 36 undef=cv:=(hin 36 2 (by kernel_rfl) (show 36<53 by decide)).trans e2.symm
    have i4:a.tmps.getD 38 undef = .slice A l.length ac:=((hin 38 4 (by kernel_rfl) (show 38<53 by decide)).trans (hS.x4 y4)).trans hLV.out
    have j2:=i2
    rw [Array.getD_eq_getD_getElem?] at j2
    have j4:=i4
    rw [Array.getD_eq_getD_getElem?] at j4
    have hcall:=appendInner_any HIH.out B w' cv (.slice A l.length ac) (xs++[91]) [44,32] l ⟨#[44,32]⟩ (Tx.of _) rfl hS.ob (HT.out.on (((Gw.nx HN0.out v).trans hS.gw).below HOWN.out)) (HRL.out.gw ((Gw.nx HN0.out v).trans hS.gw)) hll HOK.out
     (by rw [hI.out];have:=HLI.out;rw [List.length_append];simp only [List.length_cons,List.length_nil];omega)
    rw [hI.out] at hcall
    have HC:=Lib.hid hcall
    have HS:=Lib.hid hS
    have HK:=Lib.hid hK
    clear hin hout hd hcl hS hcall hK e2
    go_simp
    refine HC.out.mono ?_;rintro e w2 ⟨v2,rfl,ho,hg⟩
    exact HK.out w2 v2 ⟨v2,_,by rw [getD_upd (by rw [hsz];decide)];exact HS.out.set5 y2 n7 ho hg⟩
   ·intro a x ls w' hS hsz hni hcl hin hout hd K hK
    obtain ⟨cv,ct,hS⟩:=hS
    have:=hK _ _ ⟨cv,ct,by rw [getD_upd (by rw [hsz];decide)];exact hS.set6⟩
    clear hin hout hd hcl hS hK
    go_simp
    exact this
   ·intro a x ls w' hS hsz hni hcl hin hout hd K hK
    obtain ⟨cv,ct,hS⟩:=hS
    have n7:ls.getD 7 false=false:=RI.off_of (by rw [hsz];decide) hni
    have n8:ls.getD 8 false=false:=hcl.not 20 8 7 (by kernel_rfl) hni
    have y5:=hd ⟨5,.data⟩ (by simp) rfl
    have y6:=hd ⟨6,.data⟩ (by simp) rfl
    have y2:ls.getD 2 false=true:=hcl.reach 20 5 2 (by kernel_rfl) y5
    obtain ⟨e5,rfl⟩:=hS.o7 y5 n7
    obtain ⟨h,k1,k2,k3⟩:=hS.x6 y6
    have i0:a.eval (.tmp 39)=cv:=(hin 39 5 (by kernel_rfl) (show 39<53 by decide)).trans e5.symm
    have i1:a.eval (.tmp 40) = .slice (some ⟨h,0,none⟩) 1 1:=(hin 40 6 (by kernel_rfl) (show 40<53 by decide)).trans k1
    refine op_ap1 w' (.tmp 39) (.tmp 40) rfl cv _ i0 hS.ob h 93 i1 (k2.cell 0) (by have:=HLI.out;rw [List.length_append,List.length_append];simp only [List.length_cons,List.length_nil];omega) fun v' w2 ho hg=>?_
    exact hK w2 v' ⟨v',_,by rw [getD_upd (by rw [hsz];decide)];exact hS.set7 y2 y5 n8 ho hg⟩
   ·intro a x ls w' hS hsz hni hcl hin hout hd K hK
    obtain ⟨cv,ct,hS⟩:=hS
    have o:a.eval (.tmp 41)=x 7:=hin 41 7 (by kernel_rfl) (show 41<53 by decide)
    have:=hK w' (x 7) ⟨cv,ct,by rw [getD_upd (by rw [hsz];decide)];exact hS.set8⟩
    rw [← o] at this
    exact this
  ·intro A' x ls w' hS hall hin hout hA
   obtain ⟨cv,ct,hS⟩:=hS
   obtain ⟨e7,rfl⟩:=hS.x7 (hall 7 (by decide))
   have e8:=hS.x8 (hall 8 (by decide))
   have hA2:=hA.out
   clear hA hin hout hall
   simp only [RI.setAll,List.toList_toArray,List.set_cons_succ,List.set_cons_zero,Nat.reduceAdd] at hA2
   rw [e8,← e7] at hA2
   have HOB:=Lib.hid hS.ob
   have HGW:=Lib.hid ((Gw.nx HN0.out v).trans hS.gw)
   subst hA2
   clear hS e7 e8
   go_wp2_with fail
   go_ret
   exact ⟨cv,rfl,HOB.out.cast HF5.out.symm,HGW.out⟩
 ·obtain rfl:xk=6:=by omega
  have hF5:F=123 :: (commaF (pairsF (l.map (constF tenS sh n)))++[125]):=hF.out.symm
  obtain ⟨I,hI⟩:∃ I,Hid (innF [58,32] (l.map (constF tenS sh n)) l.length=I):=⟨_,Lib.hid rfl⟩
  have hII:commaF (pairsF (l.map (constF tenS sh n)))=I:=by
   rw [← hI.out]
   have hm:2 * (l.length / 2)=l.length:=by have:=hev rfl;omega
   have h:=innF_map (l.map (constF tenS sh n)) (l.length / 2) (by rw [List.length_map,hm];exact Nat.le_refl _)
   rw [hm] at h
   rw [h,List.take_of_length_le (by rw [List.length_map];exact Nat.le_refl _)]
  rw [hII] at hF5
  have HF5:Hid (xs++F=xs++[123]++I++[125]):=by unfold Hid;rw [hF5];simp
  have hlI:(xs.length:Int)+(I.length:Int)+2≤64000:=by
   have h:=HLEN.out
   rw [hF5] at h
   simp only [List.length_append,List.length_cons,List.length_nil] at h
   omega
  have HLI:=Lib.hid hlI
  obtain ⟨LV,hLV⟩:∃ LV,Hid (LV=Value.slice A l.length ac):=⟨_,Lib.hid rfl⟩
  clear hF5 hII hlI
  go_upto_region 13 with fail
  refine RI.wp_region_X (LsS B g v LV xs I 123 125 W) rfl (by kernel_rfl) (by kernel_rfl) ?_ ?_ ?_
  ·intro x
   refine ⟨v,xs,?_⟩
   have e:(fun j=>(Array.replicate 9 false).getD j false)=fun _=>false:=by
    funext j
    rw [Array.getD_eq_getD_getElem?]
    cases h:(Array.replicate 9 false)[j]? with
    | none=>rfl
    | some b =>
     obtain ⟨h1,h2⟩:=Array.getElem?_eq_some_iff.1 h
     simp at h2
     simp [← h2]
   show LsV B g v LV xs I 123 125 W (fun j=>(Array.replicate 9 false).getD j false) x _ v xs
   rw [e]
   exact ⟨HO.out.nx (Nx.drawn _),Gw.nx (Nx.drawn _) _,(fun h=>by cases h),(fun h=>by cases h),(fun h=>by cases h),(fun h=>by cases h),(fun h=>by cases h),fun _=>⟨rfl,rfl⟩,(fun h=>by cases h),(fun h=>by cases h),(fun h=>by cases h),(fun h=>by cases h)⟩
  ·refine ⟨?_,?_,?_,?_,?_,?_,?_,?_,?_,trivial⟩
   ·intro a x ls w' hS hsz hni hcl hin hout hd K hK
    obtain ⟨cv,ct,hS⟩:=hS
    have o:a.eval (.tmp 0)=v:=hout 0 (by kernel_rfl)
    have:=hK w' v ⟨cv,ct,by rw [getD_upd (by rw [hsz];decide)];exact hS.set0⟩
    rw [← o] at this
    exact this
   ·intro a x ls w' hS hsz hni hcl hin hout hd K hK
    obtain ⟨cv,ct,hS⟩:=hS
    have:=hK _ _ ⟨cv,ct,by rw [getD_upd (by rw [hsz];decide)];exact hS.set1⟩
    clear hin hout hd hcl hS hK
    go_simp
    exact this
   ·intro a x ls w' hS hsz hni hcl hin hout hd K hK
    obtain ⟨cv,ct,hS⟩:=hS
    have n2:ls.getD 2 false=false:=RI.off_of (by rw [hsz];decide) hni
    have n5:ls.getD 5 false=false:=hcl.not 20 5 2 (by kernel_rfl) hni
    have n7:ls.getD 7 false=false:=hcl.not 20 7 2 (by kernel_rfl) hni
    have y0:=hd ⟨0,.data⟩ (by simp) rfl
    have y1:=hd ⟨1,.data⟩ (by simp) rfl
    obtain ⟨rfl,rfl⟩:=hS.o2 n2
    obtain ⟨h,k1,k2,k3⟩:=hS.x1 y1
    have i0:a.eval (.tmp 44)=cv:=(hin 44 0 (by kernel_rfl) (show 44<53 by decide)).trans (hS.x0 y0)
    have i1:a.eval (.tmp 45) = .slice (some ⟨h,0,none⟩) 1 1:=(hin 45 1 (by kernel_rfl) (show 45<53 by decide)).trans k1
    refine op_ap1 w' (.tmp 44) (.tmp 45) rfl cv ct i0 hS.ob h 123 i1 (k2.cell 0) (by have:=HLI.out;omega) fun v' w2 ho hg=>?_
    exact hK w2 v' ⟨v',_,by rw [getD_upd (by rw [hsz];decide)];exact hS.set2 n5 n7 ho hg⟩
   ·intro a x ls w' hS hsz hni hcl hin hout hd K hK
    obtain ⟨cv,ct,hS⟩:=hS
    have i3:a.tmps.getD 3 undef = .pointer (some ⟨g,0,none⟩):=hout 3 (by kernel_rfl)
    have j3:=i3
    rw [Array.getD_eq_getD_getElem?] at j3
    have:=hK _ _ ⟨cv,ct,by rw [getD_upd (by rw [hsz];decide)];exact hS.set3⟩
    clear hin hout hd hcl hS hK
    go_simp
    exact this
   ·intro a x ls w' hS hsz hni hcl hin hout hd K hK
    obtain ⟨cv,ct,hS⟩:=hS
    have y3:=hd ⟨3,.data⟩ (by simp) rfl
    have i3:a.tmps.getD 47 undef = .pointer (some ⟨g,4,none⟩):=(hin 47 3 (by kernel_rfl) (show 47<53 by decide)).trans (hS.x3 y3)
    have j3:=i3
    rw [Array.getD_eq_getD_getElem?] at j3
    obtain ⟨hb2,-⟩:=hS.gw.blk HB.out HNE.out
    have k4:w'.cell? ⟨g,4,none⟩=some (.slice A l.length ac):=hb2.cell 4
    have:=hK _ _ ⟨cv,ct,by rw [getD_upd (by rw [hsz];decide)];exact hS.set4⟩
    rw [hLV.out] at this
    clear hin hout hd hcl hS hK hb2
    go_simp
    exact this
   ·intro a x ls w' hS hsz hni hcl hin hout hd K hK
    obtain ⟨cv,ct,hS⟩:=hS
    have n5:ls.getD 5 false=false:=RI.off_of (by rw [hsz];decide) hni
    have n7:ls.getD 7 false=false:=hcl.not 20 7 5 (by kernel_rfl) hni
    have y2:=hd ⟨2,.data⟩ (by simp) rfl
    have y4:=hd ⟨4,.data⟩ (by simp) rfl
    obtain ⟨e2,rfl⟩:=hS.o5 y2 n5
    have i2:a.tmps.getD 46 undef=cv:=(hin 46 2 (by kernel_rfl) (show 46<53 by decide)).trans e2.symm
    have i4:a.tmps.getD 48 undef = .slice A l.length ac:=((hin 48 4 (by kernel_rfl) (show 48<53 by decide)).trans (hS.x4 y4)).trans hLV.out
    have j2:=i2
    rw [Array.getD_eq_getD_getElem?] at j2
    have j4:=i4
    rw [Array.getD_eq_getD_getElem?] at j4
    have hcall:=appendInner_any HIH.out B w' cv (.slice A l.length ac) (xs++[123]) [58,32] l ⟨#[58,32]⟩ (Tx.of _) rfl hS.ob (HT.out.on (((Gw.nx HN0.out v).trans hS.gw).below HOWN.out)) (HRL.out.gw ((Gw.nx HN0.out v).trans hS.gw)) hll HOK.out
     (by rw [hI.out];have:=HLI.out;rw [List.length_append];simp only [List.length_cons,List.length_nil];omega)
    rw [hI.out] at hcall
    have HC:=Lib.hid hcall
    have HS:=Lib.hid hS
    have HK:=Lib.hid hK
    clear hin hout hd hcl hS hcall hK e2
    go_simp
    refine HC.out.mono ?_;rintro e w2 ⟨v2,rfl,ho,hg⟩
    exact HK.out w2 v2 ⟨v2,_,by rw [getD_upd (by rw [hsz];decide)];exact HS.out.set5 y2 n7 ho hg⟩
   ·intro a x ls w' hS hsz hni hcl hin hout hd K hK
    obtain ⟨cv,ct,hS⟩:=hS
    have:=hK _ _ ⟨cv,ct,by rw [getD_upd (by rw [hsz];decide)];exact hS.set6⟩
    clear hin hout hd hcl hS hK
    go_simp
    exact this
   ·intro a x ls w' hS hsz hni hcl hin hout hd K hK
    obtain ⟨cv,ct,hS⟩:=hS
    have n7:ls.getD 7 false=false:=RI.off_of (by rw [hsz];decide) hni
    have n8:ls.getD 8 false=false:=hcl.not 20 8 7 (by kernel_rfl) hni
    have y5:=hd ⟨5,.data⟩ (by simp) rfl
    have y6:=hd ⟨6,.data⟩ (by simp) rfl
    have y2:ls.getD 2 false=true:=hcl.reach 20 5 2 (by kernel_rfl) y5
    obtain ⟨e5,rfl⟩:=hS.o7 y5 n7
    obtain ⟨h,k1,k2,k3⟩:=hS.x6 y6
    have i0:a.eval (.tmp 49)=cv:=(hin 49 5 (by kernel_rfl) (show 49<53 by decide)).trans e5.symm
    have i1:a.eval (.tmp 50) = .slice (some ⟨h,0,none⟩) 1 1:=(hin 50 6 (by kernel_rfl) (show 50<53 by decide)).trans k1
    refine op_ap1 w' (.tmp 49) (.tmp 50) rfl cv _ i0 hS.ob h 125 i1 (k2.cell 0) (by have:=HLI.out;rw [List.length_append,List.length_append];simp only [List.length_cons,List.length_nil];omega) fun v' w2 ho hg=>?_
    exact hK w2 v' ⟨v',_,by rw [getD_upd (by rw [hsz];decide)];exact hS.set7 y2 y5 n8 ho hg⟩
   ·intro a x ls w' hS hsz hni hcl hin hout hd K hK
    obtain ⟨cv,ct,hS⟩:=hS
    have o:a.eval (.tmp 51)=x 7:=hin 51 7 (by kernel_rfl) (show 51<53 by decide)
    have:=hK w' (x 7) ⟨cv,ct,by rw [getD_upd (by rw [hsz];decide)];exact hS.set8⟩
    rw [← o] at this
    exact this
  ·intro A' x ls w' hS hall hin hout hA
   obtain ⟨cv,ct,hS⟩:=hS
   obtain ⟨e7,rfl⟩:=hS.x7 (hall 7 (by decide))
   have e8:=hS.x8 (hall 8 (by decide))
   have hA2:=hA.out
   clear hA hin hout hall
   simp only [RI.setAll,List.toList_toArray,List.set_cons_succ,List.set_cons_zero,Nat.reduceAdd] at hA2
   rw [e8,← e7] at hA2
   have HOB:=Lib.hid hS.ob
   have HGW:=Lib.hid ((Gw.nx HN0.out v).trans hS.gw)
   subst hA2
   clear hS e7 e8
   go_wp2_with fail
   go_ret
   exact ⟨cv,rfl,HOB.out.cast HF5.out.symm,HGW.out⟩
theorem appendConst_any {sh:Nat→List UInt8} (hsh:∀ B l,ShowR B l→l=sh B):∀ n,CoP sh n
 | 0=>fun _ _ _ _ _ _ _ _ _ hok _=>hok.elim
 | n+1=>appendConst_step hsh n (appendConst_any hsh n)
end Go.Proofs.YtjggghfekakogaaGreatDoor
