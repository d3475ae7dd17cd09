/- A region that draws its order: an invariant over what has been carried out and the values so far. Plain lemmas over any program. The code's printer: constants within constants. The code's printer: lists and maps of constants, in whatever order their parts are reckoned. Plain lemmas. -/
import Derived.Test.YtjggghfekakogaaGreatDoorG12
import Derived.Test.YtjggghfekakogaaGreatDoorG11
import Derived.Test.YtjggghfekakogaaGreatDoorG07
import Derived.Test.YtjggghfekakogaaGreatDoorG01
set_option linter.unusedVariables false
set_option linter.unusedSimpArgs false
set_option linter.unnecessarySimpa false
namespace Go.Proofs.YtjggghfekakogaaGreatDoor
namespace RI
section
variable {P:Program} (L:List Oper) (a0:Act) (S:Array Bool→(Nat→Value)→World→Prop)
def StepX (P:Program) (i:Nat) (o:Oper):Prop :=
 ∀ (a:Act) (x:Nat→Value) (ls:Array Bool) (w:World),S ls x w→ls.size=L.length→ls.getD i true=false→Closed L ls→(∀ d i,slotB L d i=true→d<a0.tmps.size→a.eval (.tmp d)=x i)→(∀ d,(dsts L).contains d=false→a.eval (.tmp d)=a0.eval (.tmp d)) →
  (∀ e ∈ o.after.toList,Region.binds .any e=true→ls.getD e.on false=true) →
  ∀ K:Act→World→Prop,(∀ w' v,S (ls.setIfInBounds i true) (upd x i v) w'→K (a.put o.dst v) w')→o.wp P a w K (fun _ _ _=>False)
def StepsX (P:Program):List Oper→Nat→Prop
 | [],_=>True
 | o :: os,i=>StepX L a0 S P i o∧StepsX P os (i+1)
variable {L a0 S}
theorem StepsX.at_:∀ {os:List Oper} {k:Nat},StepsX L a0 S P os k→∀ i o,os[i]? = some o→StepX L a0 S P (k+i) o
 | [],_,_,i,o,h=>by simp at h
 | o' :: os,k,hs,i,o,h=>by
  cases i with
  | zero=>simp at h;subst h;exact hs.1
  | succ i=>rw [show k+(i+1)=k+1+i by omega];exact StepsX.at_ hs.2 i o (by simpa using h)
theorem inv_anyX {Q:Exit→Act→World→Prop} (hok:okB L=true) (hg:L.all (fun o=>o.guard == none)=true) (hs:StepsX L a0 S P L 0)
  (hend:∀ (x:Nat→Value) ls w,S ls x w→(∀ j,j<L.length→ls.getD j false=true)→Q .normal (PA L 0 x a0) w) :
  ∀ (f:Nat) (listed:Array Bool) (x:Nat→Value) (w:World),listed.size=L.length→unl L.length listed≤f→S listed x w→Closed L listed→wpAny P .any L.toArray Q f listed (PA L 0 x a0) w:=by
 simp only [okB,Bool.and_eq_true,decide_eq_true_eq] at hok
 obtain ⟨hb,hn⟩:=hok
 have fin:∀ (listed:Array Bool) (x:Nat→Value) (w:World),listed.size=L.length→S listed x w→(∀ i,i<L.length→listed.getD i true=true)→Q .normal (PA L 0 x a0) w:=by
  intro listed x w hz hS hall
  exact hend x listed w hS fun j hj=>by
   have h4:j<listed.size:=by omega
   simpa [h4] using hall j hj
 intro f
 induction f with
 | zero =>
  intro listed x w hz hf hS hcl
  have hall:∀ i,i<L.length→listed.getD i true=true:=by
   intro i hi
   cases h:listed.getD i true with
   | true=>rfl
   | false =>
    exfalso
    have:i ∈ (List.range L.length).filter fun i=>!listed.getD i true:=List.mem_filter.2 ⟨List.mem_range.2 hi,by rw [h];rfl⟩
    have:=List.length_pos_of_mem this
    unfold unl at hf
    omega
  refine ⟨?_,fin listed x w hz hS hall⟩
  rw [List.eq_nil_iff_forall_not_mem]
  intro i hi
  obtain ⟨h1,o,ho,-⟩:=mem_ready.1 hi
  have hi2:i<L.length:=by
   have:=(Array.getElem?_eq_some_iff.1 ho).1
   simpa using this
  rw [hall i hi2] at h1
  cases h1
 | succ f ih =>
  intro listed x w hz hf hS hcl
  refine ⟨fun hr=>fin listed x w hz hS (all_listed hb hz hr),fun i hi=>?_⟩
  obtain ⟨h1,o,ho,hdep⟩:=mem_ready.1 hi
  have hi2:i<L.length:=by
   have:=(Array.getElem?_eq_some_iff.1 ho).1
   simpa using this
  have hol:L[i]? = some o:=by simpa using ho
  have hgd:o.guard=none:=by
   have:=List.all_eq_true.1 hg o (List.mem_of_getElem? hol)
   simpa using this
  have hst:=hs.at_ i o hol
  rw [Nat.zero_add] at hst
  have h4:i<listed.size:=by omega
  have h:=hst (PA L 0 x a0) x listed w hS hz h1 hcl (fun d i g1 g2=>PA_slot g1 g2) (fun d g1=>PA_old_slot g1) (fun e he hbd=>hdep e (by simpa using he) hbd) (wpAny P .any L.toArray Q f (listed.setIfInBounds i true)) (by
   intro w' v hS'
   rw [PA_upd L 0 x a0 i o v hn hol,Nat.zero_add]
   refine ih (listed.setIfInBounds i true) (upd x i v) w' (by simpa using hz) ?_ hS' ?_
   ·have:unl L.length (listed.setIfInBounds i true)<unl L.length listed:=by
     refine filter_lt _ _ _ ?_ i (List.mem_range.2 hi2) ?_ ?_
     ·intro y hy hp
      by_cases hyi:i=y
      ·subst hyi
       simp [h4] at hp
      ·rw [getD_set_ne true hyi] at hp;exact hp
     ·simp [h4]
     ·rw [h1];rfl
    omega
   ·intro j o' ho' hj e he hbd
    by_cases hji:j=i
    ·subst hji
     rw [hol] at ho'
     obtain rfl:=Option.some.inj ho'
     have:=hdep e (by simpa using he) hbd
     by_cases hei:j=e.on
     ·rw [← hei];simp [h4]
     ·rw [getD_set_ne false hei];exact this
    ·rw [getD_set_ne false (Ne.symm hji)] at hj
     have:=hcl j o' ho' hj e he hbd
     by_cases hei:i=e.on
     ·rw [← hei];simp [h4]
     ·rw [getD_set_ne false hei];exact this)
  unfold wpOp
  rw [ho]
  dsimp only
  rw [if_pos (by unfold Region.wanted;rw [hgd])]
  exact .inl (wp_mono_both (fun _ _ h=>h) h trivial)
theorem wp_region_X {id:Nat} {Q:Exit→Act→World→Prop} {w:World} {ops:Array Oper} (S:Array Bool→(Nat→Value)→World→Prop) (hm:P.follows .mixedOrders=true) (hok:okB ops.toList=true) (hg:ops.toList.all (fun o=>o.guard == none)=true)
  (hS:∀ x,S (Array.replicate ops.size false) x { w with drawn:=w.drawn+1 }) (hs:StepsX ops.toList a0 S P ops.toList 0)
  (hend:∀ (A:Act) (x:Nat→Value) ls w,S ls x w→(∀ j,j<ops.toList.length→ls.getD j false=true)→(∀ d i,slotB ops.toList d i=true→d<a0.tmps.size→A.eval (.tmp d)=x i)→(∀ d,(dsts ops.toList).contains d=false→A.eval (.tmp d)=a0.eval (.tmp d)) →
   RowKit.Hid (A=⟨(setAll ops.toList 0 x a0.tmps.toList).toArray,a0.defers⟩)→Q .normal A w):(Code.region id ops true).wp P Q a0 w:=by
 refine wp_region_any hm ?_
 have hold:PA ops.toList 0 (old a0 ops.toList) a0=a0:=PA_old ops.toList 0 _ a0 (fun i o d h1 h2=>by unfold old;rw [Nat.zero_add,h1];simp [h2])
 have hrep:∀ j,(Array.replicate ops.size false).getD j false=false:=by
  intro j
  rw [Array.getD_eq_getD_getElem?]
  cases h:(Array.replicate ops.size false)[j]? with
  | none=>rfl
  | some b =>
   obtain ⟨h1,h2⟩:=Array.getElem?_eq_some_iff.1 h
   simp at h2
   simp [← h2]
 have:=inv_anyX (P:=P) (Q:=Q) hok hg hs (fun x ls w h1 h2=>hend (PA ops.toList 0 x a0) x ls w h1 h2 (fun d i g1 g2=>PA_slot g1 g2) (fun d g1=>PA_old_slot g1) (PA_list ops.toList 0 x a0)) ops.size (Array.replicate ops.size false) (old a0 ops.toList) { w with drawn:=w.drawn+1 } (by simp) ?_ (hS _) ?_
 ·rw [hold] at this
  simpa using this
 ·unfold unl
  have:=List.length_filter_le (fun i=>!(Array.replicate ops.size false).getD i true) (List.range ops.toList.length)
  simp only [List.length_range] at this
  simpa using this
 ·intro j o ho hj
  rw [hrep] at hj;cases hj
end
theorem off_of {ls:Array Bool} {i:Nat} (hz:i<ls.size) (h:ls.getD i true=false):ls.getD i false=false:=by simpa [hz] using h
end RI
end Go.Proofs.YtjggghfekakogaaGreatDoor
namespace Go.Proofs.YtjggghfekakogaaGreatDoor
open Go.RowKit
def CoP (sh:Nat→List UInt8) (n:Nat):Prop:=∀ (B:Nat) (w:World) (v:Value) (xs:List UInt8) (x:ConS) (c:Con),Ob B w v xs→TabB B w→RC n w (No v) x c→prC n c →
 (xs.length:Int)+((constF tenS sh n c).length:Int)≤64000 →
 Calls Tryz.prog 52 #[v,.agg (conA x)] w fun e w'=>∃ v',e = .returned v'∧Ob B w' v' (xs++constF tenS sh n c)∧Gw v w v' w'
theorem LC.gw {n:Nat} {v v' lv:Value} {w w':World} {l:List Con} (h:LC n w (No v) lv l) (hg:Gw v w v' w'):LC n w' (No v') lv l:=LC.lasts n hg.mv h
theorem RC.gw {n:Nat} {v v':Value} {w w':World} {x:ConS} {c:Con} (h:RC n w (No v) x c) (hg:Gw v w v' w'):RC n w' (No v') x c:=RC.lasts n hg.mv h
theorem RC.but {n:Nat} {P:Nat→Prop} {v:Value} {w:World} {x:ConS} {c:Con} (h:RC n w (But P v) x c):RC n w P x c:=RC.lasts n ⟨fun _ _ _=>rfl,fun _ h _=>h.1⟩ h
set_option maxRecDepth 100000 in
set_option maxHeartbeats 6400000 in
theorem appendInner_any {sh:Nat→List UInt8} {n:Nat} (ih:CoP sh n) (B:Nat) (w:World) (v lv:Value) (xs sg:List UInt8) (l:List Con) (s:ByteArray) (hs:Tx s sg) (hsg:sg.length=2) (hown:Ob B w v xs) (ht:TabB B w) (hr:LC n w (No v) lv l)
  (hll:l.length≤100000) (hok:∀ y ∈ l,prC n y) (hlen:(xs.length:Int)+((innF sg (l.map (constF tenS sh n)) l.length).length:Int)≤64000) :
  Calls Tryz.prog 105 #[v,lv,.string s] w fun e w'=>∃ v',e = .returned v'∧Ob B w' v' (xs++innF sg (l.map (constF tenS sh n)) l.length)∧Gw v w v' w':=by
 obtain ⟨A,ac,zs,hlv,hzl,hzc,hzm,hrd,hall⟩:=hr.sl conA_size
 have HR:=Lib.hid hr
 subst hlv
 obtain ⟨ts,hts⟩:∃ ts,Hid (l.map (constF tenS sh n)=ts):=⟨_,Lib.hid rfl⟩
 rw [hts.out] at hlen ⊢
 have htl:ts.length=l.length:=by rw [← hts.out,List.length_map]
 have HTL:=Lib.hid htl
 have HOWN:=Lib.hid hown
 have HT:=Lib.hid ht
 have HS:=Lib.hid hs
 have HSG:=Lib.hid hsg
 have HOK:=Lib.hid hok
 have HLEN:=Lib.hid hlen
 have HIH:=Lib.hid ih
 have hnI:(l.length:Int)≤100000:=by omega
 clear hown ht hs hsg hok hlen ih hr hrd hall htl hzl hzc hzm
 go_enter Tryz.func105,Tryz.ntmps105
 go_wp2_with fail
 go_loopw [0,11] (fun bv' iv wr=>∃ i:Nat,iv = .int .i64 (i:Int)∧i≤l.length∧Hid (Ob B wr bv' (xs++innF sg ts i))∧Hid (Gw v w bv' wr)) (fun _ iv _=>(200000 - intOf iv).toNat)
 case atStart=>exact ⟨0,rfl,Nat.zero_le _,Lib.hid (HOWN.out.cast (by simp [innF])),Lib.hid (Gw.refl _ _)⟩
 case round =>
  obtain ⟨i,rfl,hi,HO,HG⟩:=hrel
  have hiI:(i:Int)≤100000:=by omega
  by_cases hlt:i<l.length
  ·have q1:decide ((i:Int)<(l.length:Int))=true:=decide_eq_true (by omega)
   have q2:(i:Int)<(l.length:Int):=by omega
   have hr2:=HR.out.gw HG.out
   obtain ⟨A',ac',zs,hlv,hzl,hzc,hzm,hrd,hall⟩:=hr2.sl conA_size
   injection hlv with h1 h2 h3
   subst h1 h3
   obtain ⟨g2,rfl,hg2,hcs⟩:=hrd (by omega)
   obtain ⟨Z,hZ⟩:∃ Z,zs[i]'(by omega)=Z:=⟨_,rfl⟩
   have hrc:RC n wr (No u0) Z l[i]:=by
    have:=hall.at_ i (by omega) hlt
    rw [hZ] at this
    exact this.but
   obtain ⟨hst,hle⟩:=innF_step sg ts i (by rw [HTL.out];exact hlt)
   have hte:ts[i]'(by rw [HTL.out];exact hlt)=constF tenS sh n l[i]:=by simp only [← hts.out,List.getElem_map]
   rw [hte] at hst hle
   have hx:=HLEN.out
   rw [← HTL.out] at hx
   obtain ⟨E,hE⟩:∃ E,Hid (constF tenS sh n l[i]=E):=⟨_,Lib.hid rfl⟩
   rw [hE.out] at hst hle
   have HST:=Lib.hid hst
   have HSUM:Hid ((xs.length:Int)+(innF sg ts i).length+(sepF sg i).length+E.length≤64000):=by unfold Hid;omega
   obtain ⟨ek,ei,ed,es,el⟩:=Z
   obtain ⟨lA,lk,lc,rfl⟩:∃ A k cap,el = .slice A k cap:=hrc.slv
   have hcell:∀ j,j<5→wr.cell? ⟨g2,i * 5+j,none⟩=(conA ⟨ek,ei,ed,es,.slice lA lk lc⟩)[j]?:=fun j hj=>by rw [hcs i (by omega) j hj,hZ]
   have e0:wr.cell? ⟨g2,i * 5,none⟩=some (.int .i64 (ek:Int)):=hcell 0 (by decide)
   have e1:wr.cell? ⟨g2,i * 5+1,none⟩=some (.int .i64 ei):=hcell 1 (by decide)
   have e2:wr.cell? ⟨g2,i * 5+2,none⟩=some (.int .u64 (ed:Int)):=hcell 2 (by decide)
   have e3:wr.cell? ⟨g2,i * 5+3,none⟩=some (.string ⟨es.toArray⟩):=hcell 3 (by decide)
   have e4:wr.cell? ⟨g2,i * 5+4,none⟩=some (.slice lA lk lc):=hcell 4 (by decide)
   have HRC:=Lib.hid hrc
   clear hst hle hx hte hcs hcell hrd hall hr2 hZ hrc hzl hzc hzm
   obtain ⟨g,hg⟩:∃ g,wr.heap.size=g:=⟨_,rfl⟩
   go_upto_region 4 with fail
   have hB4:=Blk.new wr #[.int .i64 (ek:Int),.int .i64 ei,.int .u64 (ed:Int),.string ⟨es.toArray⟩,.slice lA lk lc] 48
   rw [hg] at hB4
   have hn4:Nx wr (wr.alloc (.cells #[.int .i64 (ek:Int),.int .i64 ei,.int .u64 (ed:Int),.string ⟨es.toArray⟩,.slice lA lk lc] 48)):=nx0 _ _
   generalize World.alloc wr _=W1 at *
   have HO1:=Lib.hid (HO.out.nx hn4)
   have HG1:=Lib.hid (HG.out.trans (Gw.nx hn4 u0))
   have HRC1:Hid (RC n W1 (No u0) ⟨ek,ei,ed,es,.slice lA lk lc⟩ l[i]):=HRC.out.gw (Gw.nx hn4 u0)
   have hne:u0.ownBlock≠some g:=by rw [← hg];exact HO.out.new
   have HB4:=Lib.hid hB4
   have HNE:=Lib.hid hne
   obtain ⟨bA,bc,hu0,-,-,-⟩:=HO1.out.sl
   obtain ⟨L,hL⟩:∃ L,Hid ((xs++innF sg ts i).length=L):=⟨_,Lib.hid rfl⟩
   rw [hL.out] at hu0
   subst hu0
   have hLb:(L:Int)+(sepF sg i).length+E.length≤64000:=by
    have:=HSUM.out
    rw [← hL.out,List.length_append];omega
   have b1:decide ((L:Int) > 64000)=false:=decide_eq_false (by omega)
   have b2:¬ 64000<L:=by omega
   have HLB:=Lib.hid hLb
   clear hB4 hn4 hne hg HRC HO HG e0 e1 e2 e3 e4 hLb
   go_upto_block 2 with fail
   go_cut [0] (fun v wx=>Hid (Ob B wx v (xs++innF sg ts i++sepF sg i))∧Hid (Gw (.slice bA L bc) W1 v wx))
   case first =>
    by_cases h1:i % 2=1
    ·have hsep:sepF sg i=sg:=by unfold sepF;rw [if_pos h1]
     have hrem:(i:Int).tmod 2=1:=by rw [show (2:Int)=((2:Nat):Int) from rfl,← Int.ofNat_tmod,h1];rfl
     have hz:(L:Int)+(sg.length:Int)≤1000000000:=by have:=HSG.out;have:=HLB.out;omega
     rw [← hL.out] at hz
     clear h1
     go_wp2_with (refine wpList_apS _ rfl _ _ rfl _ (xs++innF sg ts i) rfl HO1.out s sg HS.out rfl hz ?_;intro v1 w1 ho hg;have HO2:=Lib.hid ho;have HG2:=Lib.hid hg;clear ho hg)
     go_meet
     case rel=>exact ⟨by rw [hsep];exact HO2,HG2⟩
    ·have hrem:(i:Int).tmod 2=0:=by rw [show (2:Int)=((2:Nat):Int) from rfl,← Int.ofNat_tmod,show i % 2=0 by omega];rfl
     by_cases h0:0<i
     ·have hsep:sepF sg i=[44,32]:=by unfold sepF;rw [if_neg h1,if_pos h0]
      have b3:decide ((i:Int) > 0)=true:=decide_eq_true (by omega)
      have hz:(L:Int)+(([44,32]:List UInt8).length:Int)≤1000000000:=by have:=HLB.out;simp;omega
      rw [← hL.out] at hz
      clear h1
      go_wp2_with (refine wpList_apS _ rfl _ _ rfl _ (xs++innF sg ts i) rfl HO1.out ⟨#[44,32]⟩ [44,32] (Tx.of _) rfl hz ?_;intro v1 w1 ho hg;have HO2:=Lib.hid ho;have HG2:=Lib.hid hg;clear ho hg)
      go_meet
      case rel=>exact ⟨by rw [hsep];exact HO2,HG2⟩
     ·obtain rfl:i=0:=by omega
      have hsep:sepF sg 0=[]:=rfl
      clear h1
      go_wp2_with fail
      go_meet
      case rel=>exact ⟨by rw [hsep,List.append_nil];exact HO1,Lib.hid (Gw.refl _ _)⟩
   case rest =>
    obtain ⟨HO2,HG2⟩:=hcut
    obtain ⟨hB5,hne5⟩:=HG2.out.blk HB4.out HNE.out
    have c0:wc.cell? ⟨g,0,none⟩=some (.int .i64 (ek:Int)):=hB5.cell 0
    have c1:wc.cell? ⟨g,1,none⟩=some (.int .i64 ei):=hB5.cell 1
    have c2:wc.cell? ⟨g,2,none⟩=some (.int .u64 (ed:Int)):=hB5.cell 2
    have c3:wc.cell? ⟨g,3,none⟩=some (.string ⟨es.toArray⟩):=hB5.cell 3
    have c4:wc.cell? ⟨g,4,none⟩=some (.slice lA lk lc):=hB5.cell 4
    have hcall:=HIH.out B wc u0 (xs++innF sg ts i++sepF sg i) ⟨ek,ei,ed,es,.slice lA lk lc⟩ l[i] HO2.out (HT.out.on ((HG1.out.trans HG2.out).below HOWN.out)) (HRC1.out.gw HG2.out) (HOK.out _ (List.getElem_mem hlt))
     (by rw [hE.out];have:=HSUM.out;rw [List.length_append,List.length_append];omega)
    rw [hE.out] at hcall
    have HCALL:=Lib.hid hcall
    clear hB5 hne5 hcall
    go_wp2_with fail
    refine HCALL.out.mono ?_;rintro e w5 ⟨v5,rfl,ho,hg5⟩
    have HO5:=Lib.hid ho;have HG5:=Lib.hid ((HG1.out.trans HG2.out).trans hg5);clear ho hg5
    go_wp2_with fail
    go_roundw
    case rel=>exact ⟨i+1,by go_num,hlt,Lib.hid (HO5.out.cast (by rw [HST.out];simp only [List.append_assoc])),HG5⟩
    case measure=>simp [intOf];omega
  ·obtain rfl:i=l.length:=by omega
   have q1:decide ((l.length:Int)<(l.length:Int))=false:=decide_eq_false (by omega)
   clear hlt hi
   go_wp2_with fail
   go_ret
   exact ⟨_,rfl,HO.out,HG.out⟩
end Go.Proofs.YtjggghfekakogaaGreatDoor
namespace Go.Proofs.YtjggghfekakogaaGreatDoor
open Go.RowKit
def updB (q:Nat→Bool) (i:Nat):Nat→Bool:=fun j=>if j=i then true else q j
theorem getD_upd {ls:Array Bool} {i:Nat} (h:i<ls.size):(fun j=>(ls.setIfInBounds i true).getD j false)=updB (fun j=>ls.getD j false) i:=by
 funext j
 unfold updB
 by_cases hj:j=i
 ·subst hj;rw [if_pos rfl];simp [h]
 ·rw [if_neg hj,getD_set_ne false (Ne.symm hj)]
def OneS (cv:Value) (w:World) (c:UInt8) (v:Value):Prop:=∃ h,v = .slice (some ⟨h,0,none⟩) 1 1∧Blk w h h #[bv c] 5∧cv.ownBlock≠some h
theorem OneS.nx {cv:Value} {w w':World} {c:UInt8} {v:Value} (h:OneS cv w c v) (hn:Nx w w'):OneS cv w' c v:=by
 obtain ⟨g,h1,h2,h3⟩:=h
 exact ⟨g,h1,h2.below hn,h3⟩
theorem OneS.gw {cv cv':Value} {w w':World} {c:UInt8} {v:Value} (h:OneS cv w c v) (hg:Gw cv w cv' w'):OneS cv' w' c v:=by
 obtain ⟨g,h1,h2,h3⟩:=h
 obtain ⟨h4,h5⟩:=hg.blk h2 h3
 exact ⟨g,h1,h4,h5⟩
theorem OneS.new {B:Nat} {cv:Value} {w:World} {ct:List UInt8} (h:Ob B w cv ct) (c:UInt8):OneS cv (w.alloc (.cells #[bv c] 5)) c (.slice (some ⟨w.heap.size,0,none⟩) 1 1) :=
 ⟨_,rfl,Blk.new _ _ _,h.new⟩
structure LsV (B g:Nat) (v lv:Value) (xs I:List UInt8) (c0 c1:UInt8) (W:World) (q:Nat→Bool) (x:Nat→Value) (w:World) (cv:Value) (ct:List UInt8):Prop where
 ob:Ob B w cv ct
 gw:Gw v W cv w
 x0:q 0=true→x 0=v
 x1:q 1=true→OneS cv w c0 (x 1)
 x3:q 3=true→x 3 = .pointer (some ⟨g,4,none⟩)
 x4:q 4=true→x 4=lv
 x6:q 6=true→OneS cv w c1 (x 6)
 o2:q 2=false→cv=v∧ct=xs
 o5:q 2=true→q 5=false→cv=x 2∧ct=xs++[c0]
 o7:q 5=true→q 7=false→cv=x 5∧ct=xs++[c0]++I
 x7:q 7=true→cv=x 7∧ct=xs++[c0]++I++[c1]
 x8:q 8=true→x 8=x 7
def LsS (B g:Nat) (v lv:Value) (xs I:List UInt8) (c0 c1:UInt8) (W:World) (ls:Array Bool) (x:Nat→Value) (w:World):Prop:=∃ cv ct,LsV B g v lv xs I c0 c1 W (fun j=>ls.getD j false) x w cv ct
section
variable {B g:Nat} {v lv:Value} {xs I:List UInt8} {c0 c1:UInt8} {W:World} {q:Nat→Bool} {x:Nat→Value} {w w':World} {cv cv':Value} {ct:List UInt8}
theorem LsV.set0 (h:LsV B g v lv xs I c0 c1 W q x w cv ct):LsV B g v lv xs I c0 c1 W (updB q 0) (RI.upd x 0 v) w cv ct where
 ob:=h.ob
 gw:=h.gw
 x0:=fun _=>RI.upd_same _ _ _
 x1:=by simpa [RI.upd,updB] using h.x1
 x3:=by simpa [RI.upd,updB] using h.x3
 x4:=by simpa [RI.upd,updB] using h.x4
 x6:=by simpa [RI.upd,updB] using h.x6
 o2:=by simpa [RI.upd,updB] using h.o2
 o5:=by simpa [RI.upd,updB] using h.o5
 o7:=by simpa [RI.upd,updB] using h.o7
 x7:=by simpa [RI.upd,updB] using h.x7
 x8:=by simpa [RI.upd,updB] using h.x8
theorem LsV.set3 (h:LsV B g v lv xs I c0 c1 W q x w cv ct):LsV B g v lv xs I c0 c1 W (updB q 3) (RI.upd x 3 (.pointer (some ⟨g,4,none⟩))) w cv ct where
 ob:=h.ob
 gw:=h.gw
 x0:=by simpa [RI.upd,updB] using h.x0
 x1:=by simpa [RI.upd,updB] using h.x1
 x3:=fun _=>RI.upd_same _ _ _
 x4:=by simpa [RI.upd,updB] using h.x4
 x6:=by simpa [RI.upd,updB] using h.x6
 o2:=by simpa [RI.upd,updB] using h.o2
 o5:=by simpa [RI.upd,updB] using h.o5
 o7:=by simpa [RI.upd,updB] using h.o7
 x7:=by simpa [RI.upd,updB] using h.x7
 x8:=by simpa [RI.upd,updB] using h.x8
theorem LsV.set4 (h:LsV B g v lv xs I c0 c1 W q x w cv ct):LsV B g v lv xs I c0 c1 W (updB q 4) (RI.upd x 4 lv) w cv ct where
 ob:=h.ob
 gw:=h.gw
 x0:=by simpa [RI.upd,updB] using h.x0
 x1:=by simpa [RI.upd,updB] using h.x1
 x3:=by simpa [RI.upd,updB] using h.x3
 x4:=fun _=>RI.upd_same _ _ _
 x6:=by simpa [RI.upd,updB] using h.x6
 o2:=by simpa [RI.upd,updB] using h.o2
 o5:=by simpa [RI.upd,updB] using h.o5
 o7:=by simpa [RI.upd,updB] using h.o7
 x7:=by simpa [RI.upd,updB] using h.x7
 x8:=by simpa [RI.upd,updB] using h.x8
theorem LsV.set8 (h:LsV B g v lv xs I c0 c1 W q x w cv ct):LsV B g v lv xs I c0 c1 W (updB q 8) (RI.upd x 8 (x 7)) w cv ct where
 ob:=h.ob
 gw:=h.gw
 x0:=by simpa [RI.upd,updB] using h.x0
 x1:=by simpa [RI.upd,updB] using h.x1
 x3:=by simpa [RI.upd,updB] using h.x3
 x4:=by simpa [RI.upd,updB] using h.x4
 x6:=by simpa [RI.upd,updB] using h.x6
 o2:=by simpa [RI.upd,updB] using h.o2
 o5:=by simpa [RI.upd,updB] using h.o5
 o7:=by simpa [RI.upd,updB] using h.o7
 x7:=by simpa [RI.upd,updB] using h.x7
 x8:=by simp [RI.upd,updB]
theorem LsV.set1 (h:LsV B g v lv xs I c0 c1 W q x w cv ct):LsV B g v lv xs I c0 c1 W (updB q 1) (RI.upd x 1 (.slice (some ⟨w.heap.size,0,none⟩) 1 1)) (w.alloc (.cells #[bv c0] 5)) cv ct where
 ob:=h.ob.nx (nx0 _ _)
 gw:=h.gw.trans (Gw.nx (nx0 _ _) _)
 x0:=by simpa [RI.upd,updB] using h.x0
 x1:=fun _=>by rw [RI.upd_same];exact OneS.new h.ob c0
 x3:=by simpa [RI.upd,updB] using h.x3
 x4:=by simpa [RI.upd,updB] using h.x4
 x6:=fun k=>by rw [RI.upd_ne _ _ _ _ (by decide)];exact (h.x6 (by simpa [updB] using k)).nx (nx0 _ _)
 o2:=by simpa [RI.upd,updB] using h.o2
 o5:=by simpa [RI.upd,updB] using h.o5
 o7:=by simpa [RI.upd,updB] using h.o7
 x7:=by simpa [RI.upd,updB] using h.x7
 x8:=by simpa [RI.upd,updB] using h.x8
theorem LsV.set6 (h:LsV B g v lv xs I c0 c1 W q x w cv ct):LsV B g v lv xs I c0 c1 W (updB q 6) (RI.upd x 6 (.slice (some ⟨w.heap.size,0,none⟩) 1 1)) (w.alloc (.cells #[bv c1] 5)) cv ct where
 ob:=h.ob.nx (nx0 _ _)
 gw:=h.gw.trans (Gw.nx (nx0 _ _) _)
 x0:=by simpa [RI.upd,updB] using h.x0
 x1:=fun k=>by rw [RI.upd_ne _ _ _ _ (by decide)];exact (h.x1 (by simpa [updB] using k)).nx (nx0 _ _)
 x3:=by simpa [RI.upd,updB] using h.x3
 x4:=by simpa [RI.upd,updB] using h.x4
 x6:=fun _=>by rw [RI.upd_same];exact OneS.new h.ob c1
 o2:=by simpa [RI.upd,updB] using h.o2
 o5:=by simpa [RI.upd,updB] using h.o5
 o7:=by simpa [RI.upd,updB] using h.o7
 x7:=by simpa [RI.upd,updB] using h.x7
 x8:=by simpa [RI.upd,updB] using h.x8
theorem LsV.set2 (h:LsV B g v lv xs I c0 c1 W q x w cv ct) (n5:q 5=false) (n7:q 7=false) (ho:Ob B w' cv' (xs++[c0])) (hg:Gw cv w cv' w'):LsV B g v lv xs I c0 c1 W (updB q 2) (RI.upd x 2 cv') w' cv' (xs++[c0]) where
 ob:=ho
 gw:=h.gw.trans hg
 x0:=by simpa [RI.upd,updB] using h.x0
 x1:=fun k=>by rw [RI.upd_ne _ _ _ _ (by decide)];exact (h.x1 (by simpa [updB] using k)).gw hg
 x3:=by simpa [RI.upd,updB] using h.x3
 x4:=by simpa [RI.upd,updB] using h.x4
 x6:=fun k=>by rw [RI.upd_ne _ _ _ _ (by decide)];exact (h.x6 (by simpa [updB] using k)).gw hg
 o2:=by simp [updB]
 o5:=fun _ _=>⟨(RI.upd_same _ _ _).symm,rfl⟩
 o7:=fun k=>by simp [updB,n5] at k
 x7:=fun k=>by simp [updB,n7] at k
 x8:=by simpa [RI.upd,updB] using h.x8
theorem LsV.set5 (h:LsV B g v lv xs I c0 c1 W q x w cv ct) (y2:q 2=true) (n7:q 7=false) (ho:Ob B w' cv' (xs++[c0]++I)) (hg:Gw cv w cv' w'):LsV B g v lv xs I c0 c1 W (updB q 5) (RI.upd x 5 cv') w' cv' (xs++[c0]++I) where
 ob:=ho
 gw:=h.gw.trans hg
 x0:=by simpa [RI.upd,updB] using h.x0
 x1:=fun k=>by rw [RI.upd_ne _ _ _ _ (by decide)];exact (h.x1 (by simpa [updB] using k)).gw hg
 x3:=by simpa [RI.upd,updB] using h.x3
 x4:=by simpa [RI.upd,updB] using h.x4
 x6:=fun k=>by rw [RI.upd_ne _ _ _ _ (by decide)];exact (h.x6 (by simpa [updB] using k)).gw hg
 o2:=fun k=>by simp [updB,y2] at k
 o5:=fun _ k=>by simp [updB] at k
 o7:=fun _ _=>⟨(RI.upd_same _ _ _).symm,rfl⟩
 x7:=fun k=>by simp [updB,n7] at k
 x8:=by simpa [RI.upd,updB] using h.x8
theorem LsV.set7 (h:LsV B g v lv xs I c0 c1 W q x w cv ct) (y2:q 2=true) (y5:q 5=true) (n8:q 8=false) (ho:Ob B w' cv' (xs++[c0]++I++[c1])) (hg:Gw cv w cv' w'):LsV B g v lv xs I c0 c1 W (updB q 7) (RI.upd x 7 cv') w' cv' (xs++[c0]++I++[c1]) where
 ob:=ho
 gw:=h.gw.trans hg
 x0:=by simpa [RI.upd,updB] using h.x0
 x1:=fun k=>by rw [RI.upd_ne _ _ _ _ (by decide)];exact (h.x1 (by simpa [updB] using k)).gw hg
 x3:=by simpa [RI.upd,updB] using h.x3
 x4:=by simpa [RI.upd,updB] using h.x4
 x6:=fun k=>by rw [RI.upd_ne _ _ _ _ (by decide)];exact (h.x6 (by simpa [updB] using k)).gw hg
 o2:=fun k=>by simp [updB,y2] at k
 o5:=fun _ k=>by simp [updB,y5] at k
 o7:=fun _ k=>by simp [updB] at k
 x7:=fun _=>⟨(RI.upd_same _ _ _).symm,rfl⟩
 x8:=fun k=>by simp [updB,n8] at k
end
end Go.Proofs.YtjggghfekakogaaGreatDoor
