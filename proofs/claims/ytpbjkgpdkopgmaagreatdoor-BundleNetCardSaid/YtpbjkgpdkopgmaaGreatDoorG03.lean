/- The contracts of token's digits as numbers. The type of slices of bytes, and of bytes. The contracts of token's names, quoted texts. The contracts of dec's parts of a text: an exponent, the whole number taken apart. -/
import Derived.Test.YtpbjkgpdkopgmaaGreatDoorG02
import Derived.IntWalk
import Derived.Test.YtpbjkgpdkopgmaaGreatDoorProg
import Derived.Test.YtpbjkgpdkopgmaaGreatDoorG00
import Derived.Test.YtpbjkgpdkopgmaaGreatDoorG01
import Derived.Lib.SmallJoins
import Derived.Laws.Rows
import Derived.Laws.ResultCell
import Derived.Test.YtpbjkgpdkopgmaaGreatDoorShelf
set_option linter.unusedVariables false
set_option linter.unusedSimpArgs false
set_option linter.unnecessarySimpa false
namespace Go.Proofs.YtpbjkgpdkopgmaaGreatDoor
open Go.RowKit
set_option maxRecDepth 100000 in
set_option maxHeartbeats 1600000 in
theorem natural_any' (b L:Nat) (s:ByteArray) (l:List UInt8) (w:World) (hl:Tx s l) (hd:∀ c ∈ l,isHexS c=true) (hs:(l.length:Int)≤100000) (hb1:(10:Int)≤b) (hb2:(b:Int)≤16)
  (hL1:(4611686018427387904:Int)≤L) (hL2:(L:Int)≤9223372036854775808) :
  Calls Tryz.prog 219 #[.string s,.int .u64 (b:Int),.int .u64 (L:Int)] w fun e w'=>e = .returned (.tuple #[.int .u64 (if L<natB b l then 0 else natB b l:Nat),.bool (!decide (L<natB b l))])∧w'=w:=by
 have HL:=Lib.hid hl
 have HD:=Lib.hid hd
 have hz:(s.size:Int)=(l.length:Int):=by rw [hl.size]
 have hb0:((b:Int) == 0)=false:=by rw [beq_eq_false_iff_ne];omega
 obtain ⟨T,hT⟩:∃ T,Hid (natB b l=T):=⟨_,rfl⟩
 have HM:Hid (∀ n,natB b (l.take n)≤T):=by
  intro n
  rw [← hT.out]
  have:=natB_mono b (by omega) (l.take n) (l.drop n)
  rwa [List.take_append_drop] at this
 rw [hT.out]
 obtain ⟨RA,hRA⟩:∃ RA:Nat,Hid ((if L<T then 0 else T)=RA):=⟨_,rfl⟩
 obtain ⟨RB,hRB⟩:∃ RB:Bool,Hid ((!decide (L<T))=RB):=⟨_,rfl⟩
 rw [hRA.out,hRB.out]
 clear hl hd
 go_enter Tryz.func219,Tryz.ntmps219
 go_wp2_with fail
 go_loopw [6,12] (fun v i wr=>∃ (n V:Nat),v = .int .u64 (V:Int)∧i = .int .i64 n∧n≤l.length∧Hid (natB b (l.take n)=V)∧(V:Int)≤L∧wr=w) (fun _ i _=>(100000 - intOf i).toNat)
 case atStart=>exact ⟨0,0,rfl,rfl,Nat.zero_le _,by unfold Hid;simp [natB],by omega,rfl⟩
 case round =>
  obtain ⟨n,V,rfl,rfl,hn,HV,hVL,rfl⟩:=hrel
  by_cases hlt:n<l.length
  ·obtain ⟨hp,e0⟩:=HL.out.idx n hlt
   obtain ⟨c,hc⟩:∃ c,l[n]=c:=⟨_,rfl⟩
   rw [hc] at e0
   have HX:Hid (isHexS c=true):=by unfold Hid;rw [← hc];exact HD.out _ (List.getElem_mem hlt)
   obtain ⟨D,hD⟩:∃ D,Hid (hexV c=D):=⟨_,rfl⟩
   have hD15:(D:Int)≤15:=by have:=hexV_lt c HX.out;rw [hD.out] at this;omega
   obtain ⟨R,hR⟩:∃ R:Nat,(L:Int) - (D:Int)=(R:Int):=⟨L - D,by omega⟩
   have hR2:(R:Int)≤9223372036854775808:=by omega
   obtain ⟨Q,hQ⟩:∃ Q:Nat,R / b=Q:=⟨_,rfl⟩
   have hQ2:(Q:Int)≤9223372036854775808:=by have:=Nat.div_le_self R b;omega
   have fQ:(R:Int) / (b:Int)=(Q:Int):=by rw [← hQ];rfl
   have hVQ:V≤Q↔b * V+D≤L:=by
    rw [← hQ,Nat.le_div_iff_mul_le (by omega),Nat.mul_comm]
    omega
   obtain ⟨P,hP⟩:∃ P:Nat,b * V=P:=⟨_,rfl⟩
   rw [hP] at hVQ
   have fP:(b:Int) * (V:Int)=(P:Int):=by rw [← hP];push_cast;rfl
   have hNX:natB b (l.take (n+1))=P+D:=by rw [natB_take b l n hlt,HV.out,hc,hD.out,hP]
   have hT1:P+D≤T:=by rw [← hNX];exact HM.out _
   have g1:decide ((n:Int)<(l.length:Int))=true:=decide_eq_true (by omega)
   have HNX:=Lib.hid hNX
   have HVQ:=Lib.hid hVQ
   have HT1:=Lib.hid hT1
   clear hc hQ hP hNX hVQ hT1
   by_cases hle:V≤Q
   ·have g2:decide ((Q:Int)<(V:Int))=false:=decide_eq_false (by omega)
    have g3:¬ Q<V:=by omega
    have hPD:(P:Int)+(D:Int)≤(L:Int):=by have:=HVQ.out.1 hle;omega
    clear hle
    go_wp2_with fail
    refine (digitValue_any c _ HX.out).mono ?_;rintro e w' ⟨rfl,rfl⟩
    rw [hD.out]
    go_wp2_with fail
    go_roundw
    case rel=>exact ⟨n+1,P+D,by go_num,by go_num,hlt,HNX,by omega,by first | rfl | trivial⟩
    case measure=>simp [intOf];omega
   ·have g2:decide ((Q:Int)<(V:Int))=true:=decide_eq_true (by omega)
    have g3:Q<V:=by omega
    have HR:Hid (L<T):=by unfold Hid;have:=HVQ.out;have:=HT1.out;omega
    clear hle
    go_wp2_with fail
    refine (digitValue_any c _ HX.out).mono ?_;rintro e w' ⟨rfl,rfl⟩
    rw [hD.out]
    go_wp2_with fail
    go_ret2
    rw [← hRA.out,← hRB.out,if_pos HR.out,decide_eq_true HR.out]
    exact ⟨rfl,rfl⟩
  ·have g1:decide ((n:Int)<(l.length:Int))=false:=decide_eq_false (by omega)
   have HR:Hid (T=V∧¬ L<T):=by
    have h:T=V:=by rw [← HV.out,List.take_of_length_le (by omega)];exact hT.out.symm
    exact ⟨h,by omega⟩
   go_wp2_with fail
   go_ret2
   rw [← hRA.out,← hRB.out,if_neg HR.out.2,decide_eq_false HR.out.2,HR.out.1]
   exact ⟨rfl,rfl⟩
set_option maxRecDepth 100000 in
set_option maxHeartbeats 1600000 in
theorem hexValue_any (s:ByteArray) (l:List UInt8) (w:World) (hl:Tx s l) (hd:∀ c ∈ l,isHexS c=true) (hs:(l.length:Int)≤100000) :
  Calls Tryz.prog 188 #[.string s] w fun e w'=>e = .returned (.tuple #[.int .i64 (hexS l).1,.int .i64 ((hexS l).2:Nat)])∧w'=w:=by
 have HL:=Lib.hid hl
 have HD:=Lib.hid hd
 have hz:(s.size:Int)=(l.length:Int):=by rw [hl.size]
 obtain ⟨T,hT⟩:∃ T,Hid (natB 16 l=T):=⟨_,rfl⟩
 have HX:Hid (hexS l=if 16<l.length then (0,4) else if 9223372036854775807<T then (0,5) else ((T:Int),0)):=by unfold Hid;rw [← hT.out];rfl
 clear hl hd
 by_cases h16:16<l.length
 ·have g1:decide ((16:Int)<(l.length:Int))=true:=decide_eq_true (by omega)
  have HX2:Hid (hexS l=(0,4)):=by unfold Hid;rw [HX.out,if_pos h16]
  clear h16
  go_enter Tryz.func188,Tryz.ntmps188
  go_wp2_with fail
  go_ret2
  rw [HX2.out]
  exact ⟨rfl,rfl⟩
 ·have g1:decide ((16:Int)<(l.length:Int))=false:=decide_eq_false (by omega)
  have HX2:Hid (hexS l=if 9223372036854775807<T then (0,5) else ((T:Int),0)):=by unfold Hid;rw [HX.out,if_neg h16]
  clear h16
  go_enter Tryz.func188,Tryz.ntmps188
  go_wp2_with fail
  refine (natural_any' 16 9223372036854775807 s l _ HL.out HD.out hs (by decide) (by decide) (by decide) (by decide)).mono ?_;rintro e w' ⟨rfl,rfl⟩
  rw [hT.out]
  by_cases h:9223372036854775807<T
  ·have HX3:Hid (hexS l=(0,5)):=by unfold Hid;rw [HX2.out,if_pos h]
   rw [if_pos h,decide_eq_true h]
   clear h
   go_wp2_with fail
   go_ret2
   rw [HX3.out]
   exact ⟨rfl,rfl⟩
  ·have HX3:Hid (hexS l=((T:Int),0)):=by unfold Hid;rw [HX2.out,if_neg h]
   have hT2:(T:Int)≤9223372036854775807:=by omega
   rw [if_neg h,decide_eq_false h]
   clear h
   go_wp2_with fail
   go_ret2
   rw [HX3.out]
   exact ⟨rfl,rfl⟩
theorem dig_hex (c:UInt8) (h:isDig c=true):isHexS c=true:=by unfold isHexS;rw [h];rfl
set_option maxRecDepth 100000 in
set_option maxHeartbeats 1600000 in
theorem wholeValue_any (s:ByteArray) (l:List UInt8) (w:World) (hl:Tx s l) (h0:l≠[]) (hd:∀ c ∈ l.drop (sgnN l),isDig c=true) (hs:(l.length:Int)≤100000) :
  Calls Tryz.prog 191 #[.string s] w fun e w'=>e = .returned (.tuple #[.int .i64 (wholeS l).1,.int .i64 ((wholeS l).2:Nat)])∧w'=w:=by
 obtain ⟨c,r,rfl⟩:∃ c r,l=c :: r:=by cases l with
  | nil=>exact absurd rfl h0
  | cons c r=>exact ⟨c,r,rfl⟩
 obtain ⟨hp,t0,e0,e1,ht,e2,e3⟩:=hl.cons
 have HL:=Lib.hid hl
 obtain ⟨M,hM⟩:∃ M,sgnN (c :: r)=M:=⟨_,rfl⟩
 obtain ⟨hM1,hM2⟩:=sgnN_le (c :: r)
 obtain ⟨ds,hds⟩:∃ ds,(c :: r).drop M=ds:=⟨_,rfl⟩
 obtain ⟨u,hu,HU⟩:=HL.out.from_ M
 have hz:(M:Int)≤(s.size:Int):=by rw [hl.size];omega
 rw [hM] at hd hM1 hM2
 rw [hds] at hd HU
 have hdl:ds.length≤(c :: r).length:=by rw [← hds];simp
 have hdl2:(ds.length:Int)≤100000:=by omega
 have HD:=Lib.hid hd
 have husz:u.size=ds.length:=HU.out.size
 obtain ⟨T,hT⟩:∃ T,Hid (natB 10 ds=T):=⟨_,rfl⟩
 obtain ⟨neg,hneg⟩:∃ neg,decide (c.toNat=45)=neg:=⟨_,rfl⟩
 have HX:Hid (wholeS (c :: r)=if 60<ds.length then (0,4) else if (if neg then 9223372036854775808 else 9223372036854775807)<T then (0,5) else ((if neg then -(T:Int) else (T:Int)),0)):=by
  have hn:negB (c :: r)=neg:=hneg
  unfold Hid wholeS;dsimp only;rw [hM,hds,hT.out,hn]
 have HM:=Lib.hid hM
 have b45:((c.toNat:Int) == 45)=neg:=by
  rw [← hneg,Bool.eq_iff_iff];simp;omega
 clear hl hd ht hM hds hs hM1 hM2 hdl hneg e1 h0
 go_enter Tryz.func191,Tryz.ntmps191
 go_wp2_with fail
 refine (signLength_any s (c :: r) w HL.out).mono ?_;rintro e w' ⟨rfl,rfl⟩
 rw [HM.out]
 by_cases h60:60<ds.length
 ·have g1:decide ((60:Int)<(ds.length:Int))=true:=decide_eq_true (by omega)
  have HX2:Hid (wholeS (c :: r)=(0,4)):=by unfold Hid;rw [HX.out,if_pos h60]
  clear HX h60
  go_wp2_with fail
  go_ret2
  rw [HX2.out]
  exact ⟨rfl,rfl⟩
 ·have g1:decide ((60:Int)<(ds.length:Int))=false:=decide_eq_false (by omega)
  have HX2:Hid (wholeS (c :: r)=if (if neg then 9223372036854775808 else 9223372036854775807)<T then (0,5) else ((if neg then -(T:Int) else (T:Int)),0)):=by unfold Hid;rw [HX.out,if_neg h60]
  clear HX h60
  cases neg
  ·go_wp2_with fail
   refine (natural_any' 10 9223372036854775807 u ds _ HU.out (fun c hc=>dig_hex c (HD.out c hc)) hdl2 (by decide) (by decide) (by decide) (by decide)).mono ?_;rintro e w' ⟨rfl,rfl⟩
   rw [hT.out]
   by_cases h:9223372036854775807<T
   ·have HX3:Hid (wholeS (c :: r)=(0,5)):=by unfold Hid;rw [HX2.out];simp [h]
    rw [if_pos h,decide_eq_true h]
    clear h
    go_wp2_with fail
    go_ret2
    rw [HX3.out]
    exact ⟨rfl,rfl⟩
   ·have HX3:Hid (wholeS (c :: r)=((T:Int),0)):=by unfold Hid;rw [HX2.out];simp [h]
    have hT2:(T:Int)≤9223372036854775807:=by omega
    rw [if_neg h,decide_eq_false h]
    clear h
    go_wp2_with fail
    go_ret2
    rw [HX3.out]
    exact ⟨rfl,rfl⟩
  ·go_wp2_with fail
   refine (natural_any' 10 9223372036854775808 u ds _ HU.out (fun c hc=>dig_hex c (HD.out c hc)) hdl2 (by decide) (by decide) (by decide) (by decide)).mono ?_;rintro e w' ⟨rfl,rfl⟩
   rw [hT.out]
   by_cases h:9223372036854775808<T
   ·have HX3:Hid (wholeS (c :: r)=(0,5)):=by unfold Hid;rw [HX2.out];simp [h]
    rw [if_pos h,decide_eq_true h]
    clear h
    go_wp2_with fail
    go_ret2
    rw [HX3.out]
    exact ⟨rfl,rfl⟩
   ·have HX3:Hid (wholeS (c :: r)=(-(T:Int),0)):=by unfold Hid;rw [HX2.out];simp [h]
    have hT2:(T:Int)≤9223372036854775808:=by omega
    obtain ⟨Z,hZ,hZ2⟩:∃ Z,IntKind.u64.wrap (-(T:Int))=Z∧IntKind.i64.wrap Z = -(T:Int):=by
     refine ⟨_,rfl,?_⟩
     rw [IntKind.wrap_u64,IntKind.wrap_i64]
     omega
    rw [if_neg h,decide_eq_false h]
    clear h
    go_wp2_with fail
    go_ret2
    rw [HX3.out]
    exact ⟨rfl,rfl⟩
end Go.Proofs.YtpbjkgpdkopgmaaGreatDoor
namespace Go.Proofs.YtpbjkgpdkopgmaaGreatDoor
open Go.RowKit
theorem info_u8:(Tryz.prog.info? 5).map (fun i=>(i.zero,i.size,i.bytes))=some (some (.int .u8 0),1,1):=by kernel_rfl
end Go.Proofs.YtpbjkgpdkopgmaaGreatDoor
namespace Go.Proofs.YtpbjkgpdkopgmaaGreatDoor
open Go.RowKit
theorem twpList_bytes {P:Program} (w:World) {ops:Array Oper} {rest:List Oper} {o:Oper} {a:Act} {Q:Exit→Act→World→Prop} {src dst e:TypeId} (hgd:o.guard=none) (x:Operand) (ho:o.op = .convert src dst x) (hs:P.underlying src=some .string) (hd:P.underlying dst=some (.slice e)) (he:P.underlying e=some (.int .u8))
  (s:ByteArray) (l:List UInt8) (hl:Tx s l) (hx:a.eval x = .string s)
  (h:∀ c w',Rd bv w' (some ⟨w.heap.size,0,none⟩) l→Nx w w'→wpList P ops Q rest (a.put o.dst (.slice (some ⟨w.heap.size,0,none⟩) l.length c)) w'):wpList P ops Q (o :: rest) a w:=by
 refine wpList_plain hgd fun K hK=>?_
 have hrun:=Lib.run_convert_string_bytes (P:=P) w src dst e s hs hd he
 have hn:Nx w (Lib.bytesWorld w e s):=Joins.below_bytesWorld _ w e s (Nat.le_refl _)
 have hr:Rd bv (Lib.bytesWorld w e s) (some ⟨w.heap.size,0,none⟩) l:=by
  intro h0
  refine ⟨w.heap.size,0,rfl,by rw [Lib.bytesWorld_size];omega,fun j hj=>?_⟩
  rw [Nat.zero_add,Lib.bytesWorld_cell w e s j (by rw [hl.size];exact hj),show s.data.toList=l from hl]
  simp [bv,hj]
 have:=hK _ _ (h (grownCap w s.size 0 e) _ hr hn)
 unfold Oper.wp execOp
 simp only [ho,Sem.run_bind,Sem.run_pure,Result.andThen_ok,hx,hrun]
 rw [hl.size] at *
 exact this
set_option maxRecDepth 100000 in
set_option maxHeartbeats 800000 in
theorem tfresh_any (s:ByteArray) (l:List UInt8) (w:World) (hl:Tx s l) :
  Calls Tryz.prog 141 #[.string s] w fun e w'=>e = .returned (.string ⟨l.toArray⟩)∧Nx w w':=by
 go_enter Tryz.func141,Tryz.ntmps141
 go_wp2_with (first
  | (refine twpList_bytes _ (o:=⟨some 4,_,_,_,_,_⟩) rfl _ rfl Tryz.underlying9 Tryz.underlying22 Tryz.underlying5 s l hl rfl ?_;intro c1 w1 hr1 hw1)
  | (refine wpList_str _ (o:=⟨some 5,_,_,_,_,_⟩) rfl _ rfl Tryz.underlying22 Tryz.underlying5 Tryz.underlying9 _ l _ rfl hr1 ?_;intro t HT ht1 ht2))
 go_ret
 rw [HT.out]
 exact ⟨rfl,hw1⟩
theorem results_cell_tmp2_row {P:Program} {fn:Func} {p u v:Tmp} {ty:TypeId} (h:fn.results=#[.cell p ty,.tmp u,.tmp v]) (tmps:Array Value) (w:World) (g:Nat) (t:TypeId) (cs:Array Value) (fr:Nat×Nat) (d:TypeDesc)
  (hp:tmps.getD p undef = .pointer (some ⟨g,0,none⟩)) (hg:w.heap[g]? = some (.cells cs t fr))
  (hu:P.underlying ty=some d) (hd:(match d with | .struct _ | .array _ _=>true | _=>false)=true) (hi:(P.info? ty).map (·.size)=some cs.size) :
  (results fn tmps).run P w = .ok (.tuple #[.agg cs,tmps.getD u undef,tmps.getD v undef]) w:=by
 have hp':tmps[p]?.getD undef = .pointer (some ⟨g,0,none⟩):=by simpa using hp
 simp [results,h,hp',asAddr,run_loadVar_row w g t ty cs fr d hg hu hd hi]
def TokR (e:Ending) (r:Nat×TokV×Nat):Prop :=
 ∃ k t v d p n,e = .returned (.tuple #[.agg #[.int .i64 k,.string t,.int .i64 v,.int .u64 d,.int .i64 p],.int .i64 n,.int .i64 (r.1:Nat)]) ∧
  (r.1=0→#[.int .i64 k,.string t,.int .i64 v,.int .u64 d,.int .i64 p]=tokC r.2.1∧n=(r.2.2:Nat))
theorem dot_is (l:List UInt8):dotBad l=(Lib.hasSuffix l [46] || Lib.contains l [46,46]):=by
 induction l with
 | nil=>rfl
 | cons c r ih =>
  have h1:Lib.hasSuffix (c :: r) [46]=(decide (c=46∧r=[]) || Lib.hasSuffix r [46]):=by
   unfold Lib.hasSuffix
   rw [Bool.eq_iff_iff,Bool.or_eq_true,List.isSuffixOf_iff_suffix,List.isSuffixOf_iff_suffix,List.suffix_cons_iff]
   simp
   constructor
   ·rintro (⟨h,h'⟩ | h)
    ·exact .inl ⟨h.symm,h'⟩
    ·exact .inr h
   ·rintro (⟨h,h'⟩ | h)
    ·exact .inl ⟨h.symm,h'⟩
    ·exact .inr h
  have h2:Lib.contains (c :: r) [46,46]=(decide (c=46∧r.head? = some 46) || Lib.contains r [46,46]):=by
   unfold Lib.contains
   conv=>lhs;unfold Lib.index
   have hp:List.isPrefixOf [46,46] (c :: r)=decide (c=46∧r.head? = some 46):=by
    rw [Bool.eq_iff_iff]
    cases r with
    | nil=>simp [List.isPrefixOf]
    | cons d r=>simp [List.isPrefixOf];exact ⟨fun h=>⟨h.1.symm,h.2.symm⟩,fun h=>⟨h.1.symm,h.2.symm⟩⟩
   rw [hp]
   have hge:=Lib.index_ge r [46,46]
   by_cases hc:c=46∧r.head? = some 46
   ·simp [hc]
   ·rw [if_neg (by simpa using hc),decide_eq_false hc,Bool.false_or]
    by_cases hx:Lib.index r [46,46] = -1
    ·rw [hx];rfl
    ·have:(Lib.index r [46,46] == -1)=false:=by rw [beq_eq_false_iff_ne];exact hx
     rw [this,Bool.eq_iff_iff]
     simp
     omega
  rw [h1,h2]
  unfold dotBad
  rw [ih]
  have h46:decide (c.toNat=46)=decide (c=46):=by
   rw [Bool.eq_iff_iff];simp;rw [← UInt8.toNat_inj];rfl
  rw [h46]
  cases r with
  | nil =>
   by_cases hc:c=46
   ·simp [hc]
   ·simp [hc]
  | cons d r =>
   by_cases hc:c=46
   ·simp [hc,Bool.or_left_comm,Bool.or_comm,Bool.or_assoc]
   ·simp [hc]
set_option maxRecDepth 100000 in
set_option maxHeartbeats 1600000 in
theorem name_any (s:ByteArray) (l:List UInt8) (w:World) (hl:Tx s l) (hs:(l.length:Int)≤100000) (hm:MaxC w) :
  Calls Tryz.prog 136 #[.string s] w fun e w'=>TokR e (nameS l)∧Nx w w':=by
 have HL:=Lib.hid hl
 have hz:(s.size:Int)=(l.length:Int):=by rw [hl.size]
 have HM:=Lib.hid hm
 obtain ⟨N,hN⟩:∃ N,Hid (spanN isNmS l=N):=⟨_,rfl⟩
 have hNl:(N:Int)≤(l.length:Int):=by have:=spanN_le isNmS l;rw [hN.out] at this;omega
 obtain ⟨u,hu,HU⟩:=HL.out.upto N
 have HUD:Hid (u.data.toList=l.take N):=HU.out
 obtain ⟨b1,hb1⟩:∃ b,Hid (Lib.hasSuffix (l.take N) [46]=b):=⟨_,rfl⟩
 obtain ⟨b2,hb2⟩:∃ b,Hid (Lib.contains (l.take N) [46,46]=b):=⟨_,rfl⟩
 have HX:Hid (nameS l=if 120<N then (4,tok0,0) else if (b1 || b2) then (2,tok0,0) else (0,⟨1,l.take N,0,0,0⟩,N)):=by
  unfold Hid nameS;rw [hN.out,dot_is,hb1.out,hb2.out]
 have hus:(u.size:Int)≤100000:=by rw [HU.out.size];simp;omega
 clear hl hm
 go_enter Tryz.func136,Tryz.ntmps136
 go_wp2_with fail
 refine (span_any _ isNmS such_name s l _ HL.out (by omega)).mono ?_;rintro e w' ⟨rfl,rfl⟩
 rw [hN.out]
 by_cases h1:120<N
 ·have g1:decide ((120:Int)<(N:Int))=true:=decide_eq_true (by omega)
  have HX2:Hid (nameS l=(4,tok0,0)):=by unfold Hid;rw [HX.out,if_pos h1]
  clear h1
  go_wp2_with fail
  refine bodyPost_ret (results_cell_tmp2_row rfl _ _ w.heap.size _ _ _ _ rfl (heap_alloc_new w _) Tryz.underlying92 rfl (by kernel_rfl)) rfl ?_
  refine ⟨⟨_,_,_,_,_,_,by rw [HX2.out];rfl,fun h=>?_⟩,nx0 _ _⟩
  rw [HX2.out] at h;cases h
 ·have g1:decide ((120:Int)<(N:Int))=false:=decide_eq_false (by omega)
  have HX2:Hid (nameS l=if (b1 || b2) then (2,tok0,0) else (0,⟨1,l.take N,0,0,0⟩,N)):=by unfold Hid;rw [HX.out,if_neg h1]
  clear h1
  go_wp2_with fail
  refine (Tryz.strings_HasSuffix u ⟨#[46]⟩ _ (by omega)).mono ?_;rintro e w' ⟨rfl,rfl⟩
  rw [HUD.out,show (ByteArray.mk #[46]).data.toList=[46] from rfl,hb1.out]
  cases b1
  ·go_wp2_with fail
   obtain ⟨m,hmm⟩:=HM.out.nx (nx0 w (.cells #[.int .i64 0,.string ⟨#[]⟩,.int .i64 0,.int .u64 0,.int .i64 0] 92))
   refine (Tryz.strings_Contains u ⟨#[46,46]⟩ m _ (by omega) hmm).mono ?_;rintro e w' ⟨rfl,rfl⟩
   rw [HUD.out,show (ByteArray.mk #[46,46]).data.toList=[46,46] from rfl,hb2.out]
   cases b2
   ·have HX3:Hid (nameS l=(0,⟨1,l.take N,0,0,0⟩,N)):=HX2
    clear hmm
    obtain ⟨g,hg⟩:∃ g,w.heap.size=g:=⟨_,rfl⟩
    have hB0:=Blk.new w #[.int .i64 0,.string ⟨#[]⟩,.int .i64 0,.int .u64 0,.int .i64 0] 92
    rw [hg] at hB0
    have hN0:Nx w (w.alloc (Obj.cells #[.int .i64 0,.string ⟨#[]⟩,.int .i64 0,.int .u64 0,.int .i64 0] 92)):=nx0 _ _
    go_wp2_with fail
    refine (tfresh_any u (l.take N) _ HU.out).mono ?_;rintro e w2 ⟨rfl,hw2⟩
    have hB2:=hB0.below hw2
    have hN2:=Nx.trans hN0 hw2
    have c0:w2.cell? ⟨g,0,none⟩=some (.int .i64 0):=hB2.cell 0
    have c1:w2.cell? ⟨g,1,none⟩=some (.string ⟨#[]⟩):=hB2.cell 1
    have c2:w2.cell? ⟨g,2,none⟩=some (.int .i64 0):=hB2.cell 2
    have c3:w2.cell? ⟨g,3,none⟩=some (.int .u64 0):=hB2.cell 3
    have c4:w2.cell? ⟨g,4,none⟩=some (.int .i64 0):=hB2.cell 4
    have f0:=hB2.free 0
    have f1:=hB2.free 1
    have f2:=hB2.free 2
    have f3:=hB2.free 3
    have f4:=hB2.free 4
    go_wp2_with fail
    refine bodyPost_ret (results_cell_tmp2_row rfl _ _ g _ _ _ _ rfl hB2.put5.2 Tryz.underlying92 rfl (by kernel_rfl)) rfl ?_
    refine ⟨⟨_,_,_,_,_,_,by rw [HX3.out];rfl,fun _=>?_⟩,hN2.put5 (by omega)⟩
    rw [HX3.out]
    exact ⟨rfl,rfl⟩
   ·have HX3:Hid (nameS l=(2,tok0,0)):=HX2
    clear hmm
    go_wp2_with fail
    refine bodyPost_ret (results_cell_tmp2_row rfl _ _ w.heap.size _ _ _ _ rfl (heap_alloc_new w _) Tryz.underlying92 rfl (by kernel_rfl)) rfl ?_
    refine ⟨⟨_,_,_,_,_,_,by rw [HX3.out];rfl,fun h=>?_⟩,nx0 _ _⟩
    rw [HX3.out] at h;cases h
  ·have HX3:Hid (nameS l=(2,tok0,0)):=HX2
   go_wp2_with fail
   refine bodyPost_ret (results_cell_tmp2_row rfl _ _ w.heap.size _ _ _ _ rfl (heap_alloc_new w _) Tryz.underlying92 rfl (by kernel_rfl)) rfl ?_
   refine ⟨⟨_,_,_,_,_,_,by rw [HX3.out];rfl,fun h=>?_⟩,nx0 _ _⟩
   rw [HX3.out] at h;cases h
theorem spanN_cut (p:UInt8→Bool) (l:List UInt8) (n:Nat):spanN p (l.take n)=min (spanN p l) n:=by
 induction l generalizing n with
 | nil=>simp [spanN]
 | cons c l ih =>
  cases n with
  | zero=>simp [spanN]
  | succ n =>
   rw [List.take_succ_cons]
   unfold spanN
   by_cases h:p c=true
   ·rw [if_pos h,if_pos h,ih];omega
   ·rw [if_neg h,if_neg h];omega
theorem cells5 {w:World} {B g:Nat} {T:TypeId} {a0 a1 a2 a3 a4:Value} (h:Blk w B g #[a0,a1,a2,a3,a4] T) :
  w.cell? ⟨g,0,none⟩=some a0∧w.cell? ⟨g,1,none⟩=some a1∧w.cell? ⟨g,2,none⟩=some a2∧w.cell? ⟨g,3,none⟩=some a3∧w.cell? ⟨g,4,none⟩=some a4 ∧
  w.frozen? ⟨g,0,none⟩=false∧w.frozen? ⟨g,1,none⟩=false∧w.frozen? ⟨g,2,none⟩=false∧w.frozen? ⟨g,3,none⟩=false∧w.frozen? ⟨g,4,none⟩=false :=
 ⟨h.cell 0,h.cell 1,h.cell 2,h.cell 3,h.cell 4,h.free 0,h.free 1,h.free 2,h.free 3,h.free 4⟩
set_option maxRecDepth 100000 in
set_option maxHeartbeats 1600000 in
theorem quoted_any (s:ByteArray) (q:UInt8) (r:List UInt8) (w:World) (hl:Tx s (q :: r)) (hs:(r.length:Int)≤100000) :
  Calls Tryz.prog 139 #[.string s] w fun e w'=>TokR e (quotedS q r)∧Nx w w':=by
 obtain ⟨hp,t,e0,e1,ht,e2,e3⟩:=hl.cons
 have HT:=Lib.hid ht
 have hz:(t.size:Int)=(r.length:Int):=by rw [ht.size]
 have hz2:(1:Int)≤(s.size:Int):=by omega
 obtain ⟨N,hN⟩:∃ N,Hid (quoteN q r=N):=⟨_,rfl⟩
 obtain ⟨K,hK⟩:∃ K,Hid (lineN r=K):=⟨_,rfl⟩
 have hNl:N≤r.length:=by have:=spanN_le (fun c=>decide (c≠q)) r;rw [show spanN (fun c=>decide (c≠q)) r=N from hN.out] at this;exact this
 have HI:Hid (Lib.indexByte t.data.toList (q.toNat:Int).toNat.toUInt8=if N<r.length then (N:Int) else -1):=by
  unfold Hid
  have hq:(q.toNat:Int).toNat.toUInt8=q:=by rw [Int.toNat_natCast];exact UInt8.ofNat_toNat
  rw [hq,show t.data.toList=r from ht,index_other,show spanN (fun c=>decide (c≠q)) r=N from hN.out]
 have HX:Hid (quotedS q r=if N=r.length∨K<N then (2,tok0,0) else (0,⟨4,r.take N,0,0,0⟩,N+2)):=by
  unfold Hid quotedS;rw [hN.out,hK.out]
 clear hl ht
 obtain ⟨g,hg⟩:∃ g,w.heap.size=g:=⟨_,rfl⟩
 have hB0:=Blk.new w #[.int .i64 0,.string ⟨#[]⟩,.int .i64 0,.int .u64 0,.int .i64 0] 92
 rw [hg] at hB0
 have hN0:Nx w (w.alloc (Obj.cells #[.int .i64 0,.string ⟨#[]⟩,.int .i64 0,.int .u64 0,.int .i64 0] 92)):=nx0 _ _
 go_enter Tryz.func139,Tryz.ntmps139
 go_wp2_with fail
 go_quiet (fail)
 go_wp2_with fail
 generalize hW1:World.drewN _ _=w1
 have hB1:Blk w1 g g #[.int .i64 0,.string ⟨#[]⟩,.int .i64 0,.int .u64 0,.int .i64 0] 92:=by rw [← hW1];exact hB0.drew _
 have hN1:Nx w w1:=by rw [← hW1];exact hN0.dr _
 clear hW1 hB0 hN0
 refine (Tryz.strings_IndexByte t (q.toNat:Int) w1).mono ?_;rintro e w' ⟨rfl,rfl⟩
 rw [HI.out]
 obtain ⟨c0,c1,c2,c3,c4,f0,f1,f2,f3,f4⟩:=cells5 hB1
 have hB:=Lib.hid hB1
 clear hB1
 by_cases hlt:N<r.length
 ·rw [if_pos hlt]
  obtain ⟨u,hu,HU⟩:=HT.out.upto N
  have HX2:Hid (quotedS q r=if K<N then (2,tok0,0) else (0,⟨4,r.take N,0,0,0⟩,N+2)):=by
   unfold Hid;rw [HX.out]
   by_cases hk:K<N
   ·rw [if_pos (.inr hk),if_pos hk]
   ·rw [if_neg (by omega),if_neg hk]
  have HI2:Hid (Lib.indexByte u.data.toList (10:Int).toNat.toUInt8=if K<N then (K:Int) else -1):=by
   unfold Hid
   have h1:=index_other (r.take N) 10
   have h2:spanN (fun c=>decide (c≠10)) r=K:=hK.out
   rw [spanN_cut,h2,List.length_take,Nat.min_eq_left (show N≤r.length by omega)] at h1
   rw [show u.data.toList=r.take N from HU.out]
   refine h1.trans ?_
   by_cases hk:K<N
   ·rw [if_pos hk,if_pos (by omega),Nat.min_eq_left (by omega)]
   ·rw [if_neg hk,if_neg (by omega)]
  have hN0:(N:Int)≤(r.length:Int):=by omega
  go_wp2_with fail
  refine (Tryz.strings_IndexByte u 10 w').mono ?_;rintro e w' ⟨rfl,rfl⟩
  rw [HI2.out]
  by_cases hk:K<N
  ·have HX3:Hid (quotedS q r=(2,tok0,0)):=by unfold Hid;rw [HX2.out,if_pos hk]
   rw [if_pos hk]
   clear hk
   go_wp2_with fail
   refine bodyPost_ret (results_cell_tmp2_row rfl _ _ g _ _ _ _ rfl hB.out.put5.2 Tryz.underlying92 rfl (by kernel_rfl)) rfl ?_
   refine ⟨⟨_,_,_,_,_,_,by rw [HX3.out];rfl,fun h=>?_⟩,hN1.put5 (by omega)⟩
   rw [HX3.out] at h;cases h
  ·have HX3:Hid (quotedS q r=(0,⟨4,r.take N,0,0,0⟩,N+2)):=by unfold Hid;rw [HX2.out,if_neg hk]
   rw [if_neg hk]
   clear hk c0 c1 c2 c3 c4 f0 f1 f2 f3 f4
   go_wp2_with fail
   refine (tfresh_any u (r.take N) _ HU.out).mono ?_;rintro e w2 ⟨rfl,hw2⟩
   have hB2:=hB.out.below hw2
   have hN2:=Nx.trans hN1 hw2
   obtain ⟨c0,c1,c2,c3,c4,f0,f1,f2,f3,f4⟩:=cells5 hB2
   go_wp2_with fail
   refine bodyPost_ret (results_cell_tmp2_row rfl _ _ g _ _ _ _ rfl hB2.put5.2 Tryz.underlying92 rfl (by kernel_rfl)) rfl ?_
   refine ⟨⟨_,_,_,_,_,_,by rw [HX3.out];rfl,fun _=>?_⟩,hN2.put5 (by omega)⟩
   rw [HX3.out]
   exact ⟨rfl,rfl⟩
 ·rw [if_neg hlt]
  have HX3:Hid (quotedS q r=(2,tok0,0)):=by unfold Hid;rw [HX.out,if_pos (.inl (by omega))]
  go_wp2_with fail
  refine bodyPost_ret (results_cell_tmp2_row rfl _ _ g _ _ _ _ rfl hB.out.put5.2 Tryz.underlying92 rfl (by kernel_rfl)) rfl ?_
  refine ⟨⟨_,_,_,_,_,_,by rw [HX3.out];rfl,fun h=>?_⟩,hN1.put5 (by omega)⟩
  rw [HX3.out] at h;cases h
end Go.Proofs.YtpbjkgpdkopgmaaGreatDoor
namespace Go.Proofs.YtpbjkgpdkopgmaaGreatDoor
open Go.RowKit
def capF:List UInt8→Nat→Nat
 | [],v=>v
 | c :: l,v=>capF l (min (10 * v+digV c) 401)
def digs (l:List UInt8):Prop:=∀ c ∈ l,isDig c=true
theorem spanD_digs (l:List UInt8):digs (spanD l).1:=by
 induction l with
 | nil=>intro c hc;cases hc
 | cons a l ih =>
  unfold spanD
  split
  ·rename_i h
   intro c hc
   rcases List.mem_cons.1 hc with rfl | h'
   ·exact h
   ·exact ih c h'
  ·intro c hc;cases hc
theorem spanD_len (l:List UInt8):(spanD l).1.length+(spanD l).2.length=l.length:=by
 conv=>rhs;rw [spanD_app l,List.length_append]
theorem signS_len (l:List UInt8):(signS l).2.length≤l.length:=by
 cases l with
 | nil=>simp [signS]
 | cons c l =>
   unfold signS;dsimp only;split
   ·simp
   ·split <;> simp
theorem capF_take (l:List UInt8) (n:Nat) (h:n<l.length):∀ v,capF (l.take (n+1)) v=min (10 * capF (l.take n) v+digV l[n]) 401:=by
 induction l generalizing n with
 | nil=>simp at h
 | cons a l ih =>
  intro v
  cases n with
  | zero=>simp [capF]
  | succ n =>
   simp only [List.take_succ_cons,capF,List.getElem_cons_succ]
   exact ih n (by simpa using h) _
theorem capF_le (l:List UInt8):∀ v,v≤401→capF l v≤401:=by
 induction l with
 | nil=>intro v h;exact h
 | cons a l ih=>intro v _;exact ih _ (Nat.min_le_right _ _)
set_option maxRecDepth 100000 in
set_option maxHeartbeats 1600000 in
theorem capped_any (s:ByteArray) (l:List UInt8) (w:World) (hl:Tx s l) (hd:digs l) (hs:(l.length:Int)≤10000) :
  Calls Tryz.prog 261 #[.string s] w fun e w'=>e = .returned (.int .i64 (capF l 0:Nat))∧Below w.heap.size w w':=by
 have HL:=Lib.hid hl
 have HD:=Lib.hid hd
 have hz:(s.size:Int)≤10000:=by rw [hl.size];exact hs
 clear hl hd
 go_enter Tryz.func261,Tryz.ntmps261
 go_wp2_with fail
 go_loopw [3,7] (fun a v wr=>∃ (n m:Nat),v = .int .i64 n∧a = .int .i64 m∧n≤l.length∧m≤401∧Hid (capF (l.take n) 0=m)∧Below w.heap.size w wr) (fun _ v _=>(10000 - intOf v).toNat)
 case atStart=>exact ⟨0,0,rfl,rfl,Nat.zero_le _,by decide,by unfold Hid;simp [capF],Below.refl _ _⟩
 case round =>
  obtain ⟨n,m,rfl,rfl,hn,hm,HM,hb⟩:=hrel
  by_cases hlt:n<l.length
  ·obtain ⟨hp,e0⟩:=HL.out.idx n hlt
   obtain ⟨c,hc⟩:∃ c,l[n]=c:=⟨_,rfl⟩
   rw [hc] at e0
   have hcd:=(isDig_iff c).1 (HD.out c (by rw [← hc];exact List.getElem_mem hlt))
   have h48:(48:Int)≤(c.toNat:Int):=by omega
   have h57:(c.toNat:Int)≤57:=by omega
   obtain ⟨M,hM,hM2⟩:∃ M:Nat,min (10 * (m:Int)+((c.toNat:Int) - 48)) 401=(M:Int)∧M=min (10 * m+digV c) 401:=by
    refine ⟨_,?_,rfl⟩
    unfold digV
    omega
   have HN:Hid (capF (l.take (n+1)) 0=M):=by unfold Hid;rw [capF_take l n hlt 0,HM.out,hc,hM2]
   have hM3:M≤401:=by omega
   clear hM2 hcd hc
   go_wp2_with fail
   go_roundw
   case rel=>exact ⟨n+1,M,by go_num,rfl,hlt,hM3,HN,hb⟩
   case measure=>simp [intOf];omega
  ·have g1:¬ n<s.size:=by rw [HL.out.size];omega
   have HE:Hid (capF l 0=m):=by unfold Hid;rw [← HM.out,List.take_of_length_le (by omega)]
   go_wp2_with fail
   go_ret
   refine ⟨?_,hb⟩
   rw [HE.out];rfl
def expD:List UInt8→Int×Bool
 | []=>(0,false)
 | c :: l =>
  if c.toNat=101∨c.toNat=69 then
   (if (signS l).1 then -((capF (spanD (signS l).2).1 0:Nat):Int) else ((capF (spanD (signS l).2).1 0:Nat):Int),!(spanD (signS l).2).1.isEmpty && (spanD (signS l).2).2.isEmpty)
  else (0,false)
set_option maxRecDepth 100000 in
set_option maxHeartbeats 1600000 in
theorem exponent_any (s:ByteArray) (c:UInt8) (l:List UInt8) (w:World) (hl:Tx s (c :: l)) (hs:(l.length:Int)≤9000) :
  Calls Tryz.prog 248 #[.string s] w fun e w'=>e = .returned (.tuple #[.int .i64 (expD (c :: l)).1,.bool (expD (c :: l)).2])∧Below w.heap.size w w':=by
 obtain ⟨hp,t,e0,e1,ht,e2,e3⟩:=hl.cons
 have HT:=Lib.hid ht
 clear ht hl
 have gen:(c.toNat=101∨c.toNat=69)→Calls Tryz.prog 248 #[.string s] w fun e w'=>e = .returned (.tuple #[.int .i64 (expD (c :: l)).1,.bool (expD (c :: l)).2])∧Below w.heap.size w w':=by
  intro hc
  have HX:Hid (expD (c :: l)=(if (signS l).1 then -((capF (spanD (signS l).2).1 0:Nat):Int) else ((capF (spanD (signS l).2).1 0:Nat):Int),!(spanD (signS l).2).1.isEmpty && (spanD (signS l).2).2.isEmpty)):=by
   unfold Hid;simp only [expD,if_pos hc]
  obtain ⟨neg,HNEG⟩:∃ b,Hid ((signS l).1=b):=⟨_,rfl⟩
  obtain ⟨r,HR⟩:∃ b,Hid ((signS l).2=b):=⟨_,rfl⟩
  obtain ⟨ds,HDS⟩:∃ b,Hid ((spanD r).1=b):=⟨_,rfl⟩
  obtain ⟨rest,HREST⟩:∃ b,Hid ((spanD r).2=b):=⟨_,rfl⟩
  have hdl:ds.length+rest.length=r.length:=by rw [← HDS.out,← HREST.out];exact spanD_len r
  have hrl:r.length≤l.length:=by rw [← HR.out];exact signS_len l
  have hds:digs ds:=by rw [← HDS.out];exact spanD_digs r
  have HDG:=Lib.hid hds
  clear hds
  rw [HX.out,HNEG.out,HR.out,HDS.out,HREST.out]
  clear HX
  obtain ⟨V,HV,hV2⟩:∃ V:Nat,Hid (capF ds 0=V)∧V≤401:=⟨_,rfl,capF_le ds 0 (by decide)⟩
  rw [HV.out]
  have hsplit:(((c.toNat:Int) != 101)=false)∨(((c.toNat:Int) != 101)=true∧((c.toNat:Int) != 69)=false):=by
   by_cases h:c.toNat=101
   ·exact .inl (by simp [h])
   ·refine .inr ⟨?_,?_⟩
    ·rw [bne_iff_ne];omega
    ·rw [show c.toNat=69 from by omega];rfl
  clear hc
  rcases hsplit with n1 | ⟨n1,n2⟩
  all_goals
   go_enter Tryz.func248,Tryz.ntmps248
   go_wp2_with fail
   refine (cutSign_any t l _ HT.out (by omega)).mono ?_;rintro e w1 ⟨t1,rfl,HT1,hw1⟩
   rw [HNEG.out]
   rw [HR.out] at HT1
   go_wp2_with fail
   refine (cutDigits_any t1 r _ HT1.out (by omega)).mono ?_;rintro e w2 ⟨t2,t3,rfl,HT2,HT3,hw2⟩
   rw [HDS.out] at HT2
   rw [HREST.out] at HT3
   have hb:=nx hw1 hw2
   go_wp2_with fail
   refine (capped_any t2 ds _ HT2.out HDG.out (by omega)).mono ?_;rintro e w3 ⟨rfl,hw3⟩
   have hb:=nx hb hw3
   rw [HV.out]
   have d1:=HT2.out.toL
   have d2:=HT3.out.toL
   cases neg <;> cases ds <;> cases rest
   all_goals
    go_wp2_with fail
    go_ret2
    exact ⟨rfl,⟨hb.os,hb.tape,hb.output,hb.size,hb.block⟩⟩
 by_cases hc:c.toNat=101∨c.toNat=69
 ·exact gen hc
 ·have HX:Hid (expD (c :: l)=(0,false)):=by unfold Hid;simp only [expD,if_neg hc]
  have n1:((c.toNat:Int) != 101)=true:=by rw [bne_iff_ne];omega
  have n2:((c.toNat:Int) != 69)=true:=by rw [bne_iff_ne];omega
  clear gen hc
  rw [HX.out]
  go_enter Tryz.func248,Tryz.ntmps248
  go_wp2_with fail
  go_ret2
  exact ⟨rfl,Below.refl _ _⟩
end Go.Proofs.YtpbjkgpdkopgmaaGreatDoor
