/- The contracts of the document's letter and digit. The contracts of the document's lexer: its small functions. The contracts of the document's lexer: what parts words. The contract of the document's lexer: space. The contracts of the document's lexer: digits. -/
import Derived.Test.YtbblfkdmkpkmcaaGreatDoorG03
import Derived.Deep.CutBlock
import Derived.Deep.DeepCutAuto
import Derived.Test.YtbblfkdmkpkmcaaGreatDoorG18
set_option linter.unusedVariables false
set_option linter.unusedSimpArgs false
set_option linter.unnecessarySimpa false
namespace Go.Proofs.YtbblfkdmkpkmcaaGreatDoor
open Go.RowKit
def isLtS (c:UInt8):Bool:=isLetS c || decide (c.toNat=95)
theorem isNm_iff (c:UInt8):isNmS c=(isLtS c || isDig c || decide (c.toNat=46)):=by
 unfold isNmS isLtS
 cases isLetS c <;> cases isDig c <;> simp
set_option maxRecDepth 100000 in
set_option maxHeartbeats 800000 in
theorem refLetter_any (c:UInt8) (w:World) :
  Calls Tryz.prog 38 #[.int .u8 (c.toNat:Int)] w fun e w'=>e = .returned (.bool (isLtS c))∧w'=w:=by
 go_enter Tryz.func38,Tryz.ntmps38
 go_wp2_with fail
 all_goals
  go_ret
  refine ⟨congrArg (fun b=>Ending.returned (Value.bool b)) ?_,rfl⟩
  rw [Bool.eq_iff_iff]
  simp [isLtS,isLetS]
  omega
set_option maxRecDepth 100000 in
set_option maxHeartbeats 800000 in
theorem refDigit_any (c:UInt8) (w:World) :
  Calls Tryz.prog 39 #[.int .u8 (c.toNat:Int)] w fun e w'=>e = .returned (.bool (isDig c))∧w'=w:=by
 go_enter Tryz.func39,Tryz.ntmps39
 go_wp2_with fail
 all_goals
  go_ret
  refine ⟨congrArg (fun b=>Ending.returned (Value.bool b)) ?_,rfl⟩
  rw [Bool.eq_iff_iff]
  simp [isDig]
  omega
theorem results_none {P:Program} {fn:Func} (h:fn.results=#[]) (tmps:Array Value) (w:World):(results fn tmps).run P w = .ok (.tuple #[]) w:=by
 simp [results,h]
end Go.Proofs.YtbblfkdmkpkmcaaGreatDoor
namespace Go.Proofs.YtbblfkdmkpkmcaaGreatDoor
open Go.RowKit
def hexI (c:UInt8):Int:=if isHexS c then (hexV c:Nat) else -1
set_option maxRecDepth 100000 in
set_option maxHeartbeats 1600000 in
theorem refHex_any (c:UInt8) (w:World) :
  Calls Tryz.prog 126 #[.int .u8 (c.toNat:Int)] w fun e w'=>e = .returned (.int .i64 (hexI c))∧w'=w:=by
 go_enter Tryz.func126,Tryz.ntmps126
 go_wp2_with fail
 refine (refDigit_any c w).mono ?_;rintro e w' ⟨rfl,rfl⟩
 obtain ⟨D,HD⟩:∃ D,Hid (isDig c=D):=⟨_,rfl⟩
 have hD:isDig c=D:=HD.out
 have h8:(c.toNat:Int)≤255:=by have:=c.toNat_lt;omega
 cases D
 ·have hnd:¬ (48≤c.toNat∧c.toNat≤57):=by rw [← Bool.not_eq_true,isDig_iff] at hD;exact hD
  rw [HD.out]
  by_cases c1:97≤c.toNat∧c.toNat≤102
  ·obtain ⟨R,hR⟩:∃ R:Nat,(c.toNat:Int) - 97=(R:Int):=⟨c.toNat - 97,by omega⟩
   have hX:Hid (hexI c=(R:Int)+10):=by unfold Hid hexI;rw [if_pos ((isHex_iff c).2 (.inr (.inl c1)))];unfold hexV;rw [if_pos c1];omega
   have i1:(97:Int)≤(c.toNat:Int):=by omega
   have i2:(c.toNat:Int)≤102:=by omega
   have b1:decide ((97:Int)≤(c.toNat:Int))=true:=decide_eq_true i1
   have b2:decide ((c.toNat:Int)≤102)=true:=decide_eq_true i2
   have i3:(R:Int)≤5:=by omega
   clear hnd c1 hD
   go_wp2_with fail
   go_ret
   rw [hX.out]
   exact ⟨by first | rfl | go_num,rfl⟩
  ·by_cases c2:65≤c.toNat∧c.toNat≤70
   ·obtain ⟨R,hR⟩:∃ R:Nat,(c.toNat:Int) - 65=(R:Int):=⟨c.toNat - 65,by omega⟩
    have hX:Hid (hexI c=(R:Int)+10):=by unfold Hid hexI;rw [if_pos ((isHex_iff c).2 (.inr (.inr c2)))];unfold hexV;rw [if_neg c1,if_pos c2];omega
    have i1:(65:Int)≤(c.toNat:Int):=by omega
    have i2:(c.toNat:Int)≤70:=by omega
    have b0:decide ((97:Int)≤(c.toNat:Int))=false:=decide_eq_false (by omega)
    have b1:decide ((65:Int)≤(c.toNat:Int))=true:=decide_eq_true i1
    have b2:decide ((c.toNat:Int)≤70)=true:=decide_eq_true i2
    have i3:(R:Int)≤5:=by omega
    clear hnd c1 c2 hD
    go_wp2_with fail
    go_ret
    rw [hX.out]
    exact ⟨by first | rfl | go_num,rfl⟩
   ·have hX:Hid (hexI c = -1):=by unfold Hid hexI;rw [if_neg];rw [isHex_iff];omega
    by_cases d1:97≤c.toNat
    ·have b0:decide ((97:Int)≤(c.toNat:Int))=true:=decide_eq_true (by omega)
     have b1:decide ((c.toNat:Int)≤102)=false:=decide_eq_false (by omega)
     have b2:decide ((65:Int)≤(c.toNat:Int))=true:=decide_eq_true (by omega)
     have b3:decide ((c.toNat:Int)≤70)=false:=decide_eq_false (by omega)
     clear hnd c1 c2 hD
     go_wp2_with fail
     go_ret
     rw [hX.out]
     exact ⟨rfl,rfl⟩
    ·have b0:decide ((97:Int)≤(c.toNat:Int))=false:=decide_eq_false (by omega)
     by_cases d2:65≤c.toNat
     ·have b2:decide ((65:Int)≤(c.toNat:Int))=true:=decide_eq_true (by omega)
      have b3:decide ((c.toNat:Int)≤70)=false:=decide_eq_false (by omega)
      clear hnd c1 c2 hD
      go_wp2_with fail
      go_ret
      rw [hX.out]
      exact ⟨rfl,rfl⟩
     ·have b2:decide ((65:Int)≤(c.toNat:Int))=false:=decide_eq_false (by omega)
      clear hnd c1 c2 hD
      go_wp2_with fail
      go_ret
      rw [hX.out]
      exact ⟨rfl,rfl⟩
 ·have hd:=(isDig_iff c).1 hD
  obtain ⟨R,hR⟩:∃ R:Nat,(c.toNat:Int) - 48=(R:Int):=⟨c.toNat - 48,by omega⟩
  have hX:Hid (hexI c=(R:Int)):=by unfold Hid hexI;rw [if_pos ((isHex_iff c).2 (.inl hd))];unfold hexV;rw [if_neg (by omega),if_neg (by omega)];omega
  have i1:(48:Int)≤(c.toNat:Int):=by omega
  have i2:(c.toNat:Int)≤57:=by omega
  have i3:(R:Int)≤9:=by omega
  rw [HD.out]
  clear hd hD
  go_wp2_with fail
  go_ret
  rw [hX.out]
  exact ⟨rfl,rfl⟩
set_option maxRecDepth 100000 in
set_option maxHeartbeats 1600000 in
theorem starts_any (s:ByteArray) (l:List UInt8) (o:Nat) (a b:UInt8) (w:World) (hl:Tx s l) (hs:(l.length:Int)≤100000) (ho:(o:Int)≤100000) :
  Calls Tryz.prog 87 #[.string s,.int .i64 (o:Int),.string ⟨#[a,b]⟩] w fun e w'=>e = .returned (.bool (decide ((l.drop o).head? = some a∧((l.drop o).drop 1).head? = some b)))∧w'=w:=by
 have hz:(s.size:Int)=(l.length:Int):=by rw [hl.size]
 obtain ⟨B,hB⟩:∃ B,Hid (decide ((l.drop o).head? = some a∧((l.drop o).drop 1).head? = some b)=B):=⟨_,rfl⟩
 rw [hB.out]
 by_cases hlt:o+2≤l.length
 ·obtain ⟨u,hu,HU⟩:=hl.mid o (o+2)
  have g1:decide ((o:Int)+2≤(l.length:Int))=true:=decide_eq_true (by omega)
  have i1:(o:Int)+2≤(l.length:Int):=by omega
  have e1:(u.toList == [a,b])=B:=by
   rw [HU.out.toL,← hB.out,List.drop_take,Bool.eq_iff_iff,beq_iff_eq,decide_eq_true_iff]
   have:o+2 - o=2:=by omega
   rw [this]
   have hd:∃ x y r,l.drop o=x :: y :: r:=by
    have h1:(l.drop o).length=l.length - o:=List.length_drop ..
    match hdl:l.drop o with
    | []=>rw [hdl] at h1;simp at h1;omega
    | [x]=>rw [hdl] at h1;simp at h1;omega
    | x :: y :: r=>exact ⟨x,y,r,rfl⟩
   obtain ⟨x,y,r,hd⟩:=hd
   rw [hd]
   simp
  have e2:((⟨#[a,b]⟩:ByteArray).toList)=[a,b]:=(Tx.of [a,b]).toL
  clear hl
  go_enter Tryz.func87,Tryz.ntmps87
  go_wp2_with fail
  go_ret
  exact ⟨rfl,rfl⟩
 ·have g1:decide ((o:Int)+2≤(l.length:Int))=false:=decide_eq_false (by omega)
  have hb:B=false:=by
   rw [← hB.out]
   rw [decide_eq_false_iff_not]
   rintro ⟨h1,h2⟩
   have h3:(l.drop o).length=l.length - o:=List.length_drop ..
   match hdl:l.drop o with
   | []=>rw [hdl] at h1;simp at h1
   | [x]=>rw [hdl] at h2;simp at h2
   | x :: y :: r=>rw [hdl] at h3;simp at h3;omega
  subst hb
  clear hl hlt
  go_enter Tryz.func87,Tryz.ntmps87
  go_wp2_with fail
  go_ret
  exact ⟨rfl,rfl⟩
end Go.Proofs.YtbblfkdmkpkmcaaGreatDoor
namespace Go.Proofs.YtbblfkdmkpkmcaaGreatDoor
open Go.RowKit
abbrev Lxb (w:World) (b:Nat) (s:ByteArray) (i e a:Nat):Prop:=Blk w b b #[.string s,.int .i64 (i:Int),.int .i64 (e:Int),.int .i64 (a:Int)] 101
theorem Lxb.put1 {w:World} {b:Nat} {s:ByteArray} {i e a:Nat} (h:Lxb w b s i e a) (i':Nat):Lxb (w.setCell ⟨b,1,none⟩ (.int .i64 (i':Int))) b s i' e a:=h.put 1 _
theorem Lxb.fail {w:World} {b:Nat} {s:ByteArray} {i e a:Nat} (h:Lxb w b s i e a) (e' a':Nat):Lxb ((w.setCell ⟨b,2,none⟩ (.int .i64 (e':Int))).setCell ⟨b,3,none⟩ (.int .i64 (a':Int))) b s i e' a':=(h.put 2 _).put 3 _
theorem Lxb.cells {w:World} {b:Nat} {s:ByteArray} {i e a:Nat} (h:Lxb w b s i e a) :
  w.cell? ⟨b,0,none⟩=some (.string s)∧w.cell? ⟨b,1,none⟩=some (.int .i64 (i:Int))∧w.cell? ⟨b,2,none⟩=some (.int .i64 (e:Int))∧w.cell? ⟨b,3,none⟩=some (.int .i64 (a:Int)) ∧
  w.frozen? ⟨b,0,none⟩=false∧w.frozen? ⟨b,1,none⟩=false∧w.frozen? ⟨b,2,none⟩=false∧w.frozen? ⟨b,3,none⟩=false :=
 ⟨h.cell 0,h.cell 1,h.cell 2,h.cell 3,h.free 0,h.free 1,h.free 2,h.free 3⟩
set_option maxRecDepth 100000 in
set_option maxHeartbeats 800000 in
theorem lxfail_any (b:Nat) (s:ByteArray) (i e a E A:Nat) (w:World) (hB:Lxb w b s i e a) :
  Calls Tryz.prog 88 #[.pointer (some ⟨b,0,none⟩),.int .i64 (E:Int),.int .i64 (A:Int)] w fun e' w'=>e' = .returned (.tuple #[])∧Lxb w' b s i E A∧Oth b w w':=by
 obtain ⟨c0,c1,c2,c3,f0,f1,f2,f3⟩:=hB.cells
 have HB:=Lib.hid hB
 clear hB
 go_enter Tryz.func88,Tryz.ntmps88
 go_wp2_with fail
 go_end0
 exact ⟨rfl,HB.out.fail E A,(Oth.set _ _ _ _).own⟩
theorem gap_cons (c:UInt8) (r:List UInt8):gapS (c :: r)=if c=35∨(c=47∧r.head? = some 47) then (lineN (c :: r),true)
  else if c=47∧r.head? = some 42 then (match noteN (r.drop 1) with | none=>(0,false) | some n=>(n+4,true))
  else (spanN isWhS (c :: r),true):=rfl
theorem skip_white (c:UInt8) (r:List UInt8) (h:isWhS c=true):skipS (c :: r)=((skipS r).1+1,(skipS r).2):=by
 have hc:¬ (c=35∨(c=47∧r.head? = some 47))∧¬ (c=47∧r.head? = some 42):=by
  have h1:c≠35:=by rintro rfl;revert h;decide
  have h2:c≠47:=by rintro rfl;revert h;decide
  simp [h1,h2]
 have hg:gapS (c :: r)=(spanN isWhS r+1,true):=by
  rw [gap_cons,if_neg hc.1,if_neg hc.2]
  conv=>lhs;unfold spanN
  rw [if_pos h]
 rw [skipS_step (c :: r),hg]
 dsimp only
 rw [if_neg (by omega),List.drop_succ_cons]
 cases r with
 | nil=>rfl
 | cons d r =>
  by_cases hd:isWhS d=true
  ·have hcd:¬ (d=35∨(d=47∧r.head? = some 47))∧¬ (d=47∧r.head? = some 42):=by
    have h1:d≠35:=by rintro rfl;revert hd;decide
    have h2:d≠47:=by rintro rfl;revert hd;decide
    simp [h1,h2]
   have hgd:gapS (d :: r)=(spanN isWhS (d :: r),true):=by
    rw [gap_cons,if_neg hcd.1,if_neg hcd.2]
   have hpos:spanN isWhS (d :: r)≠0:=by unfold spanN;rw [if_pos hd];omega
   conv=>rhs;rw [skipS_step (d :: r),hgd]
   dsimp only
   rw [if_neg hpos]
   ext
   ·dsimp only;omega
   ·rfl
  ·have h0:spanN isWhS (d :: r)=0:=by unfold spanN;rw [if_neg hd]
   rw [h0,List.drop_zero]
   ext
   ·dsimp only;omega
   ·rfl
theorem skip_line (c:UInt8) (r:List UInt8) (h:c=35∨(c=47∧r.head? = some 47)):skipS (c :: r)=(lineN (c :: r)+(skipS ((c :: r).drop (lineN (c :: r)))).1,(skipS ((c :: r).drop (lineN (c :: r)))).2)∧lineN (c :: r)≠0:=by
 have hg:gapS (c :: r)=(lineN (c :: r),true):=by
  rw [gap_cons,if_pos h]
 have hp:lineN (c :: r)≠0:=by
  unfold lineN spanN
  rw [if_pos]
  ·omega
  ·rcases h with rfl | ⟨rfl,_⟩ <;> decide
 refine ⟨?_,hp⟩
 rw [skipS_step (c :: r),hg]
 dsimp only
 rw [if_neg hp]
theorem skip_note (r:List UInt8) (h:r.head? = some 42):(noteN (r.drop 1)=none→skipS (47 :: r)=(0,false)) ∧
  ∀ n,noteN (r.drop 1)=some n→skipS (47 :: r)=(n+4+(skipS ((47 :: r).drop (n+4))).1,(skipS ((47 :: r).drop (n+4))).2):=by
 have hg:gapS (47 :: r)=match noteN (r.drop 1) with | none=>(0,false) | some n=>(n+4,true):=by
  rw [gap_cons,if_neg (by rw [h];simp),if_pos ⟨rfl,h⟩]
 refine ⟨fun h1=>?_,fun n h1=>?_⟩
 ·rw [skipS_step,hg,h1];rfl
 ·rw [skipS_step,hg,h1]
  dsimp only
  rw [if_neg (by omega)]
theorem skip_none (c:UInt8) (r:List UInt8) (h1:isWhS c=false) (h2:¬ (c=35∨(c=47∧r.head? = some 47))) (h3:¬ (c=47∧r.head? = some 42)):skipS (c :: r)=(0,true):=by
 have hg:gapS (c :: r)=(0,true):=by
  rw [gap_cons,if_neg h2,if_neg h3]
  unfold spanN
  rw [if_neg (by rw [h1];decide)]
 rw [skipS_step,hg]
 rfl
theorem noteN_step (l:List UInt8):(l.head? = some 42∧(l.drop 1).head? = some 47→noteN l=some 0) ∧
  (¬ (l.head? = some 42∧(l.drop 1).head? = some 47)→noteN l=(noteN (l.drop 1)).map (· + 1)):=by
 cases l with
 | nil=>exact ⟨fun h=>by simp at h,fun _=>rfl⟩
 | cons c l =>
  constructor
  ·rintro ⟨h1,h2⟩
   unfold noteN
   rw [if_pos ⟨by simpa using h1,by simpa using h2⟩]
  ·intro h
   conv=>lhs;unfold noteN
   rw [if_neg (fun h'=>h ⟨by simp [h'.1],by simpa using h'.2⟩)]
   rfl
end Go.Proofs.YtbblfkdmkpkmcaaGreatDoor
namespace Go.Proofs.YtbblfkdmkpkmcaaGreatDoor
open Go.RowKit
def atL (b:Nat) (w:World):Nat:=match w.cell? ⟨b,1,none⟩ with
 | some (.int _ n)=>n.toNat
 | _=>0
theorem spanN_lt (p:UInt8→Bool) (l:List UInt8) (m:Nat) (h:m≤spanN p l):m<spanN p l↔∃ h:m<l.length,p l[m]=true:=by
 have hle:=spanN_le p l
 constructor
 ·intro hm
  refine ⟨by omega,spanN_take p l _ ?_⟩
  rw [List.mem_take_iff_getElem]
  exact ⟨m,by omega,rfl⟩
 ·rintro ⟨h1,h2⟩
  rcases Nat.lt_or_ge m (spanN p l) with h3 | h3
  ·exact h3
  ·have:m=spanN p l:=by omega
   subst this
   rcases spanN_drop p l with e | ⟨c,t,e,hc⟩
   ·rw [List.drop_eq_nil_iff] at e;omega
   ·have e2:=List.drop_eq_getElem_cons h1
    rw [e2] at e
    injection e with e3 e4
    rw [e3] at h2
    rw [hc] at h2;cases h2
theorem Tx.byte {s:ByteArray} {l:List UInt8} (h:Tx s l) (o:Nat) (c:UInt8) (r:List UInt8) (hd:l.drop o=c :: r):o<l.length∧∃ hp:o<s.size,s[o]'hp=c:=by
 have h1:o<l.length:=by
  rcases Nat.lt_or_ge o l.length with h | h
  ·exact h
  ·rw [List.drop_eq_nil_iff.2 h] at hd;cases hd
 obtain ⟨hp,e⟩:=h.idx o h1
 refine ⟨h1,hp,?_⟩
 rw [e]
 have e2:=List.drop_eq_getElem_cons h1
 rw [e2] at hd
 injection hd
theorem Lxb.at_ {w:World} {b:Nat} {s:ByteArray} {i e a:Nat} (h:Lxb w b s i e a):atL b w=i:=by
 unfold atL
 rw [show w.cell? ⟨b,1,none⟩=some (.int .i64 (i:Int)) from h.cell 1]
 simp
theorem line_at (l:List UInt8) (m N:Nat) (hN:lineN l=N) (hm:m≤N):(m<N→∃ d t,l.drop m=d :: t∧d≠10)∧(m=N→l.drop m=[]∨∃ t,l.drop m=10 :: t):=by
 constructor
 ·intro h
  obtain ⟨h1,h2⟩:=(spanN_lt (fun c=>decide (c≠10)) l m (by rw [show spanN (fun c=>decide (c≠10)) l=N from hN];exact hm)).1 (by rw [show spanN (fun c=>decide (c≠10)) l=N from hN];exact h)
  exact ⟨_,_,List.drop_eq_getElem_cons h1,of_decide_eq_true h2⟩
 ·rintro rfl
  have h:=spanN_drop (fun c=>decide (c≠10)) l
  rw [show spanN (fun c=>decide (c≠10)) l=m from hN] at h
  rcases h with h | ⟨c,t,h,hc⟩
  ·exact .inl h
  ·right
   have:c=10:=by simpa using hc
   subst this
   exact ⟨t,h⟩
set_option maxRecDepth 100000 in
set_option maxHeartbeats 12800000 in
theorem space_any (b:Nat) (s:ByteArray) (l:List UInt8) (o:Nat) (w:World) (hB:Lxb w b s o 0 0) (hl:Tx s l) (ho:o≤l.length) (hs:(l.length:Int)≤8000) :
  Calls Tryz.prog 46 #[.pointer (some ⟨b,0,none⟩)] w fun e w'=>e = .returned (.tuple #[]) ∧
   ((skipS (l.drop o)).2=true→Lxb w' b s (o+(skipS (l.drop o)).1) 0 0)∧((skipS (l.drop o)).2=false→Lxb w' b s (o+(skipS (l.drop o)).1) 2 (o+(skipS (l.drop o)).1))∧Oth b w w':=by
 have HL:=Lib.hid hl
 have HB:=Lib.hid hB
 have hz:(s.size:Int)=(l.length:Int):=by rw [hl.size]
 obtain ⟨P,hP⟩:∃ P,Hid (skipS (l.drop o)=P):=⟨_,rfl⟩
 rw [hP.out]
 obtain ⟨pn,pb⟩:=P
 dsimp only
 clear hl hB
 go_enter Tryz.func46,Tryz.ntmps46
 go_wp2_with fail
 go_loopw [] (fun wr=>∃ n:Nat,Lxb wr b s (o+n) 0 0∧o+n≤l.length∧Hid (pn=n+(skipS (l.drop (o+n))).1∧(skipS (l.drop (o+n))).2=pb)∧Oth b w wr) (fun wr=>10000 - atL b wr)
 case atStart=>exact ⟨0,HB.out,ho,by unfold Hid;simp [hP.out],Oth.refl _ _⟩
 case round =>
  obtain ⟨n,hC,hn,HS,hO⟩:=hrel
  obtain ⟨l1,hl1⟩:∃ l1,Hid (l.drop (o+n)=l1):=⟨_,rfl⟩
  rw [hl1.out] at HS
  have hl1n:l1.length+(o+n)=l.length:=by rw [← hl1.out];simp;omega
  obtain ⟨O,hOn⟩:∃ O,o+n=O:=⟨_,rfl⟩
  rw [hOn] at hC hn hl1 hl1n
  have hat:atL b wr=O:=by unfold atL;rw [show wr.cell? ⟨b,1,none⟩=some (.int .i64 (O:Int)) from hC.cell 1];simp
  have HC:=Lib.hid hC
  have HO:=Lib.hid hO
  obtain ⟨c0,c1,c2,c3,f0,f1,f2,f3⟩:=hC.cells
  clear hC hO
  cases l1 with
  | nil =>
   have g1:decide ((O:Int)<(l.length:Int))=false:=decide_eq_false (by simp at hl1n;omega)
   have g2:¬ O<l.length:=by simp at hl1n;omega
   have HS2:Hid (pn=n∧pb=true):=by
    have:=HS.out
    rw [show skipS []=(0,true) from rfl] at this
    exact ⟨this.1,this.2.symm⟩
   go_wp2_with fail
   go_quiet (fail)
   go_wp2_with fail
   go_end0
   obtain ⟨rfl,rfl⟩:=HS2.out
   exact ⟨rfl,fun _=>by rw [hOn];exact HC.out,fun h=>by simp at h,(HO.out.trans (Oth.nx ((Nx.refl _).dr _)))⟩
  | cons c r =>
   obtain ⟨hOl,hOs,hc⟩:=HL.out.byte O c r hl1.out
   have g1:decide ((O:Int)<(l.length:Int))=true:=decide_eq_true (by omega)
   have g1':(O:Int)<(l.length:Int):=by omega
   have g2:(O:Int)<(s.size:Int):=by omega
   have hO8:(O:Int)≤8000:=by omega
   have hst:∀ (a b:UInt8) (w:World),Calls Tryz.prog 87 #[.string s,.int .i64 (O:Int),.string ⟨#[a,b]⟩] w fun e w'=>e = .returned (.bool (decide (c=a∧r.head? = some b)))∧w'=w:=by
    intro a b w
    have:=starts_any s l O a b w HL.out (by omega) (by omega)
    rw [hl1.out] at this
    have e:decide ((c :: r).head? = some a∧((c :: r).drop 1).head? = some b)=decide (c=a∧r.head? = some b):=by simp
    rw [e] at this
    exact this
   obtain ⟨B2,hB2⟩:∃ B,Hid (decide (c=47∧r.head? = some 47)=B):=⟨_,rfl⟩
   obtain ⟨B3,hB3⟩:∃ B,Hid (decide (c=47∧r.head? = some 42)=B):=⟨_,rfl⟩
   have hst2:=fun w=>hst 47 47 w
   have hst3:=fun w=>hst 47 42 w
   rw [hB2.out] at hst2
   rw [hB3.out] at hst3
   clear hst
   go_wp2_with fail
   go_quiet (fail)
   go_wp2_with fail
   go_quiet (fail)
   generalize hW:World.drewN (World.drewN wr _) _=w1
   have hC1:Lxb w1 b s O 0 0:=by rw [← hW];exact (HC.out.drew _).drew _
   have hO1:Oth b w w1:=by rw [← hW];exact HO.out.trans (Oth.nx (((Nx.refl _).dr _).dr _))
   clear hW c0 c1 c2 c3 f0 f1 f2 f3 hOs hc
   have HC1:=Lib.hid hC1
   have HO1:=Lib.hid hO1
   obtain ⟨c0,c1,c2,c3,f0,f1,f2,f3⟩:=hC1.cells
   clear hC1 hO1
   by_cases hwh:isWhS c=true
   ·have HSK:=Lib.hid (skip_white c r hwh)
    have h4:((c.toNat:Int) == 9)=true∨((c.toNat:Int) == 9)=false∧(((c.toNat:Int) == 10)=true∨((c.toNat:Int) == 10)=false∧(((c.toNat:Int) == 13)=true∨((c.toNat:Int) == 13)=false∧((c.toNat:Int) == 32)=true)):=by
     unfold isWhS at hwh
     simp only [beq_iff_eq,beq_eq_false_iff_ne]
     simp at hwh
     omega
    clear hwh
    rcases h4 with b1 | ⟨b1,b2 | ⟨b2,b3 | ⟨b3,b4⟩⟩⟩
    all_goals
     go_wp2_with fail
     go_roundw
     case rel =>
      refine ⟨n+1,?_,by omega,?_,HO1.out.own⟩
      ·have e:(O:Int)+1=((o+(n+1):Nat):Int):=by omega
       rw [e]
       exact HC1.out.put1 _
      ·unfold Hid
       have hd:l.drop (o+(n+1))=r:=by
        rw [show o+(n+1)=O+1 by omega,← List.drop_drop,hl1.out];rfl
       rw [hd]
       have h1:=HS.out
       rw [HSK.out] at h1
       exact ⟨by rw [h1.1];omega,h1.2⟩
     case measure =>
      have e:(O:Int)+1=((O+1:Nat):Int):=by omega
      rw [e]
      have h1:=HC1.out.put1 (O+1)
      rw [h1.at_,hat]
      omega
   ·have hwf:((c.toNat:Int) == 9)=false∧((c.toNat:Int) == 10)=false∧((c.toNat:Int) == 13)=false∧((c.toNat:Int) == 32)=false:=by
     unfold isWhS at hwh
     simp only [beq_eq_false_iff_ne]
     simp at hwh
     omega
    obtain ⟨b1,b2,b3,b4⟩:=hwf
    have HWF:Hid (isWhS c=false):=by unfold Hid;simpa using hwh
    clear hwh
    have hln:(((c.toNat:Int) == 35)=true∨((c.toNat:Int) == 35)=false∧B2=true)∨(((c.toNat:Int) == 35)=false∧B2=false):=by
     cases h:((c.toNat:Int) == 35)
     ·cases B2
      ·exact .inr ⟨rfl,rfl⟩
      ·exact .inl (.inr ⟨rfl,rfl⟩)
     ·exact .inl (.inl rfl)
    rcases hln with hln | ⟨b35,rfl⟩
    ·have HLN:Hid (c=35∨(c=47∧r.head? = some 47)):=by
      rcases hln with h | ⟨_,h⟩
      ·left;rw [beq_iff_eq] at h;apply UInt8.toNat_inj.1;have:c.toNat=35:=by omega
       rw [this];rfl
      ·right;subst h;exact of_decide_eq_true hB2.out
     have HSK:=Lib.hid (skip_line c r HLN.out)
     rcases hln with b35 | ⟨b35,rfl⟩
     all_goals
      go_wp2_with fail
      go_quiet (exact Calls.quiet_of_same (hst2 _))
      generalize hW:World.drewN w1 _=w2
      have hC2:Lxb w2 b s O 0 0:=by rw [← hW];exact HC1.out.drew _
      have hO2:Oth b w w2:=by rw [← hW];exact HO1.out.trans (Oth.nx ((Nx.refl _).dr _))
      clear hW c0 c1 c2 c3 f0 f1 f2 f3
      obtain ⟨N,hN⟩:∃ N,Hid (lineN (c :: r)=N):=⟨_,rfl⟩
      have hNl:O+N≤l.length:=by
       have h1:=spanN_le (fun c=>decide (c≠10)) (c :: r)
       rw [show spanN (fun c=>decide (c≠10)) (c :: r)=N from hN.out] at h1
       omega
      go_wp2_with fail
      go_loopw [] (fun wx=>∃ m:Nat,Lxb wx b s (O+m) 0 0∧m≤N∧Oth b w wx) (fun wx=>10000 - atL b wx)
      case atStart=>exact ⟨0,hC2,Nat.zero_le _,hO2⟩
      case round =>
       obtain ⟨m,hCm,hmN,hOm⟩:=hrel
       have hln:=line_at (c :: r) m N hN.out hmN
       have hdr:l.drop (O+m)=(c :: r).drop m:=by rw [← hl1.out,List.drop_drop]
       rw [← hdr] at hln
       obtain ⟨O2,hO2e⟩:∃ O2,O+m=O2:=⟨_,rfl⟩
       rw [hO2e] at hCm hln
       have hat2:=hCm.at_
       have HCm:=Lib.hid hCm
       have HOm:=Lib.hid hOm
       obtain ⟨c0,c1,c2,c3,f0,f1,f2,f3⟩:=hCm.cells
       clear hCm hOm hdr hC2 hO2
       by_cases hlt:m<N
       ·obtain ⟨d,t,hd,hd10⟩:=hln.1 hlt
        obtain ⟨h2l,h2s,h2c⟩:=HL.out.byte O2 d t hd
        have k1:decide ((O2:Int)<(l.length:Int))=true:=decide_eq_true (by omega)
        have k2:(O2:Int)<(s.size:Int):=by omega
        have k3:((d.toNat:Int) != 10)=true:=by
         simp
         intro h
         exact hd10 (UInt8.toNat_inj.1 (by
           have:d.toNat=10:=by omega
           rw [this];rfl))
        have k4:(O2:Int)≤8000:=by omega
        clear hln hd10 hd
        go_wp2_with fail
        go_quiet (fail)
        generalize hW:World.drewN _ _=w3
        have hC3:Lxb w3 b s O2 0 0:=by rw [← hW];exact HCm.out.drew _
        have hO3:Oth b w w3:=by rw [← hW];exact HOm.out.trans (Oth.nx ((Nx.refl _).dr _))
        clear hW c0 c1 c2 c3 f0 f1 f2 f3
        have HC3:=Lib.hid hC3
        obtain ⟨c0,c1,c2,c3,f0,f1,f2,f3⟩:=hC3.cells
        clear hC3
        go_wp2_with fail
        have e:(O2:Int)+1=((O2+1:Nat):Int):=by omega
        go_roundw
        case rel =>
         rw [e]
         refine ⟨m+1,?_,hlt,hO3.own⟩
         rw [show O+(m+1)=O2+1 by omega]
         exact HC3.out.put1 _
        case measure =>
         rw [e,(HC3.out.put1 (O2+1)).at_,hat2]
         omega
       ·obtain rfl:m=N:=by omega
        have HE:Hid (O2≤l.length∧pn=(n+m)+(skipS (l.drop O2)).1∧(skipS (l.drop O2)).2=pb):=by
         have h1:=HS.out
         rw [HSK.out.1] at h1
         have hd:(c :: r).drop (lineN (c :: r))=l.drop O2:=by rw [hN.out,← hO2e,← List.drop_drop,hl1.out]
         rw [hd,hN.out] at h1
         exact ⟨by omega,by rw [h1.1];dsimp only;omega,h1.2⟩
        have HM0:Hid (m≠0):=by unfold Hid;rw [← hN.out];exact HSK.out.2
        have hend:=hln.2 rfl
        clear hln hlt
        have hk:decide ((O2:Int)<(l.length:Int))=false∧¬ O2<l.length∨∃ hp:O2<s.size,decide ((O2:Int)<(l.length:Int))=true∧O2<l.length∧(O2:Int)<(s.size:Int)∧∃ d:UInt8,s[O2]'hp=d∧((d.toNat:Int) != 10)=false:=by
         rcases hend with h | ⟨t,h⟩
         ·rw [List.drop_eq_nil_iff] at h
          exact .inl ⟨decide_eq_false (by omega),by omega⟩
         ·obtain ⟨h2l,h2s,h2c⟩:=HL.out.byte O2 10 t h
          exact .inr ⟨h2s,decide_eq_true (by omega),h2l,by omega,10,h2c,rfl⟩
        clear hend
        rcases hk with ⟨k1,k2⟩ | ⟨h2s,k1,k0,k2,d,k3,k4⟩
        all_goals
         go_wp2_with fail
         go_quiet (fail)
         go_wp2_with fail
         go_roundw
         case rel =>
          refine ⟨n+m,?_,?_,?_,HOm.out.trans (Oth.nx ((Nx.refl _).dr _))⟩
          ·rw [show o+(n+m)=O2 by omega]
           exact HCm.out.drew _
          ·have:=HE.out.1;omega
          ·unfold Hid
           rw [show o+(n+m)=O2 by omega]
           exact HE.out.2
         case measure =>
          have h1:atL b (wr.drewN nq)=O2:=Lxb.at_ (HCm.out.drew nq)
          have:=HM0.out
          omega
    ·have hB3c:B3=true∨B3=false:=by cases B3 <;> simp
     have HNL:Hid (¬ (c=35∨(c=47∧r.head? = some 47))):=by
      rintro (h | h)
      ·subst h;rw [beq_eq_false_iff_ne] at b35;exact b35 rfl
      ·exact of_decide_eq_false hB2.out h
     rcases hB3c with rfl | rfl
     ·obtain ⟨rfl,hr42⟩:=of_decide_eq_true hB3.out
      have HSK:=Lib.hid (skip_note r hr42)
      go_wp2_with fail
      go_quiet (exact Calls.quiet_of_same (hst2 _))
      generalize hW0:World.drewN w1 _=w0
      have hC0:Lxb w0 b s O 0 0:=by rw [← hW0];exact HC1.out.drew _
      have hO0:Oth b w w0:=by rw [← hW0];exact HO1.out.trans (Oth.nx ((Nx.refl _).dr _))
      clear hW0 c0 c1 c2 c3 f0 f1 f2 f3
      obtain ⟨c0,c1,c2,c3,f0,f1,f2,f3⟩:=hC0.cells
      have HC0:=Lib.hid hC0
      have HO0:=Lib.hid hO0
      clear hC0 hO0
      go_wp2_with fail
      go_quiet (exact Calls.quiet_of_same (hst3 _))
      generalize hW:World.drewN w0 _=w2
      have hC2:Lxb w2 b s O 0 0:=by rw [← hW];exact HC0.out.drew _
      have hO2:Oth b w w2:=by rw [← hW];exact HO0.out.trans (Oth.nx ((Nx.refl _).dr _))
      clear hW c0 c1 c2 c3 f0 f1 f2 f3
      have HC2:=Lib.hid hC2
      have HO2:=Lib.hid hO2
      obtain ⟨c0,c1,c2,c3,f0,f1,f2,f3⟩:=hC2.cells
      clear hC2 hO2
      have HDR:Hid (r.drop 1=l.drop (O+2)):=by
       unfold Hid
       rw [← List.drop_drop,hl1.out];rfl
      obtain ⟨NT,hNT⟩:∃ NT,Hid (noteN (l.drop (O+2))=NT):=⟨_,rfl⟩
      have hN0:(O:Int)+2≤8010:=by omega
      have hOr2:O+2+0≤l.length:=by
       cases r with
       | nil=>simp at hr42
       | cons d r=>simp at hl1n;omega
      go_wp2_with fail
      go_loopw [3] (fun kv wx=>∃ m:Nat,kv = .int .i64 ((O+2+m:Nat):Int)∧O+2+m≤l.length∧Hid (NT=(noteN (l.drop (O+2+m))).map (· + m))∧Nx w2 wx) (fun kv _=>(20000 - intOf kv).toNat)
      case atStart=>exact ⟨0,by go_num,hOr2,by unfold Hid;rw [Nat.add_zero,hNT.out];cases NT <;> rfl,Nx.refl _⟩
      case round =>
       obtain ⟨m,rfl,hm,HNT,hnx⟩:=hrel
       obtain ⟨K,hK⟩:∃ K,O+2+m=K:=⟨_,rfl⟩
       rw [hK] at hm HNT
       have HCx:Hid (Lxb wr b s O 0 0):=HC2.out.below hnx
       have HOx:=Lib.hid (HO2.out.trans (Oth.nx hnx))
       obtain ⟨c0,c1,c2,c3,f0,f1,f2,f3⟩:=Lxb.cells HCx.out
       have hKI:((O+2+m:Nat):Int)=(K:Int):=by rw [hK]
       rw [hKI]
       have hst:=noteN_step (l.drop K)
       have hK8:(K:Int)≤8000:=by omega
       by_cases hlt:K<l.length
       ·have k1:decide ((K:Int)<(l.length:Int))=true:=decide_eq_true (by omega)
        obtain ⟨B,hB⟩:∃ B,Hid (decide ((l.drop K).head? = some 42∧((l.drop K).drop 1).head? = some 47)=B):=⟨_,rfl⟩
        go_wp2_with fail
        refine (starts_any s l K 42 47 _ HL.out (by omega) (by omega)).mono ?_;rintro e w' ⟨rfl,rfl⟩
        rw [hB.out]
        cases B
        ·have HNT2:Hid (NT=(noteN (l.drop (K+1))).map (· + (m+1))):=by
          unfold Hid
          rw [HNT.out,hst.2 (of_decide_eq_false hB.out),List.drop_drop,Option.map_map]
          congr 1
          funext x
          show x+1+m=x+(m+1)
          omega
         clear hst
         go_wp2_with fail
         go_roundw
         case rel =>
          refine ⟨m+1,by go_num,by omega,?_,hnx⟩
          rw [show O+2+(m+1)=K+1 by omega]
          exact HNT2
         case measure=>simp [intOf];omega
        ·have HNT2:Hid (NT=some m):=by
          unfold Hid
          rw [HNT.out,hst.1 (of_decide_eq_true hB.out)]
          simp
         have hSK:=HSK.out.2 m (by rw [HDR.out,hNT.out,HNT2.out])
         have HE:Hid (pn=(n+(m+4))+(skipS (l.drop (K+2))).1∧(skipS (l.drop (K+2))).2=pb∧K+2≤l.length):=by
          have h1:=HS.out
          rw [hSK] at h1
          have hd:(47 :: r).drop (m+4)=l.drop (K+2):=by rw [← hl1.out,List.drop_drop];congr 1;omega
          rw [hd] at h1
          have h2:=noteN_lt (l.drop (O+2)) m (by rw [hNT.out,HNT2.out])
          rw [List.length_drop] at h2
          exact ⟨by rw [h1.1];dsimp only;omega,h1.2,by omega⟩
         have k2:decide ((l.length:Int)≤(K:Int))=false:=decide_eq_false (by omega)
         have k3:¬ l.length≤K:=by omega
         clear hst hSK
         go_wp2_with fail
         have e:(K:Int)+2=((K+2:Nat):Int):=by omega
         go_roundw
         case rel =>
          rw [e]
          refine ⟨n+(m+4),?_,?_,?_,HOx.out.own⟩
          ·rw [show o+(n+(m+4))=K+2 by omega]
           exact HCx.out.put1 _
          ·have:=HE.out.2.2;omega
          ·unfold Hid
           rw [show o+(n+(m+4))=K+2 by omega]
           exact ⟨HE.out.1,HE.out.2.1⟩
         case measure =>
          rw [e,(HCx.out.put1 (K+2)).at_]
          omega
       ·have hKl:K=l.length:=by omega
        have HNT2:Hid (NT=none):=by
         unfold Hid
         rw [HNT.out,List.drop_eq_nil_iff.2 (by omega)]
         rfl
        have hSK:=HSK.out.1 (by rw [HDR.out,hNT.out,HNT2.out])
        have HE:Hid (pn=n∧pb=false):=by
         have h1:=HS.out
         rw [hSK] at h1
         exact ⟨h1.1,h1.2.symm⟩
        have k1:decide ((K:Int)<(l.length:Int))=false:=decide_eq_false (by omega)
        have k2:decide ((l.length:Int)≤(K:Int))=true:=decide_eq_true (by omega)
        have k3:¬ K<l.length:=by omega
        have k4:l.length≤K:=by omega
        clear hst hSK hlt
        go_wp2_with fail
        refine (lxfail_any b s O 0 0 2 O _ HCx.out).mono ?_;rintro e w' ⟨rfl,hCf,hOf⟩
        have HCf:=Lib.hid hCf
        have HOf:=Lib.hid hOf
        clear hCf hOf
        go_wp2_with fail
        obtain ⟨rfl,rfl⟩:=HE.out
        refine bodyPost_ret (results_none rfl _ _) rfl ?_
        exact ⟨rfl,fun h=>by simp at h,fun _=>by rw [hOn];exact HCf.out,HOx.out.trans HOf.out⟩
     ·have HSK:=Lib.hid (skip_none c r HWF.out HNL.out (of_decide_eq_false hB3.out))
      go_wp2_with fail
      go_quiet (exact Calls.quiet_of_same (hst2 _))
      generalize hW0:World.drewN w1 _=w0
      have hC0:Lxb w0 b s O 0 0:=by rw [← hW0];exact HC1.out.drew _
      have hO0:Oth b w w0:=by rw [← hW0];exact HO1.out.trans (Oth.nx ((Nx.refl _).dr _))
      clear hW0 c0 c1 c2 c3 f0 f1 f2 f3
      obtain ⟨c0,c1,c2,c3,f0,f1,f2,f3⟩:=hC0.cells
      have HC0:=Lib.hid hC0
      have HO0:=Lib.hid hO0
      clear hC0 hO0
      go_wp2_with fail
      go_quiet (exact Calls.quiet_of_same (hst3 _))
      go_wp2_with fail
      have HF:Hid (pn=n∧pb=true):=by
       have h1:=HS.out
       rw [HSK.out] at h1
       exact ⟨h1.1,h1.2.symm⟩
      obtain ⟨rfl,rfl⟩:=HF.out
      refine bodyPost_ret (results_none rfl _ _) rfl ?_
      exact ⟨rfl,fun _=>by rw [hOn];exact HC0.out.drew _,fun h=>by simp at h,HO0.out.trans (Oth.nx ((Nx.refl _).dr _))⟩
end Go.Proofs.YtbblfkdmkpkmcaaGreatDoor
namespace Go.Proofs.YtbblfkdmkpkmcaaGreatDoor
open Go.RowKit
def hasD:List UInt8→Bool
 | []=>false
 | c :: _=>isDig c
theorem hasD_iff (l:List UInt8):hasD l=decide (digN l≠0):=by
 cases l with
 | nil=>rfl
 | cons c r =>
  cases h:isDig c <;> simp [hasD,digN,spanN,h]
set_option maxRecDepth 100000 in
set_option maxHeartbeats 1600000 in
theorem has_any (b:Nat) (s:ByteArray) (l:List UInt8) (i e a n:Nat) (w:World) (hB:Lxb w b s i e a) (hl:Tx s l) (hi:(i:Int)≤100000) (hn:(n:Int)≤100000) (hs:(l.length:Int)≤100000) :
  Calls Tryz.prog 129 #[.pointer (some ⟨b,0,none⟩),.int .i64 (n:Int)] w fun e' w'=>e' = .returned (.bool (hasD (l.drop (i+n))))∧∃ m,w'=w.drewN m:=by
 have hz:(s.size:Int)=(l.length:Int):=by rw [hl.size]
 obtain ⟨c0,c1,c2,c3,f0,f1,f2,f3⟩:=Lxb.cells hB
 obtain ⟨B,hBB⟩:∃ B,Hid (hasD (l.drop (i+n))=B):=⟨_,rfl⟩
 rw [hBB.out]
 by_cases hlt:i+n<l.length
 ·obtain ⟨hp,e0⟩:=hl.idx (i+n) hlt
  obtain ⟨c,hc⟩:∃ c,l[i+n]=c:=⟨_,rfl⟩
  rw [hc] at e0
  have hd:Hid (isDig c=B):=by
   unfold Hid
   rw [← hBB.out,List.drop_eq_getElem_cons hlt,hc];rfl
  obtain ⟨K,hK⟩:∃ K,i+n=K:=⟨_,rfl⟩
  have hKI:(i:Int)+(n:Int)=(K:Int):=by omega
  have e1:∃ hp:K<s.size,s[K]'hp=c:=by subst hK;exact ⟨hp,e0⟩
  obtain ⟨hp1,e1⟩:=e1
  have g0:K<l.length:=by omega
  have g1:decide ((K:Int)<(l.length:Int))=true:=decide_eq_true (by omega)
  have g3:(K:Int)<(s.size:Int):=by omega
  clear e0 hp
  have hdg:=fun w=>refDigit_any c w
  rw [hd.out] at hdg
  clear hl hB hc hd hlt hK
  go_enter Tryz.func129,Tryz.ntmps129
  go_wp2_with fail
  go_quiet (exact Calls.quiet_of_same (hdg _))
  go_wp2_with fail
  go_ret
  exact ⟨rfl,_,rfl⟩
 ·have hb:B=false:=by
   rw [← hBB.out,List.drop_eq_nil_iff.2 (by omega)];rfl
  subst hb
  have g1:decide ((i:Int)+(n:Int)<(l.length:Int))=false:=decide_eq_false (by omega)
  have g2:¬ (i:Int)+(n:Int)<(l.length:Int):=by omega
  have g3:¬ i+n<l.length:=hlt
  clear hl hB
  go_enter Tryz.func129,Tryz.ntmps129
  go_wp2_with fail
  go_quiet (fail)
  go_wp2_with fail
  go_ret
  exact ⟨rfl,_,rfl⟩
theorem lxspan_at (p:UInt8→Bool) (l:List UInt8) (m:Nat) (hm:m≤spanN p l):(m<spanN p l→∃ d t,l.drop m=d :: t∧p d=true)∧(m=spanN p l→l.drop m=[]∨∃ d t,l.drop m=d :: t∧p d=false):=by
 constructor
 ·intro h
  obtain ⟨h1,h2⟩:=(spanN_lt p l m hm).1 h
  exact ⟨_,_,List.drop_eq_getElem_cons h1,h2⟩
 ·rintro rfl
  exact spanN_drop p l
set_option maxRecDepth 100000 in
set_option maxHeartbeats 3200000 in
theorem digits_any (b:Nat) (s:ByteArray) (l:List UInt8) (i e a:Nat) (w:World) (hB:Lxb w b s i e a) (hl:Tx s l) (hi:i≤l.length) (hs:(l.length:Int)≤8000) :
  Calls Tryz.prog 128 #[.pointer (some ⟨b,0,none⟩)] w fun e' w'=>e' = .returned (.bool (decide (0<digN (l.drop i))))∧Lxb w' b s (i+digN (l.drop i)) e a∧Oth b w w':=by
 have hz:(s.size:Int)=(l.length:Int):=by rw [hl.size]
 have HL:=Lib.hid hl
 have HB:=Lib.hid hB
 obtain ⟨c0,c1,c2,c3,f0,f1,f2,f3⟩:=Lxb.cells hB
 obtain ⟨N,hN⟩:∃ N,Hid (digN (l.drop i)=N):=⟨_,rfl⟩
 have hNl:i+N≤l.length:=by
  have:=digN_le (l.drop i)
  rw [hN.out,List.length_drop] at this;omega
 rw [hN.out]
 obtain ⟨B,hBB⟩:∃ B,Hid (decide (0<N)=B):=⟨_,rfl⟩
 rw [hBB.out]
 clear hl hB
 go_enter Tryz.func128,Tryz.ntmps128
 go_wp2_with fail
 clear c0 c1 c2 c3 f0 f1 f2 f3
 go_loopw [] (fun wx=>∃ m:Nat,Lxb wx b s (i+m) e a∧m≤N∧Oth b w wx) (fun wx=>10000 - atL b wx)
 case atStart=>exact ⟨0,HB.out,Nat.zero_le _,Oth.refl _ _⟩
 case round =>
  obtain ⟨m,hCm,hmN,hOm⟩:=hrel
  have hsp:=lxspan_at isDig (l.drop i) m (by rw [show spanN isDig (l.drop i)=N from hN.out];exact hmN)
  rw [show spanN isDig (l.drop i)=N from hN.out,List.drop_drop] at hsp
  obtain ⟨K,hK⟩:∃ K,i+m=K:=⟨_,rfl⟩
  rw [hK] at hCm hsp
  have hat:=Lxb.at_ hCm
  have HCm:=Lib.hid hCm
  have HOm:=Lib.hid hOm
  obtain ⟨c0,c1,c2,c3,f0,f1,f2,f3⟩:=Lxb.cells hCm
  clear hCm hOm
  by_cases hlt:m<N
  ·obtain ⟨d,t,hd,hdp⟩:=hsp.1 hlt
   obtain ⟨h2l,h2s,h2c⟩:=HL.out.byte K d t hd
   have k1:decide ((K:Int)<(l.length:Int))=true:=decide_eq_true (by omega)
   have k2:(K:Int)<(s.size:Int):=by omega
   have k4:(K:Int)≤8000:=by omega
   have hdg:=fun w=>refDigit_any d w
   rw [hdp] at hdg
   clear hsp hd
   go_wp2_with fail
   go_quiet (exact Calls.quiet_of_same (hdg _))
   generalize hW:World.drewN _ _=w3
   have HC3:Hid (Lxb w3 b s K e a):=by rw [← hW];exact HCm.out.drew _
   have HO3:Hid (Oth b w w3):=by rw [← hW];exact HOm.out.trans (Oth.nx ((Nx.refl _).dr _))
   clear hW c0 c1 c2 c3 f0 f1 f2 f3
   obtain ⟨c0,c1,c2,c3,f0,f1,f2,f3⟩:=Lxb.cells HC3.out
   go_wp2_with fail
   have ek:(K:Int)+1=((K+1:Nat):Int):=by omega
   go_roundw
   case rel =>
    rw [ek]
    refine ⟨m+1,?_,hlt,HO3.out.own⟩
    rw [show i+(m+1)=K+1 by omega]
    exact HC3.out.put1 _
   case measure =>
    rw [ek,(HC3.out.put1 (K+1)).at_,hat]
    omega
  ·obtain rfl:m=N:=by omega
   have hend:=hsp.2 rfl
   have hk:decide ((K:Int)<(l.length:Int))=false∧¬ K<l.length∨∃ (hp:K<s.size) (d:UInt8),decide ((K:Int)<(l.length:Int))=true∧K<l.length∧(K:Int)<(s.size:Int)∧s[K]'hp=d∧isDig d=false:=by
    rcases hend with h | ⟨d,t,h,hd⟩
    ·rw [List.drop_eq_nil_iff] at h
     exact .inl ⟨decide_eq_false (by omega),by omega⟩
    ·obtain ⟨h2l,h2s,h2c⟩:=HL.out.byte K d t h
     exact .inr ⟨h2s,d,decide_eq_true (by omega),h2l,by omega,h2c,hd⟩
   have k6:decide ((i:Int)<(K:Int))=B:=by rw [← hBB.out,Bool.eq_iff_iff,decide_eq_true_iff,decide_eq_true_iff];omega
   have k7:decide (i<K)=B:=by rw [← hBB.out,Bool.eq_iff_iff,decide_eq_true_iff,decide_eq_true_iff];omega
   clear hend hsp hlt
   rcases hk with ⟨k1,k2⟩ | ⟨h2s,d,k1,k0,k2,k3,hdp⟩
   ·go_wp2_with fail
    go_quiet (fail)
    go_wp2_with fail
    go_ret
    refine ⟨by first | rfl | simp [k7],by rw [hK];exact HCm.out.drew _,HOm.out.trans (Oth.nx ((Nx.refl _).dr _))⟩
   ·have hdg:=fun w=>refDigit_any d w
    rw [hdp] at hdg
    go_wp2_with fail
    go_quiet (exact Calls.quiet_of_same (hdg _))
    go_wp2_with fail
    go_ret
    refine ⟨by first | rfl | simp [k7],by rw [hK];exact HCm.out.drew _,HOm.out.trans (Oth.nx ((Nx.refl _).dr _))⟩
end Go.Proofs.YtbblfkdmkpkmcaaGreatDoor
