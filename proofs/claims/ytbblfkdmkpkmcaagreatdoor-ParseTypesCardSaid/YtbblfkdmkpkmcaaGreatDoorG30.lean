/- The contracts of Head, May, Depth, Wire. The contract of Names. The contracts of the document's reading of kinds: its small functions. The contracts of the document's reading of kinds: far, sign. The contracts of the document's reading of kinds: part, given node's. -/
import Derived.Test.YtbblfkdmkpkmcaaGreatDoorG08
import Derived.Deep.CutBlock
import Derived.Deep.DeepCutAuto
set_option linter.unusedVariables false
set_option linter.unusedSimpArgs false
set_option linter.unnecessarySimpa false
namespace Go.Proofs.YtbblfkdmkpkmcaaGreatDoor
open Go.RowKit
end Go.Proofs.YtbblfkdmkpkmcaaGreatDoor
namespace Go.Proofs.YtbblfkdmkpkmcaaGreatDoor
open Go.RowKit
def namesW (l:List UInt8):List ByteArray:=if (wholeT l).1≠0 then [] else nmB (wholeT l).2
end Go.Proofs.YtbblfkdmkpkmcaaGreatDoor
namespace Go.Proofs.YtbblfkdmkpkmcaaGreatDoor
open Go.RowKit
def isLtS (c:UInt8):Bool:=isLetS c || decide (c.toNat=95)
theorem isNm_iff (c:UInt8):isNmS c=(isLtS c || isDig c || decide (c.toNat=46)):=by
 unfold isNmS isLtS
 cases isLetS c <;> cases isDig c <;> simp
theorem far_step (b:Bool) (c:UInt8) (r:List UInt8) (h:isNmS c=true):farF b (c :: r)=((!b || isLtS c) && farF (decide (c=46)) r):=by
 cases b
 ·simp [farF]
 ·have h46:decide (c=46)=decide (c.toNat=46):=by
   rw [decide_eq_decide,← UInt8.toNat_inj];rfl
  rw [isNm_iff] at h
  have e:farF true (c :: r)=((!isDig c && decide (c≠46)) && farF false r):=rfl
  rw [e,h46]
  have h2:decide (c≠46) = !decide (c.toNat=46):=by rw [← h46];simp
  rw [h2]
  by_cases hl:isLtS c=true
  ·have hd:isDig c=false:=by
    rw [Bool.eq_false_iff];intro hd
    simp [isDig] at hd;simp [isLtS,isLetS] at hl;omega
   have h3:decide (c.toNat=46)=false:=decide_eq_false (by simp [isLtS,isLetS] at hl;omega)
   rw [hl,hd,h3];rfl
  ·have hl':isLtS c=false:=by simpa using hl
   rw [hl'] at h ⊢
   cases hd:isDig c
   ·rw [hd] at h
    simp at h
    simp [h]
   ·simp
set_option maxRecDepth 100000 in
set_option maxHeartbeats 800000 in
theorem refLetter_any (c:UInt8) (w:World) :
  Calls Tryz.prog 38 #[.int .u8 (c.toNat:Int)] w fun e w'=>e = .returned (.bool (isLtS c))∧w'=w:=by
 go_enter Tryz.func38,Tryz.ntmps38
 go_wp2_with fail
 all_goals
  go_ret
  refine ⟨congrArg (fun b=>Ending.returned (Value.bool b)) ?_,rfl⟩
  rw [Bool.eq_iff_iff]
  simp [isLtS,isLetS]
  omega
set_option maxRecDepth 100000 in
set_option maxHeartbeats 800000 in
theorem refDigit_any (c:UInt8) (w:World) :
  Calls Tryz.prog 39 #[.int .u8 (c.toNat:Int)] w fun e w'=>e = .returned (.bool (isDig c))∧w'=w:=by
 go_enter Tryz.func39,Tryz.ntmps39
 go_wp2_with fail
 all_goals
  go_ret
  refine ⟨congrArg (fun b=>Ending.returned (Value.bool b)) ?_,rfl⟩
  rw [Bool.eq_iff_iff]
  simp [isDig]
  omega
set_option maxRecDepth 100000 in
set_option maxHeartbeats 6400000 in
theorem refBase_any (s:ByteArray) (l:List UInt8) (w:World) (hl:Tx s l) :
  Calls Tryz.prog 35 #[.string s] w fun e w'=>e = .returned (.int .i64 (kindW l:Nat))∧w'=w:=by
 rcases kindW_is l with h0 | ⟨h1,h2⟩
 ·have hne:∀ k,isKw k→(s.toList == wordK k)=false:=by
   intro k hk
   rw [beq_eq_false_iff_ne,hl.toL]
   intro e
   rw [e,kindW_word k hk] at h0
   subst h0
   simp [isKw] at hk
  have t2:=hne 2 (by simp [isKw])
  have t3:=hne 3 (by simp [isKw])
  have t4:=hne 4 (by simp [isKw])
  have t6:=hne 6 (by simp [isKw])
  have t8:=hne 8 (by simp [isKw])
  have t10:=hne 10 (by simp [isKw])
  have t11:=hne 11 (by simp [isKw])
  have t13:=hne 13 (by simp [isKw])
  have t14:=hne 14 (by simp [isKw])
  have t15:=hne 15 (by simp [isKw])
  have t16:=hne 16 (by simp [isKw])
  simp only [wordK,reduceIte,Nat.reduceEqDiff] at t2 t3 t4 t6 t8 t10 t11 t13 t14 t15 t16
  rw [h0]
  clear hne hl h0
  go_enter Tryz.func35,Tryz.ntmps35
  go_wp2_with fail
  go_ret
  exact ⟨rfl,rfl⟩
 ·obtain rfl:=hl.eq
  clear hl
  generalize hK:kindW l=k at *
  subst h2
  rcases h1 with rfl | rfl | rfl | rfl | rfl | rfl | rfl | rfl | rfl | rfl | rfl
  all_goals
   clear hK
   simp only [wordK,reduceIte,Nat.reduceEqDiff]
   go_enter Tryz.func35,Tryz.ntmps35
   go_wp2_with fail
   go_ret
   exact ⟨rfl,rfl⟩
end Go.Proofs.YtbblfkdmkpkmcaaGreatDoor
namespace Go.Proofs.YtbblfkdmkpkmcaaGreatDoor
open Go.RowKit
set_option maxRecDepth 100000 in
set_option maxHeartbeats 6400000 in
theorem refFar_any (s:ByteArray) (l:List UInt8) (w:World) (hl:Tx s l) (hn:∀ c ∈ l,isNmS c=true) (hs:(l.length:Int)≤8000) :
  Calls Tryz.prog 84 #[.string s] w fun e w'=>e = .returned (.bool (farF true l))∧w'=w:=by
 have HL:=Lib.hid hl
 have HNm:=Lib.hid hn
 cases l with
 | nil =>
  obtain ⟨h1,h2⟩:=hl.nil
  rw [show farF true []=false from rfl]
  clear hl hn HL
  go_enter Tryz.func84,Tryz.ntmps84
  go_wp2_with fail
  go_ret
  exact ⟨rfl,rfl⟩
 | cons c0 l0 =>
  obtain ⟨hp0,t0,-,-,-,hne,hne2⟩:=hl.cons
  generalize hl1:c0 :: l0=l at *
  have hlen:1≤l.length:=by rw [← hl1];simp
  have hz:(s.size:Int)=(l.length:Int):=by rw [hl.size]
  have HZ:=Lib.hid hz
  clear hl hn hl1 hz
  go_enter Tryz.func84,Tryz.ntmps84
  go_wp2_with fail
  go_loopw [3] (fun iv wr=>∃ (i:Nat) (b:Bool),iv = .int .i64 (i:Int)∧i≤l.length∧Hid (b=(decide (i=0) || decide (l[i - 1]? = some 46)))∧Hid (farF true l=farF b (l.drop i))∧wr=w) (fun iv _=>10000 - (intOf iv).toNat)
  case atStart=>exact ⟨0,true,rfl,Nat.zero_le _,by unfold Hid;simp,by unfold Hid;simp,rfl⟩
  case round =>
   obtain ⟨i,b,rfl,hi,HB,HF,rfl⟩:=hrel
   obtain ⟨l1,hl1⟩:∃ l1,Hid (l.drop i=l1):=⟨_,rfl⟩
   have hl1n:l1.length+i=l.length:=by rw [← hl1.out];simp;omega
   rw [hl1.out] at HF
   have hi8:(i:Int)≤8000:=by omega
   cases l1 with
   | nil =>
    have hil:i=l.length:=by simpa using hl1n
    obtain ⟨hpl,hxl⟩:=HL.out.idx (l.length - 1) (by omega)
    obtain ⟨p,hp⟩:∃ p,Hid (l[l.length - 1]'(by omega)=p):=⟨_,Lib.hid rfl⟩
    have hxp:s[l.length - 1]'hpl=p:=by rw [hxl];exact hp.out
    have hbp:b=decide (p=46):=by
     rw [HB.out,hil,List.getElem?_eq_getElem (by omega),hp.out,decide_eq_false (by omega:¬ l.length=0)]
     simp
    have hr:farF true l=((p.toNat:Int) != 46):=by
     rw [HF.out,hbp]
     show (!decide (p=46))=_
     rw [Bool.eq_iff_iff]
     simp only [Bool.not_eq_true',decide_eq_false_iff_not,bne_iff_ne,ne_eq,← UInt8.toNat_inj]
     show ¬ p.toNat=46↔_
     omega
    obtain ⟨j,hj⟩:∃ j,l.length - 1=j:=⟨_,rfl⟩
    have hjI:(s.size:Int) - 1=(j:Int):=by rw [HZ.out];omega
    have hjl:(j:Int)<(s.size:Int):=by omega
    simp only [hj] at hxp hpl
    have g1:decide ((i:Int)<(s.size:Int))=false:=decide_eq_false (by rw [HZ.out];omega)
    have g2:¬ i<s.size:=by have:=HZ.out;omega
    have HR:=Lib.hid hr
    clear hxl hbp hr HB HF
    go_wp2_with fail
    go_ret
    exact ⟨congrArg (fun b=>Ending.returned (Value.bool b)) HR.out.symm,rfl⟩
   | cons c r =>
    obtain ⟨hil,hp,hxc⟩:=HL.out.byteK i c r hl1.out
    have g1:decide ((i:Int)<(s.size:Int))=true:=decide_eq_true (by omega)
    have g2:(i:Int)<(s.size:Int):=by omega
    have hcm:isNmS c=true:=HNm.out c (by
     have:c ∈ l.drop i:=by rw [hl1.out];simp
     exact List.mem_of_mem_drop this)
    have hst:=far_step b c r hcm
    have HST:=Lib.hid hst
    have hnb:Hid (decide (c=46)=(decide (i+1=0) || decide (l[i+1 - 1]? = some 46))):=by
     unfold Hid
     have e1:l[i]? = some c:=by
      have:(l.drop i)[0]? = some c:=by rw [hl1.out];rfl
      simpa using this
     rw [Nat.add_sub_cancel,e1];simp
    obtain ⟨B,HBl⟩:∃ B,Hid (isLtS c=B):=⟨_,rfl⟩
    have hcall:∀ w,Calls Tryz.prog 38 #[.int .u8 (c.toNat:Int)] w fun e w'=>e = .returned (.bool B)∧w'=w:=by
     intro w;have:=refLetter_any c w;rw [HBl.out] at this;exact this
    have HD:=Lib.hid (drop_cons hl1.out)
    clear hst hcm
    by_cases hi0:i=0
    ·subst hi0
     have hb1:b=true:=by rw [HB.out];simp
     subst hb1
     cases B
     ·have hr:farF true l=false:=by rw [HF.out,HST.out,HBl.out];rfl
      have HR:=Lib.hid hr
      clear HF HST HB hr
      go_wp2_with fail
      refine (hcall _).mono ?_;rintro e w' ⟨rfl,rfl⟩
      go_wp2_with fail
      go_ret
      exact ⟨congrArg (fun b=>Ending.returned (Value.bool b)) HR.out.symm,rfl⟩
     ·have hr:Hid (farF true l=farF (decide (c=46)) r):=by unfold Hid;rw [HF.out,HST.out,HBl.out];rfl
      clear HF HST HB
      go_wp2_with fail
      refine (hcall _).mono ?_;rintro e w' ⟨rfl,rfl⟩
      go_wp2_with fail
      go_roundw
      case rel=>exact ⟨1,_,rfl,by omega,hnb,by rw [show l.drop 1=r from HD.out];exact hr,trivial⟩
      case measure=>simp [intOf]
    ·obtain ⟨j,hj⟩:∃ j,i - 1=j:=⟨_,rfl⟩
     obtain ⟨hpl,hxl⟩:=HL.out.idx j (by omega)
     obtain ⟨p,hpe⟩:∃ p,Hid (l[j]'(by omega)=p):=⟨_,Lib.hid rfl⟩
     have hxp:s[j]'hpl=p:=by rw [hxl];exact hpe.out
     have hbp:b=decide (p=46):=by
      rw [HB.out,hj,List.getElem?_eq_getElem (by omega),hpe.out,decide_eq_false hi0]
      simp
     have hjI:(i:Int) - 1=(j:Int):=by omega
     have hjl:(j:Int)<(s.size:Int):=by omega
     have z1:((i:Int) == 0)=false:=by rw [beq_eq_false_iff_ne];omega
     by_cases hp46:p=46
     ·have z2:((p.toNat:Int) == 46)=true:=by subst hp46;rfl
      have hb1:b=true:=by rw [hbp];exact decide_eq_true hp46
      subst hb1
      cases B
      ·have hr:farF true l=false:=by rw [HF.out,HST.out,HBl.out];rfl
       have HR:=Lib.hid hr
       clear HF HST HB hr hp46 hbp hxl
       go_wp2_with fail
       refine (hcall _).mono ?_;rintro e w' ⟨rfl,rfl⟩
       go_wp2_with fail
       go_ret
       exact ⟨congrArg (fun b=>Ending.returned (Value.bool b)) HR.out.symm,rfl⟩
      ·have hr:Hid (farF true l=farF (decide (c=46)) r):=by unfold Hid;rw [HF.out,HST.out,HBl.out];rfl
       clear HF HST HB hp46 hbp hxl
       go_wp2_with fail
       refine (hcall _).mono ?_;rintro e w' ⟨rfl,rfl⟩
       go_wp2_with fail
       go_roundw
       case rel=>exact ⟨i+1,_,by go_num,by omega,hnb,by rw [HD.out];exact hr,trivial⟩
       case measure=>simp [intOf];omega
     ·have z2:((p.toNat:Int) == 46)=false:=by
       rw [beq_eq_false_iff_ne];intro h;exact hp46 (UInt8.toNat_inj.1 (by show _=46;omega))
      have hb1:b=false:=by rw [hbp];exact decide_eq_false hp46
      subst hb1
      have hr:Hid (farF true l=farF (decide (c=46)) r):=by unfold Hid;rw [HF.out,HST.out];rfl
      clear HF HST HB hp46 hbp hxl
      go_wp2_with fail
      go_roundw
      case rel=>exact ⟨i+1,_,by go_num,by omega,hnb,by rw [HD.out];exact hr,trivial⟩
      case measure=>simp [intOf];omega
theorem results_none {P:Program} {fn:Func} (h:fn.results=#[]) (tmps:Array Value) (w:World):(results fn tmps).run P w = .ok (.tuple #[]) w:=by
 simp [results,h]
def TyC (w:World) (b:Nat) (s:ByteArray) (o e:Nat):Prop :=
 Blk w 0 b #[.string s,.int .i64 (o:Int),.int .i64 (e:Int)] 97
theorem TyC.drew {w:World} {b:Nat} {s:ByteArray} {o e:Nat} (h:TyC w b s o e) (n:Nat):TyC (w.drewN n) b s o e:=Blk.drew h n
theorem TyC.put1 {w:World} {b:Nat} {s:ByteArray} {o e:Nat} (h:TyC w b s o e) (o':Nat):TyC (w.setCell ⟨b,1,none⟩ (.int .i64 (o':Int))) b s o' e:=Blk.put h 1 _
theorem TyC.put2 {w:World} {b:Nat} {s:ByteArray} {o e:Nat} (h:TyC w b s o e) (e':Nat):TyC (w.setCell ⟨b,2,none⟩ (.int .i64 (e':Int))) b s o e':=Blk.put h 2 _
theorem TyC.at_ {w:World} {b:Nat} {s:ByteArray} {o e:Nat} (h:TyC w b s o e):atK b w=o:=by
 unfold atK
 rw [show w.cell? ⟨b,1,none⟩=some (.int .i64 (o:Int)) from h.cell 1]
 simp
theorem TyC.cells {w:World} {b:Nat} {s:ByteArray} {o e:Nat} (h:TyC w b s o e) :
  w.cell? ⟨b,0,none⟩=some (.string s)∧w.cell? ⟨b,1,none⟩=some (.int .i64 (o:Int))∧w.cell? ⟨b,2,none⟩=some (.int .i64 (e:Int))∧w.frozen? ⟨b,1,none⟩=false∧w.frozen? ⟨b,2,none⟩=false :=
 ⟨h.cell 0,h.cell 1,h.cell 2,h.free 1,h.free 2⟩
set_option maxRecDepth 100000 in
set_option maxHeartbeats 1600000 in
theorem tsign_any (b:Nat) (s:ByteArray) (l:List UInt8) (o:Nat) (x:UInt8) (w:World) (hC:TyC w b s o 0) (hl:Tx s l) (ho:o≤l.length) (hs:(l.length:Int)≤8000) :
  Calls Tryz.prog 86 #[.pointer (some ⟨b,0,none⟩),.int .u8 (x.toNat:Int)] w fun e w'=>e = .returned (.tuple #[]) ∧
   TyC w' b s (o+(if (l.drop o).head? = some x then 1 else 0)) (if (l.drop o).head? = some x then 0 else 2)∧Oth b w w':=by
 have HL:=Lib.hid hl
 have HC:=Lib.hid hC
 obtain ⟨c0,c1,c2,f1,f2⟩:=hC.cells
 have hz:(s.size:Int)=(l.length:Int):=by rw [hl.size]
 have HZ:=Lib.hid hz
 obtain ⟨l1,hl1⟩:∃ l1,Hid (l.drop o=l1):=⟨_,rfl⟩
 have hl1n:l1.length+o=l.length:=by rw [← hl1.out];simp;omega
 rw [hl1.out]
 clear hl hC hz
 cases l1 with
 | nil =>
  have g1:((o:Int) == (s.size:Int))=true:=by rw [beq_iff_eq,HZ.out];simp at hl1n;omega
  go_enter Tryz.func86,Tryz.ntmps86
  go_wp2_with fail
  go_quiet (fail)
  go_wp2_with fail
  first | go_end0 | refine bodyPost_ret (results_none rfl _ _) rfl ?_
  exact ⟨rfl,(HC.out.drew _).put2 2,(Oth.nx ((Nx.refl _).dr _)).own⟩
 | cons c r =>
  obtain ⟨hol,hp,hxc⟩:=HL.out.byteK o c r hl1.out
  have g1:((o:Int) == (s.size:Int))=false:=by rw [beq_eq_false_iff_ne];omega
  have g2:(o:Int)<(s.size:Int):=by omega
  have ho8:(o:Int)≤8000:=by omega
  by_cases hx:c=x
  ·have g3:((c.toNat:Int) != (x.toNat:Int))=false:=by subst hx;simp
   have e2:(c :: r).head? = some x:=by rw [hx];rfl
   rw [if_pos e2,if_pos e2]
   have HX:=Lib.hid hx
   clear hx e2
   go_enter Tryz.func86,Tryz.ntmps86
   go_wp2_with fail
   go_quiet (fail)
   go_wp2_with fail
   first | go_end0 | refine bodyPost_ret (results_none rfl _ _) rfl ?_
   exact ⟨rfl,(HC.out.drew _).put1 (o+1),(Oth.nx ((Nx.refl _).dr _)).own⟩
  ·have g3:((c.toNat:Int) != (x.toNat:Int))=true:=by
    rw [bne_iff_ne]
    intro h
    exact hx (UInt8.toNat_inj.1 (by omega))
   have e2:¬ (c :: r).head? = some x:=by simpa using hx
   rw [if_neg e2,if_neg e2]
   clear hx e2
   go_enter Tryz.func86,Tryz.ntmps86
   go_wp2_with fail
   go_quiet (fail)
   go_wp2_with fail
   first | go_end0 | refine bodyPost_ret (results_none rfl _ _) rfl ?_
   exact ⟨rfl,(HC.out.drew _).put2 2,(Oth.nx ((Nx.refl _).dr _)).own⟩
end Go.Proofs.YtbblfkdmkpkmcaaGreatDoor
namespace Go.Proofs.YtbblfkdmkpkmcaaGreatDoor
open Go.RowKit
def NodeR (w:World) (b:Nat) (s:ByteArray) (l:List UInt8) (o:Nat) (P:Nat×Ty×Nat) (e:Ending) (w':World):Prop :=
 ∃ (k:Int) (N A B:ByteArray) (o':Nat),e = .returned (.agg #[.int .i64 k,.string N,.string A,.string B])∧TyC w' b s o' P.1∧o≤o'∧o'≤l.length∧Oth b w w'∧(P.1=0→o'=o+P.2.2∧HeadIs P.2.1 k N A B)
def NodeC (r:Nat):Prop:=∀ (b:Nat) (s:ByteArray) (l:List UInt8) (o:Nat) (w:World) (D:Int),D+r=13→1≤D→TyC w b s o 0→Tx s l→o≤l.length→(l.length:Int)≤8000 →
 Calls Tryz.prog 45 #[.pointer (some ⟨b,0,none⟩),.int .i64 D] w (NodeR w b s l o (parT r (l.drop o)))
set_option maxRecDepth 100000 in
set_option maxHeartbeats 1600000 in
theorem tpart_err (b:Nat) (s:ByteArray) (o E:Nat) (c:UInt8) (w:World) (D:Int) (hC:TyC w b s o E) (hE:E≠0) :
  Calls Tryz.prog 85 #[.pointer (some ⟨b,0,none⟩),.int .u8 (c.toNat:Int),.int .i64 D] w fun e w'=>e = .returned (.string ⟨#[]⟩)∧w'=w:=by
 have c2:w.cell? ⟨b,2,none⟩=some (.int .i64 (E:Int)):=hC.cell 2
 have h1:((E:Int) != 0)=true:=by rw [bne_iff_ne];omega
 clear hC
 go_enter Tryz.func85,Tryz.ntmps85
 go_wp2_with fail
 go_ret
 exact ⟨rfl,rfl⟩
def PartP (w:World) (b:Nat) (s:ByteArray) (l:List UInt8) (o:Nat) (c:UInt8) (P:Nat×Ty×Nat) (e:Ending) (w':World):Prop :=
 ∃ (u:ByteArray) (o':Nat),e = .returned (.string u)∧TyC w' b s o' (if (l.drop o).head? = some c then P.1 else 2)∧o≤o'∧o'≤l.length∧Oth b w w'∧((l.drop o).head? = some c→P.1=0→o'=o+1+P.2.2∧Tx u (showT P.2.1))
set_option maxRecDepth 100000 in
set_option maxHeartbeats 3200000 in
theorem tpart_any (r:Nat) (hN:NodeC r) (b:Nat) (s:ByteArray) (l:List UInt8) (o:Nat) (c:UInt8) (w:World) (D:Int) (hD:D+1+r=13) (hD1:1≤D) (hC:TyC w b s o 0) (hl:Tx s l) (ho:o≤l.length) (hs:(l.length:Int)≤8000) :
  Calls Tryz.prog 85 #[.pointer (some ⟨b,0,none⟩),.int .u8 (c.toNat:Int),.int .i64 D] w (PartP w b s l o c (parT r (l.drop (o+1)))):=by
 have HL:=Lib.hid hl
 have HC:=Lib.hid hC
 have HN:=Lib.hid hN
 have c2:w.cell? ⟨b,2,none⟩=some (.int .i64 0):=hC.cell 2
 have hz:(s.size:Int)=(l.length:Int):=by rw [hl.size]
 have HZ:=Lib.hid hz
 have hso:=parT_sound r (l.drop (o+1))
 obtain ⟨P,hP⟩:∃ P,Hid (parT r (l.drop (o+1))=P):=⟨_,rfl⟩
 rw [hP.out] at hso ⊢
 have HSO:=Lib.hid hso
 have hD2:D≤12:=by omega
 clear hl hC hN hz hso
 go_enter Tryz.func85,Tryz.ntmps85
 go_wp2_with fail
 refine (tsign_any b s l o c w HC.out HL.out ho hs).mono ?_;rintro e w1 ⟨rfl,hC1,hO1⟩
 clear c2
 by_cases hh:(l.drop o).head? = some c
 ·rw [if_pos hh,if_pos hh] at hC1
  have hol:o+1≤l.length:=by
   rcases Nat.lt_or_ge o l.length with h | h
   ·exact h
   ·rw [List.drop_eq_nil_of_le h] at hh;cases hh
  have c1:w1.cell? ⟨b,1,none⟩=some (.int .i64 ((o+1:Nat):Int)):=hC1.cell 1
  have c2:w1.cell? ⟨b,2,none⟩=some (.int .i64 0):=hC1.cell 2
  have HC1:=Lib.hid hC1
  have HO1:=Lib.hid hO1
  have HH:=Lib.hid hh
  obtain ⟨O1,hO1e⟩:∃ O1,o+1=O1:=⟨_,rfl⟩
  have HO1E:=Lib.hid hO1e
  rw [hO1e] at c1 HC1 hol hP
  clear hC1 hO1 hh hO1e
  obtain ⟨D1,hD1e⟩:∃ D1,D+1=D1:=⟨_,rfl⟩
  go_wp2_with fail
  have hn:=HN.out b s l O1 w1 D1 (by omega) (by omega) HC1.out HL.out hol hs
  rw [hP.out] at hn
  refine hn.mono ?_;rintro e w2 ⟨k,N,A,B,o',rfl,hC2,ho1,ho2,hO2,hok⟩
  clear hn c1 c2
  have c0:w2.cell? ⟨b,0,none⟩=some (.string s):=hC2.cell 0
  have c1:w2.cell? ⟨b,1,none⟩=some (.int .i64 (o':Int)):=hC2.cell 1
  have HC2:=Lib.hid hC2
  have HO2:=Lib.hid (HO1.out.trans hO2)
  have HOK:=Lib.hid hok
  obtain ⟨u,hu,HU⟩:=HL.out.mid O1 o'
  have i1:(O1:Int)≤(o':Int):=by omega
  have i2:(o':Int)≤(s.size:Int):=by rw [HZ.out];omega
  clear hC2 hO2 hok
  go_wp2_with fail
  go_quiet (fail)
  go_wp2_with fail
  go_ret
  refine ⟨u,o',rfl,?_,by have:=HO1E.out;omega,ho2,HO2.out.trans (Oth.nx ((Nx.refl _).dr _)),fun _ h0=>?_⟩
  ·rw [if_pos HH.out];exact HC2.out.drew _
  ·obtain ⟨h1,h2⟩:=HOK.out h0
   have h3:=HSO.out h0
   refine ⟨by rw [HO1E.out];exact h1,?_⟩
   rw [← h3.2.2.2,HO1E.out]
   have h4:=HU.out
   rw [h1,List.drop_take,show O1+P.2.2 - O1=P.2.2 by omega] at h4
   exact h4
 ·rw [if_neg hh,if_neg hh] at hC1
  have c0:w1.cell? ⟨b,0,none⟩=some (.string s):=hC1.cell 0
  have c1:w1.cell? ⟨b,1,none⟩=some (.int .i64 (o:Int)):=hC1.cell 1
  have c2:w1.cell? ⟨b,2,none⟩=some (.int .i64 2):=hC1.cell 2
  have HC1:=Lib.hid hC1
  have HO1:=Lib.hid hO1
  have HH:=Lib.hid hh
  obtain ⟨u,hu,HU⟩:=HL.out.mid o o
  have i1:(o:Int)≤(o:Int):=by omega
  have i2:(o:Int)≤(s.size:Int):=by rw [HZ.out];omega
  clear hC1 hO1 hh
  go_wp2_with fail
  go_quiet (fail)
  go_wp2_with fail
  go_ret
  refine ⟨_,o,rfl,?_,Nat.le_refl _,ho,HO1.out.trans (Oth.nx ((Nx.refl _).dr _)),fun h=>absurd h HH.out⟩
  rw [if_neg HH.out];exact HC1.out.drew _
end Go.Proofs.YtbblfkdmkpkmcaaGreatDoor
