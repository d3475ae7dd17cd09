/- The contracts of the cursor's word and sign. The text of types, step by step. Plain lemmas. What the parser of types needs, and leaves (what is plain of it). What the parser of types needs, and leaves. The contract of between, at lists and sets (what is plain of it). The contract of between, at lists and sets. The contract of between, at maps (what is plain of it). The contract of between, at maps. The contracts of within and next (what is plain of it). -/
import Derived.Test.YtnfelopknfdpfaaDoorG07
import Derived.Test.YtnfelopknfdpfaaDoorProg
import Derived.StillTailTactics
set_option linter.unusedVariables false
set_option linter.unusedSimpArgs false
set_option linter.unnecessarySimpa false
namespace Go.Proofs.YtnfelopknfdpfaaDoor
open Go.RowKit
theorem CurK.at_ {w:World} {b:Nat} {s:ByteArray} {o:Nat} {d dp:Int} {v:Value} {sb:Nat} (h:CurK w b s (o:Int) d dp v sb):atK b w=o:=by
 unfold atK
 rw [show w.cell? ⟨b,1,none⟩=some (.int .i64 (o:Int)) from h.cell 1]
 simp
theorem CurK.drew {w:World} {b:Nat} {s:ByteArray} {o d dp:Int} {v:Value} {sb:Nat} (h:CurK w b s o d dp v sb) (n:Nat):CurK (w.drewN n) b s o d dp v sb:=Blk.drew h n
theorem CurK.put1 {w:World} {b:Nat} {s:ByteArray} {o d dp:Int} {v:Value} {sb:Nat} (h:CurK w b s o d dp v sb) (o':Int):CurK (w.setCell ⟨b,1,none⟩ (.int .i64 o')) b s o' d dp v sb:=Blk.put h 1 _
theorem CurK.put2 {w:World} {b:Nat} {s:ByteArray} {o d dp:Int} {v:Value} {sb:Nat} (h:CurK w b s o d dp v sb) (d':Int):CurK (w.setCell ⟨b,2,none⟩ (.int .i64 d')) b s o d' dp v sb:=Blk.put h 2 _
theorem CurK.put3 {w:World} {b:Nat} {s:ByteArray} {o d dp:Int} {v:Value} {sb:Nat} (h:CurK w b s o d dp v sb) (dp':Int):CurK (w.setCell ⟨b,3,none⟩ (.int .i64 dp')) b s o d dp' v sb:=Blk.put h 3 _
theorem CurK.put4 {w:World} {b:Nat} {s:ByteArray} {o d dp:Int} {v:Value} {sb:Nat} (h:CurK w b s o d dp v sb) (v':Value):CurK (w.setCell ⟨b,4,none⟩ v') b s o d dp v' sb:=Blk.put h 4 _
set_option maxRecDepth 100000 in
set_option maxHeartbeats 1600000 in
theorem word_any (b:Nat) (s:ByteArray) (l:List UInt8) (o:Nat) (d dp:Int) (v:Value) (sb:Nat) (w:World) (hC:CurK w b s (o:Int) d dp v sb) (hl:Tx s l) (ho:o≤l.length) (hs:(l.length:Int)≤8000) :
  Calls Tryd.prog 48 #[.pointer (some ⟨b,0,none⟩)] w fun e w'=>∃ u,e = .returned (.string u)∧Hid (Tx u ((l.drop o).take (spanN isNmS (l.drop o))))∧CurK w' b s ((o+spanN isNmS (l.drop o):Nat):Int) d dp v sb∧Oth b w w':=by
 have HL:=Lib.hid hl
 have HC:=Lib.hid hC
 obtain ⟨N,hN⟩:∃ N,Hid (spanN isNmS (l.drop o)=N):=⟨_,rfl⟩
 rw [hN.out]
 have hNl:o+N≤l.length:=by have:=spanN_le isNmS (l.drop o);rw [hN.out] at this;simp at this;omega
 have c1:w.cell? ⟨b,1,none⟩=some (.int .i64 (o:Int)):=hC.cell 1
 clear hl hC
 go_enter Tryd.func48,Tryd.ntmps48
 go_wp2_with fail
 clear c1
 go_loopw [] (fun wr=>∃ i:Nat,CurK wr b s (i:Int) d dp v sb∧o≤i∧i≤l.length∧Hid (N+o=spanN isNmS (l.drop i)+i)∧Oth b w wr) (fun wr=>10000 - atK b wr)
 case atStart=>exact ⟨o,HC.out,Nat.le_refl _,ho,by unfold Hid;rw [hN.out],Oth.refl _ _⟩
 case round =>
  obtain ⟨i,hC,hoi,hi,HS,hO⟩:=hrel
  have hat:=hC.at_
  have c0:wr.cell? ⟨b,0,none⟩=some (.string s):=hC.cell 0
  have c1:wr.cell? ⟨b,1,none⟩=some (.int .i64 (i:Int)):=hC.cell 1
  have f1:wr.frozen? ⟨b,1,none⟩=false:=hC.free 1
  have HAT:=Lib.hid hat
  have HC1:=Lib.hid hC
  have HO:=Lib.hid hO
  have hz:(s.size:Int)=(l.length:Int):=by rw [HL.out.size]
  have HZ:=Lib.hid hz
  clear hat hC hO hz
  obtain ⟨l1,hl1⟩:∃ l1,Hid (l.drop i=l1):=⟨_,rfl⟩
  have hl1n:l1.length+i=l.length:=by rw [← hl1.out];simp;omega
  rw [hl1.out] at HS
  cases l1 with
  | nil =>
   have hNi:N+o=i:=by have:=HS.out;rw [show spanN isNmS []=0 from rfl] at this;omega
   have hi1:(i:Int)≤(s.size:Int):=by rw [HZ.out];omega
   have hoiI:(o:Int)≤(i:Int):=by omega
   have g1:decide ((i:Int)<(s.size:Int))=false:=decide_eq_false (by rw [HZ.out];simp at hl1n;omega)
   have g2:¬ i<s.size:=by have:=HZ.out;simp at hl1n;omega
   have HNI:=Lib.hid hNi
   obtain ⟨u,hu,HU⟩:=HL.out.mid o i
   clear hNi
   go_wp2_with fail
   go_quiet (fail)
   go_wp2_with fail
   go_quiet (fail)
   go_wp2_with fail
   go_ret
   have h1:=HNI.out
   refine ⟨u,rfl,?_,?_,(HO.out.trans (Oth.nx (((Nx.refl _).dr _).dr _)))⟩
   ·unfold Hid
    rw [List.take_drop,show o+N=i by omega]
    exact HU.out
   ·rw [show o+N=i by omega]
    exact (HC1.out.drew _).drew _
  | cons c r =>
   obtain ⟨hil,hp,hxc⟩:=HL.out.byteK i c r hl1.out
   have hi8:(i:Int)≤8000:=by omega
   have g1:decide ((i:Int)<(s.size:Int))=true:=decide_eq_true (by omega)
   have hsp:spanN isNmS (c :: r)=if isNmS c then spanN isNmS r+1 else 0:=rfl
   obtain ⟨B,HB⟩:∃ B,Hid (isNmS c=B):=⟨_,rfl⟩
   have hcall:∀ w,Calls Tryd.prog 54 #[.int .u8 (c.toNat:Int)] w fun e w'=>e = .returned (.bool B)∧w'=w:=by
    intro w;have:=kisOfName_any c w;rw [HB.out] at this;exact this
   rw [HB.out] at hsp
   have HSP:=Lib.hid hsp
   have hi1:(i:Int)≤(s.size:Int):=by rw [HZ.out];omega
   have hoiI:(o:Int)≤(i:Int):=by omega
   obtain ⟨u,hu,HU⟩:=HL.out.mid o i
   clear hsp
   go_wp2_with fail
   go_quiet (exact Calls.quiet_of_same (hcall _))
   clear g1 hxc hp hcall
   generalize hW:World.drewN wr _=w1
   have hC1:CurK w1 b s (i:Int) d dp v sb:=by rw [← hW];exact HC1.out.drew _
   have hO1:Oth b w w1:=by rw [← hW];exact HO.out.trans (Oth.nx ((Nx.refl _).dr _))
   clear hW c0 c1 f1
   have c0:w1.cell? ⟨b,0,none⟩=some (.string s):=hC1.cell 0
   have c1:w1.cell? ⟨b,1,none⟩=some (.int .i64 (i:Int)):=hC1.cell 1
   have f1:w1.frozen? ⟨b,1,none⟩=false:=hC1.free 1
   have HC2:=Lib.hid hC1
   have HO2:=Lib.hid hO1
   clear hC1 hO1
   cases B
   ·go_wp2_with fail
    go_quiet (fail)
    go_wp2_with fail
    go_ret
    have h1:N+o=i:=by have:=HS.out;rw [HSP.out] at this;simpa using this
    refine ⟨u,rfl,?_,?_,(HO2.out.trans (Oth.nx ((Nx.refl _).dr _)))⟩
    ·unfold Hid
     rw [List.take_drop,show o+N=i by omega]
     exact HU.out
    ·rw [show o+N=i by omega]
     exact HC2.out.drew _
   ·go_wp2_with fail
    go_roundw
    case rel =>
     refine ⟨i+1,?_,by omega,by omega,?_,HO2.out.own⟩
     ·exact HC2.out.put1 _
     ·unfold Hid
      rw [HS.out,HSP.out,drop_cons hl1.out]
      simp
      omega
    case measure =>
     have h1:CurK (w1.setCell ⟨b,1,none⟩ (.int .i64 ((i:Int)+1))) b s ((i+1:Nat):Int) d dp v sb:=HC2.out.put1 _
     rw [h1.at_,HAT.out]
     omega
set_option maxRecDepth 100000 in
set_option maxHeartbeats 1600000 in
theorem take_any (b:Nat) (s:ByteArray) (l:List UInt8) (o:Nat) (d dp:Int) (v:Value) (sb:Nat) (x:UInt8) (w:World) (hC:CurK w b s (o:Int) d dp v sb) (hl:Tx s l) (ho:o≤l.length) (hs:(l.length:Int)≤8000) :
  Calls Tryd.prog 67 #[.pointer (some ⟨b,0,none⟩),.int .u8 (x.toNat:Int)] w fun e w'=>e = .returned (.bool (decide ((l.drop o).head? = some x))) ∧
   CurK w' b s ((o+(if (l.drop o).head? = some x then 1 else 0):Nat):Int) d dp v sb∧Oth b w w':=by
 have HL:=Lib.hid hl
 have HC:=Lib.hid hC
 have c0:w.cell? ⟨b,0,none⟩=some (.string s):=hC.cell 0
 have c1:w.cell? ⟨b,1,none⟩=some (.int .i64 (o:Int)):=hC.cell 1
 have f1:w.frozen? ⟨b,1,none⟩=false:=hC.free 1
 have hz:(s.size:Int)=(l.length:Int):=by rw [hl.size]
 have HZ:=Lib.hid hz
 obtain ⟨l1,hl1⟩:∃ l1,Hid (l.drop o=l1):=⟨_,rfl⟩
 have hl1n:l1.length+o=l.length:=by rw [← hl1.out];simp;omega
 rw [hl1.out]
 clear hl hC hz
 cases l1 with
 | nil =>
  have g1:((o:Int) == (s.size:Int))=true:=by rw [beq_iff_eq,HZ.out];simp at hl1n;omega
  go_enter Tryd.func67,Tryd.ntmps67
  go_wp2_with fail
  go_quiet (fail)
  go_wp2_with fail
  go_ret
  exact ⟨rfl,HC.out.drew _,Oth.nx ((Nx.refl _).dr _)⟩
 | cons c r =>
  obtain ⟨hol,hp,hxc⟩:=HL.out.byteK o c r hl1.out
  have g1:((o:Int) == (s.size:Int))=false:=by rw [beq_eq_false_iff_ne];omega
  have g2:(o:Int)<(s.size:Int):=by omega
  have ho8:(o:Int)≤8000:=by omega
  by_cases hx:c=x
  ·have g3:((c.toNat:Int) != (x.toNat:Int))=false:=by subst hx;simp
   have HX:=Lib.hid hx
   have e1:decide ((c :: r).head? = some x)=true:=by rw [hx];simp
   have e2:(c :: r).head? = some x:=by rw [hx];rfl
   rw [e1,if_pos e2]
   clear hx e1 e2
   go_enter Tryd.func67,Tryd.ntmps67
   go_wp2_with fail
   go_quiet (fail)
   go_wp2_with fail
   go_ret
   exact ⟨rfl,(HC.out.drew _).put1 _,(Oth.nx ((Nx.refl _).dr _)).own⟩
  ·have g3:((c.toNat:Int) != (x.toNat:Int))=true:=by
    rw [bne_iff_ne]
    intro h
    exact hx (UInt8.toNat_inj.1 (by omega))
   have e1:decide ((c :: r).head? = some x)=false:=decide_eq_false (by simpa using hx)
   have e2:¬ (c :: r).head? = some x:=by simpa using hx
   rw [e1,if_neg e2]
   clear hx e1 e2
   go_enter Tryd.func67,Tryd.ntmps67
   go_wp2_with fail
   go_quiet (fail)
   go_wp2_with fail
   go_ret
   exact ⟨rfl,HC.out.drew _,Oth.nx ((Nx.refl _).dr _)⟩
end Go.Proofs.YtnfelopknfdpfaaDoor
namespace Go.Proofs.YtnfelopknfdpfaaDoor
def innT (par:List UInt8→Nat×Ty×Nat) (k:Nat) (l:List UInt8):Nat×Ty×Nat :=
 if l.head?≠some 60 then noTy 2
 else if (par (l.drop 1)).1≠0 then noTy (par (l.drop 1)).1
 else if k=13 then
  if (l.drop (1+(par (l.drop 1)).2.2)).head?≠some 44 then noTy 2
  else if (par (l.drop (1+(par (l.drop 1)).2.2+1))).1≠0 then noTy (par (l.drop (1+(par (l.drop 1)).2.2+1))).1
  else if (l.drop (1+(par (l.drop 1)).2.2+1+(par (l.drop (1+(par (l.drop 1)).2.2+1))).2.2)).head?≠some 62 then noTy 2
  else (0,.mp (par (l.drop 1)).2.1 (par (l.drop (1+(par (l.drop 1)).2.2+1))).2.1,1+(par (l.drop 1)).2.2+1+(par (l.drop (1+(par (l.drop 1)).2.2+1))).2.2+1)
 else if (l.drop (1+(par (l.drop 1)).2.2)).head?≠some 62 then noTy 2
 else (0,.l1 k (par (l.drop 1)).2.1,1+(par (l.drop 1)).2.2+1)
def witT (r k:Nat) (l:List UInt8):Nat×Ty×Nat :=
 if k≠13∧k≠14∧k≠15 then (0,.bs k,0)
 else match r with
  | 0=>noTy 6
  | r+1=>innT (parT r) k l
def addT (n:Nat) (p:Nat×Ty×Nat):Nat×Ty×Nat:=if p.1≠0 then noTy p.1 else (0,p.2.1,n+p.2.2)
def nameT (w:List UInt8):Nat×Ty×Nat:=if nameOk w then (0,.nm w,w.length) else noTy 2
theorem wl (l:List UInt8):(l.take (spanN isNmS l)).length=spanN isNmS l:=by
 have:=spanN_le isNmS l
 simp;omega
theorem parT_word (r:Nat) (l:List UInt8):parT r l=if kindW (l.take (spanN isNmS l))=0 then nameT (l.take (spanN isNmS l)) else addT (spanN isNmS l) (witT r (kindW (l.take (spanN isNmS l))) (l.drop (spanN isNmS l))):=by
 unfold nameT
 rw [wl]
 cases r with
 | zero =>
  unfold parT witT
  generalize kindW (l.take (spanN isNmS l))=k
  by_cases h0:k=0
  ·rw [if_pos h0,if_pos h0]
  ·rw [if_neg h0,if_neg h0]
   by_cases h1:k≠13∧k≠14∧k≠15
   ·rw [if_pos h1,if_pos h1];rfl
   ·rw [if_neg h1,if_neg h1];rfl
 | succ r =>
  unfold parT witT
  generalize kindW (l.take (spanN isNmS l))=k
  generalize spanN isNmS l=N
  by_cases h0:k=0
  ·rw [if_pos h0,if_pos h0]
  ·rw [if_neg h0,if_neg h0]
   by_cases h1:k≠13∧k≠14∧k≠15
   ·rw [if_pos h1,if_pos h1];rfl
   ·rw [if_neg h1,if_neg h1]
    dsimp only
    unfold innT
    rw [List.drop_drop]
    generalize hp:parT r (l.drop (N+1))=p
    obtain ⟨pe,pt,pn⟩:=p
    dsimp only
    by_cases g1:(l.drop N).head?≠some 60
    ·rw [if_pos g1,if_pos g1];rfl
    ·rw [if_neg g1,if_neg g1]
     by_cases g2:pe≠0
     ·rw [if_pos g2,if_pos g2]
      unfold addT noTy
      rw [if_pos g2]
     ·rw [if_neg g2,if_neg g2]
      have e1:(l.drop N).drop (1+pn)=l.drop (N+1+pn):=by rw [List.drop_drop];congr 1;omega
      have e2:(l.drop N).drop (1+pn+1)=l.drop (N+1+pn+1):=by rw [List.drop_drop];congr 1;omega
      rw [e1,e2]
      by_cases h13:k=13
      ·rw [if_pos h13,if_pos h13]
       generalize hq:parT r (l.drop (N+1+pn+1))=q
       obtain ⟨qe,qt,qn⟩:=q
       dsimp only
       by_cases g3:(l.drop (N+1+pn)).head?≠some 44
       ·rw [if_pos g3,if_pos g3];rfl
       ·rw [if_neg g3,if_neg g3]
        by_cases g4:qe≠0
        ·rw [if_pos g4,if_pos g4]
         unfold addT noTy
         rw [if_pos g4]
        ·rw [if_neg g4,if_neg g4]
         have e3:(l.drop N).drop (1+pn+1+qn)=l.drop (N+1+pn+1+qn):=by rw [List.drop_drop];congr 1;omega
         rw [e3]
         by_cases g5:(l.drop (N+1+pn+1+qn)).head?≠some 62
         ·rw [if_pos g5,if_pos g5];rfl
         ·rw [if_neg g5,if_neg g5]
          unfold addT
          rw [if_neg (by simp)]
          congr 2
          dsimp only
          omega
      ·rw [if_neg h13,if_neg h13]
       by_cases g3:(l.drop (N+1+pn)).head?≠some 62
       ·rw [if_pos g3,if_pos g3];rfl
       ·rw [if_neg g3,if_neg g3]
        unfold addT
        rw [if_neg (by simp)]
        congr 2
        dsimp only
        omega
theorem names_len (t:Ty) (h:wfT t):(namesT t).length≤(showT t).length:=by
 induction t with
 | nm s =>
  cases s with
  | nil=>exact absurd h.1 (by decide)
  | cons c s=>simp [namesT,showT]
 | bs k=>simp [namesT]
 | l1 k a ih=>have:=ih h.2;simp [namesT,showT];omega
 | mp a b iha ihb=>have:=iha h.1;have:=ihb h.2;simp [namesT,showT];omega
theorem parT_names (r:Nat) (l:List UInt8) (h:(parT r l).1=0):(namesT (parT r l).2.1).length≤(parT r l).2.2∧(parT r l).2.2≤l.length:=by
 obtain ⟨h1,-,h3,h4⟩:=parT_sound r l h
 refine ⟨?_,h3⟩
 have:=names_len _ h1
 rw [← h4] at this
 simp at this
 omega
end Go.Proofs.YtnfelopknfdpfaaDoor
namespace Go.Proofs.YtnfelopknfdpfaaDoor
open Go.RowKit
theorem results_cell_tmp_rowK {P:Program} {fn:Func} {p u:Tmp} {ty:TypeId} (h:fn.results=#[.cell p ty,.tmp u]) (tmps:Array Value) (w:World) (g:Nat) (t:TypeId) (cs:Array Value) (fr:Nat×Nat) (d:TypeDesc)
  (hp:tmps.getD p undef = .pointer (some ⟨g,0,none⟩)) (hg:w.heap[g]? = some (.cells cs t fr))
  (hu:P.underlying ty=some d) (hd:(match d with | .struct _ | .array _ _=>true | _=>false)=true) (hi:(P.info? ty).map (·.size)=some cs.size) :
  (results fn tmps).run P w = .ok (.tuple #[.agg cs,tmps.getD u undef]) w:=by
 have hp':tmps[p]?.getD undef = .pointer (some ⟨g,0,none⟩):=by simpa using hp
 simp [results,h,hp',asAddr,run_loadVar_row w g t ty cs fr d hg hu hd hi]
theorem wpList_appN (w:World) {ops:Array Oper} {rest:List Oper} {o:Oper} {a:Act} {Q:Exit→Act→World→Prop} (hgd:o.guard=none) (s x:Operand)
  (ho:o.op = .call { callee:=.builtin .append,args:=#[s,x],argTypes:=#[33,33] })
  (B:Nat) (v:Value) (xs:List ByteArray) (y:ByteArray) (hs:a.eval s=v) (hown:OwnN w B v xs) (g:Nat) (hx:a.eval x = .slice (some ⟨g,0,none⟩) 1 1)
  (hy:w.cell? ⟨g,0,none⟩=some (.string y)) (h63:(xs.length:Int)≤100000) (hB:B≤w.heap.size)
  (h:∀ v' w',OwnN w' B v' (xs++[y])→(∀ b,Fr b v w v' w')→wpList Tryd.prog ops Q rest (a.put o.dst v') w'):wpList Tryd.prog ops Q (o :: rest) a w:=by
 refine wpList_plain hgd fun K hK=>?_
 obtain ⟨i,hi,hz,h1,h2⟩:=info_parts (show (Tryd.prog.info? 9).map (fun i=>(i.zero,i.size,i.bytes))=some (some (.string ⟨#[]⟩),1,16) by kernel_rfl)
 have hcells:∀ j u,((strC y).toList)[j]? = some u→w.cell? ((⟨g,0,none⟩:Addr).add j)=some u:=by
  intro j u hu
  have hj:j=0:=by
   rcases Nat.eq_zero_or_pos j with h | h
   ·exact h
   ·rw [List.getElem?_eq_none (by show (strC y).size≤j;rw [strC_size];exact h)] at hu;cases hu
  subst hj
  rw [Addr.add_lit,Nat.zero_add,hy,← hu];rfl
 obtain ⟨v',w',hrun,ho',hg,_,hloc⟩:=run_append_own_at (P:=Tryd.prog) w B 33 o.type 9 i _ 1 16 Tryd.underlying33 hi hz h1 h2 rfl (by decide) v xs.length (rowL strC xs) hown ⟨g,0,none⟩ 1 1 (strC y).toList (by rfl) hcells (by intro u hu;simp [strC] at hu;subst hu;rfl) (by simp [maxLen];omega)
  (by omega) hB
 have hown':OwnN w' B v' (xs++[y]):=by
  unfold OwnN OwnS
  rw [List.length_append,rowL_snoc]
  exact ho'
 have hFr:∀ b,Fr b v w v' w':=fun b=>⟨hg.os,hg.tape,hg.output,hg.size,fun k hk hb hv=>hg.block k hk (Ne.symm hv),fun k e=>by
  rcases hloc with h | h
  ·exact .inl (h ▸ e)
  ·rw [h] at e;cases e;exact .inr (Nat.le_refl _)⟩
 have:=hK _ _ (h v' w' hown' hFr)
 unfold Oper.wp execOp
 simp only [ho,resolve,invoke,builtin,Sem.run_bind,Sem.run_pure,Result.andThen_ok,List.map_toArray,List.map_cons,List.map_nil,hs,hx,hrun]
 exact this
def nmB (t:Ty):List ByteArray:=(namesT t).map fun x=>⟨x.toArray⟩
def HeadIs (t:Ty) (K:Int) (N A C:ByteArray):Prop:=K=((headT t).1:Nat)∧Tx N (headT t).2.1∧Tx A (headT t).2.2.1∧Tx C (headT t).2.2.2
end Go.Proofs.YtnfelopknfdpfaaDoor
namespace Go.Proofs.YtnfelopknfdpfaaDoor
open Go.RowKit
structure Pre (w:World) (b:Nat) (s:ByteArray) (l:List UInt8) (o D DP sb B:Nat) (v:Value) (ns:List ByteArray):Prop where
 cur:CurK w b s (o:Int) (D:Int) (DP:Int) v sb
 tx:Tx s l
 ho:o≤l.length
 hs:(l.length:Int)≤8000
 own:OwnN w B v ns
 nsl:ns.length≤o
 sg:Sg w sb
 sbB:sb<B
 sbb:sb≠b
 tab:TabK w
 maxc:MaxC w
 gb0:2≠b
 gb1:3≠b
 gB0:2 < B
 gB1:3 < B
 bB:b<B
 le:D≤DP
 dp:DP≤12
 bz:B≤w.heap.size
theorem Pre.ne {w:World} {b:Nat} {s:ByteArray} {l:List UInt8} {o D DP sb B:Nat} {v:Value} {ns:List ByteArray} (h:Pre w b s l o D DP sb B v ns) (g:Nat) (hg:g<B):v.ownBlock≠some g:=fun e=>by
 have:=(h.own.own g e).1
 omega
theorem Pre.fr {w w':World} {b:Nat} {s:ByteArray} {l:List UInt8} {o D DP sb B o' D' DP':Nat} {v v':Value} {ns ns':List ByteArray} (h:Pre w b s l o D DP sb B v ns) (hF:Fr b v w v' w')
  (hc:CurK w' b s (o':Int) (D':Int) (DP':Int) v' sb) (ho:o'≤l.length) (hown:OwnN w' B v' ns') (hn:ns'.length≤o') (hle:D'≤DP') (hdp:DP'≤12):Pre w' b s l o' D' DP' sb B v' ns' :=
 {cur:=hc,tx:=h.tx,ho:=ho,hs:=h.hs,own:=hown,nsl:=hn,sg:=hF.sg h.sg h.sbb (h.ne _ h.sbB),sbB:=h.sbB,sbb:=h.sbb,
  tab:=hF.tab h.tab h.gb0 (h.ne _ h.gB0),maxc:=hF.maxC h.maxc h.gb1 (h.ne _ h.gB1),gb0:=h.gb0,gb1:=h.gb1,gB0:=h.gB0,gB1:=h.gB1,bB:=h.bB,le:=hle,dp:=hdp,bz:=Nat.le_trans h.bz hF.size }
theorem Pre.ownFr {w w':World} {b:Nat} {s:ByteArray} {l:List UInt8} {o D DP sb B:Nat} {v:Value} {ns:List ByteArray} (h:Pre w b s l o D DP sb B v ns) (hO:Oth b w w'):OwnN w' B v ns :=
 h.own.keep fun k e=>hO.block k (h.own.own k e).2 (fun e'=>by have:=(h.own.own k e).1;have:=h.bB;omega)
theorem Pre.oth {w w':World} {b:Nat} {s:ByteArray} {l:List UInt8} {o D DP sb B o' D' DP':Nat} {v:Value} {ns:List ByteArray} (h:Pre w b s l o D DP sb B v ns) (hO:Oth b w w')
  (hc:CurK w' b s (o':Int) (D':Int) (DP':Int) v sb) (h1:o≤o') (ho:o'≤l.length) (hle:D'≤DP') (hdp:DP'≤12):Pre w' b s l o' D' DP' sb B v ns :=
 h.fr (Fr.oth hO v) hc ho (h.ownFr hO) (Nat.le_trans h.nsl h1) hle hdp
theorem Pre.nx {w w':World} {b:Nat} {s:ByteArray} {l:List UInt8} {o D DP sb B:Nat} {v:Value} {ns:List ByteArray} (h:Pre w b s l o D DP sb B v ns) (hN:Nx w w'):Pre w' b s l o D DP sb B v ns :=
 h.oth (Oth.nx hN) (Blk.below h.cur hN) (Nat.le_refl _) h.ho h.le h.dp
def Aft (b:Nat) (s:ByteArray) (o Dc D DP sb B:Nat) (v:Value) (ns:List ByteArray) (w w':World) (P:Nat×Ty×Nat):Prop :=
 ∃ (o' dp':Int) (v':Value),CurK w' b s o' (Dc:Int) dp' v' sb∧Fr b v w v' w' ∧
  (P.1=0→o'=((o+P.2.2:Nat):Int)∧dp'=((max DP (D+depthT P.2.1):Nat):Int)∧OwnN w' B v' (ns++nmB P.2.1))
def NextR (b:Nat) (s:ByteArray) (o D DP sb B:Nat) (v:Value) (ns:List ByteArray) (w:World) (P:Nat×Ty×Nat) (e:Ending) (w':World):Prop :=
 ∃ (K:Int) (N A C:ByteArray),e = .returned (.tuple #[.agg #[.int .i64 K,.string N,.string A,.string C],.int .i64 (P.1:Nat)])∧(P.1=0→HeadIs P.2.1 K N A C)∧Aft b s o D D DP sb B v ns w w' P
def PartR (b:Nat) (s:ByteArray) (o Dc D DP sb B:Nat) (v:Value) (ns:List ByteArray) (w:World) (P:Nat×Ty×Nat) (e:Ending) (w':World):Prop :=
 ∃ A C:ByteArray,e = .returned (.tuple #[.agg #[.string A,.string C],.int .i64 (P.1:Nat)])∧(P.1=0→Tx A (headT P.2.1).2.2.1∧Tx C (headT P.2.1).2.2.2)∧Aft b s o Dc D DP sb B v ns w w' P
def NextC (r:Nat):Prop:=∀ (w:World) (b:Nat) (s:ByteArray) (l:List UInt8) (o D DP sb B:Nat) (v:Value) (ns:List ByteArray),Pre w b s l o D DP sb B v ns→D+r=12 →
 Calls Tryd.prog 42 #[.pointer (some ⟨b,0,none⟩)] w (NextR b s o D DP sb B v ns w (parT r (l.drop o)))
end Go.Proofs.YtnfelopknfdpfaaDoor
namespace Go.Proofs.YtnfelopknfdpfaaDoor
open Go.RowKit
theorem sign_l0 {k:Nat} (h:k=14∨k=15):signV k 0=some 60:=by rcases h with rfl | rfl <;> rfl
theorem sign_l1 {k:Nat} (h:k=14∨k=15):signV k 1=some 62:=by rcases h with rfl | rfl <;> rfl
theorem sign_l2 {k:Nat} (h:k=14∨k=15):signV k 2=none:=by rcases h with rfl | rfl <;> rfl
def noB:ByteArray:=⟨#[]⟩
def StL (p:Nat×Ty×Nat) (l:List UInt8) (o DP D1:Nat) (ns:List ByteArray) (j o' DP':Nat) (ns':List ByteArray) (A C:ByteArray):Prop :=
 (j=0∧o'=o∧DP'=DP∧ns'=ns∧A=noB∧C=noB) ∨
 (j=1∧(l.drop o).head? = some 60∧p.1=0∧o'=o+1+p.2.2∧DP'=max DP (D1+depthT p.2.1)∧ns'=ns++nmB p.2.1∧Tx A (showT p.2.1)∧C=noB) ∨
 (j=2∧(l.drop o).head? = some 60∧p.1=0∧(l.drop (o+1+p.2.2)).head? = some 62∧o'=o+1+p.2.2+1∧DP'=max DP (D1+depthT p.2.1)∧ns'=ns++nmB p.2.1∧Tx A (showT p.2.1)∧C=noB)
theorem Blk.put2 {w:World} {B g:Nat} {T:TypeId} {a0 a1 v0 v1:Value} (h:Blk w B g #[a0,a1] T):Blk ((w.setCell ⟨g,0,none⟩ v0).setCell ⟨g,1,none⟩ v1) B g #[v0,v1] T:=(h.put 0 v0).put 1 v1
theorem Fr.put2 {b g:Nat} {v v' v0 v1:Value} {w w':World} (h:Fr b v w v' w') (hg:w.heap.size≤g):Fr b v w v' ((w'.setCell ⟨g,0,none⟩ v0).setCell ⟨g,1,none⟩ v1):=(h.put hg 0 v0).put hg 1 v1
theorem nmB_len (t:Ty):(nmB t).length=(namesT t).length:=by simp [nmB]
end Go.Proofs.YtnfelopknfdpfaaDoor
namespace Go.Proofs.YtnfelopknfdpfaaDoor
open Go.RowKit
theorem look_at {w:World} {g:Nat} (h:Sg w g) (k n:Nat) (hk:k<17) (hn:n<4) (ni:Int) (hni:(n:Int)=ni) (x:Option Nat) (hx:signV k n=x) (xi:Int) (hxi:((x.getD 0:Nat):Int)=xi) (B:Bool) (hB:x.isSome=B) :
  (Instr.lookup 97 (.map (some g)) (.agg #[.int .i64 (k:Int),.int .i64 ni]) true).run Tryd.prog w = .ok (.tuple #[.int .u8 xi,.bool B]) w:=by
 subst hni hx hxi hB
 exact look_sign h k n hk hn
theorem CurK.other2 {w:World} {b g:Nat} {s:ByteArray} {o d dp:Int} {v v0 v1:Value} {sb:Nat} (h:CurK w b s o d dp v sb) (hg:g≠b):CurK ((w.setCell ⟨g,0,none⟩ v0).setCell ⟨g,1,none⟩ v1) b s o d dp v sb:=(Blk.other h hg 0 v0).other hg 1 v1
theorem Aft.err {b:Nat} {s:ByteArray} {o Dc D DP sb B:Nat} {v v':Value} {ns:List ByteArray} {w w':World} {P:Nat×Ty×Nat} {o' dp':Int} (hc:CurK w' b s o' (Dc:Int) dp' v' sb) (hF:Fr b v w v' w') (hP:P.1≠0):Aft b s o Dc D DP sb B v ns w w' P :=
 ⟨o',dp',v',hc,hF,fun h=>absurd h hP⟩
theorem take_lit (x:Int) (u:UInt8) (hu:(u.toNat:Int)=x) (b:Nat) (s:ByteArray) (l:List UInt8) (o:Nat) (d dp:Int) (v:Value) (sb:Nat) (w:World) (hC:CurK w b s (o:Int) d dp v sb) (hl:Tx s l) (ho:o≤l.length) (hs:(l.length:Int)≤8000) (T:Bool) (hT:decide ((l.drop o).head? = some u)=T) :
  Calls Tryd.prog 67 #[.pointer (some ⟨b,0,none⟩),.int .u8 x] w fun e w'=>e = .returned (.bool T) ∧
   CurK w' b s ((o+(if T then 1 else 0):Nat):Int) d dp v sb∧Oth b w w':=by
 subst hu hT
 have:=take_any b s l o d dp v sb u w hC hl ho hs
 simpa using this
theorem Pre.step {w w3:World} {b g:Nat} {s:ByteArray} {l:List UInt8} {o D1 DP sb B o2 DP2:Nat} {v v2:Value} {ns ns2:List ByteArray} {cs:Array Value} (h:Pre w b s l o D1 DP sb B v ns) (hF:Fr b v w v2 w3) (hc:CurK w3 b s (o2:Int) (D1:Int) (DP2:Int) v2 sb)
  (hO:OwnN w3 B v2 ns2) (hB:Blk w3 g g cs 74) (hg:w.heap.size≤g) (hgb:g≠b) (u:Value) (i:Nat) (ho:o2≤l.length) (hn:ns2.length≤o2) (hle:D1≤DP2) (hdp:DP2≤12) :
  Pre (w3.setCell ⟨g,i,none⟩ u) b s l o2 D1 DP2 sb B v2 ns2 :=
 h.fr (hF.put hg i u) (Blk.other hc hgb i u) ho (hO.keep fun k e=>by
  have hne:=hO.ne hB (by decide)
  simp only [World.setCell]
  rw [Array.getElem?_modify,if_neg (fun e'=>hne (by rw [e'];exact e))]) hn hle hdp
set_option maxRecDepth 100000 in
set_option maxHeartbeats 6400000 in
theorem between1_any (r:Nat) (hN:NextC r) (w:World) (b:Nat) (s:ByteArray) (l:List UInt8) (o D DP sb B:Nat) (v:Value) (ns:List ByteArray) (k:Nat) (hk:k=14∨k=15) (hP:Pre w b s l o (D+1) DP sb B v ns) (hD:D+1+r=12) :
  Calls Tryd.prog 55 #[.pointer (some ⟨b,0,none⟩),.int .i64 (k:Int)] w (PartR b s o (D+1) D DP sb B v ns w (innT (parT r) k (l.drop o))):=by
 have HK:=Lib.hid hk
 have hk17:k<17:=by omega
 have hkI:(k:Int)<17:=by omega
 have HP:=Lib.hid hP
 have HN:=Lib.hid hN
 have HD:=Lib.hid hD
 obtain ⟨g,hg⟩:∃ g,w.heap.size=g:=⟨_,rfl⟩
 have hB0:=Blk.new w #[.string noB,.string noB] 74
 rw [hg] at hB0
 have hN0:Nx w (w.alloc (Obj.cells #[.string noB,.string noB] 74)):=nx0 _ _
 have HB0:=Lib.hid hB0
 have HN0:=Lib.hid hN0
 obtain ⟨p,hp⟩:∃ p,Hid (parT r (l.drop (o+1))=p):=⟨_,rfl⟩
 obtain ⟨R,hR⟩:∃ R,Hid (innT (parT r) k (l.drop o)=R):=⟨_,rfl⟩
 rw [hR.out]
 have hgb:g≠b:=by have:=hP.bB;have:=hP.bz;omega
 have HGB:=Lib.hid hgb
 have hgI:w.heap.size≤g:=by omega
 clear hP hN hD hB0 hN0 hk hgb
 go_enter Tryd.func55,Tryd.ntmps55
 go_wp2_with fail
 go_loopw [6] (fun i wr=>∃ (j o' DP':Nat) (v':Value) (ns':List ByteArray) (A C:ByteArray),i = .int .i64 (j:Int)∧Pre wr b s l o' (D+1) DP' sb B v' ns'∧Blk wr g g #[.string A,.string C] 74∧Fr b v w v' wr∧Hid (StL p l o DP (D+1) ns j o' DP' ns' A C)) (fun i _=>5 - (intOf i).toNat)
 case atStart=>exact ⟨0,o,DP,v,ns,noB,noB,rfl,HP.out.nx HN0.out,HB0.out,Fr.nx HN0.out _ _,.inl ⟨rfl,rfl,rfl,rfl,rfl,rfl⟩⟩
 case round =>
  obtain ⟨j,o',DP',v',ns',A,C,rfl,hP1,hB1,hF1,HS⟩:=hrel
  have c5:wr.cell? ⟨b,5,none⟩=some (.map (some sb)):=hP1.cur.cell 5
  have HP1:=Lib.hid hP1
  have HB1:=Lib.hid hB1
  have HF1:=Lib.hid hF1
  clear hP1 hB1 hF1
  rcases HS.out with h | h | h
  ·obtain ⟨rfl,rfl,rfl,rfl,rfl,rfl⟩:=h
   have hl:=look_at HP1.out.sg k 0 hk17 (by decide) 0 rfl _ (sign_l0 HK.out) 60 rfl true rfl
   rw [show ((0:Nat):Int)=0 from rfl]
   by_cases h60:(l.drop o').head? = some 60
   ·have HT:=Lib.hid (decide_eq_true h60)
    have H60:=Lib.hid h60
    clear h60
    go_wp2_with fail
    refine (take_lit 60 60 rfl b s l o' _ _ _ sb wr HP1.out.cur HP1.out.tx HP1.out.ho HP1.out.hs true HT.out).mono ?_;rintro e w1 ⟨rfl,hC1,hO1⟩
    obtain ⟨O1,hO1e⟩:∃ O1,o'+1=O1:=⟨_,rfl⟩
    have hlen:=(head_take l 60 o' H60.out).2
    simp only [if_true,hO1e] at hC1
    have hP2:=HP1.out.oth hO1 hC1 (by omega) (by omega) HP1.out.le HP1.out.dp
    have hB2:=hO1.blk HB1.out HGB.out
    have c1:w1.cell? ⟨b,1,none⟩=some (.int .i64 (O1:Int)):=hC1.cell 1
    have hF2:=HF1.out.trans (Fr.oth hO1 _)
    have HB2:=Lib.hid hB2
    have HF2:=Lib.hid hF2
    have HP2:=Lib.hid hP2
    have HO1:=Lib.hid hO1e
    have HP3:Hid (parT r (l.drop O1)=p):=by unfold Hid;rw [← hO1e];exact hp.out
    have hz2:g<w1.heap.size:=hB2.lt
    clear hB2 hF2 hC1 hO1 hP2 hO1e c5 hl
    go_wp2_with fail
    refine (HN.out w1 b s l O1 (D+1) DP' sb B v' ns' HP2.out HD.out).mono ?_;rintro e w2 ⟨K,N,A2,C2,rfl,hh,o2,dp2,v2,hC2,hF2,hA2⟩
    rw [HP3.out] at hh hA2 ⊢
    obtain ⟨pe,pt,pn⟩:=p
    dsimp only at hh hA2 ⊢
    have hF3:=HF2.out.trans hF2
    have hB3:=hF2.blk HB2.out HGB.out (HP2.out.own.ne HB2.out (by decide))
    have c0:w2.cell? ⟨g,0,none⟩=some (.string noB):=hB3.cell 0
    have c1:w2.cell? ⟨g,1,none⟩=some (.string noB):=hB3.cell 1
    have f0:w2.frozen? ⟨g,0,none⟩=false:=hB3.free 0
    have f1:w2.frozen? ⟨g,1,none⟩=false:=hB3.free 1
    have HB3:=Lib.hid hB3
    have HF3:=Lib.hid hF3
    have HC2:=Lib.hid hC2
    have HA2:=Lib.hid hA2
    have HH:=Lib.hid hh
    clear hB3 hF3 hC2 hF2 hA2 hh
    by_cases hpe:pe=0
    ·subst hpe
     obtain ⟨rfl,rfl,hOwn⟩:=HA2.out rfl
     have hpl:=parT_names r (l.drop O1)
     rw [HP3.out] at hpl
     have hpl:=hpl rfl
     dsimp only at hpl
     obtain ⟨O2,hO2⟩:∃ O2,O1+pn=O2:=⟨_,rfl⟩
     have hO1':=HO1.out
     have hO2l:O2≤l.length:=by have:=hpl.2;simp at this;omega
     have hC3:=HC2.out
     rw [hO2] at hC3
     obtain ⟨u,hu,HU⟩:=HP1.out.tx.mid O1 O2
     have t0:w2.cell? ⟨b,0,none⟩=some (.string s):=hC3.cell 0
     have t1:w2.cell? ⟨b,1,none⟩=some (.int .i64 (O2:Int)):=hC3.cell 1
     have h12:(O1:Int)≤(O2:Int):=by omega
     have hO2s:(O2:Int)≤(s.size:Int):=by rw [HP1.out.tx.size];omega
     have HC3:=Lib.hid hC3
     have HO2:=Lib.hid hO2
     have HPL:=Lib.hid hpl
     have HOwn:=Lib.hid hOwn
     clear hC3 hO2 hpl hOwn HA2 hO1'
     rw [show ((0:Nat):Int)=0 from rfl]
     go_wp2_with fail
     go_still_tail 12,(by kernel_rfl)
     change wpList _ _ _ _ _ w2.drew
     have HC4:Hid (CurK w2.drew b s (O2:Int) ((D+1:Nat):Int) ((max DP' (D+1+depthT pt):Nat):Int) v2 sb):=HC3.out
     have HB4:Hid (Blk w2.drew g g #[.string noB,.string noB] 74):=HB3.out
     have HF4:Hid (Fr b v w v2 w2.drew):=HF3.out.trans (Fr.nx ((Nx.refl w2).dr 1) _ _)
     have HOwn4:Hid (OwnN w2.drew B v2 (ns'++nmB pt)):=HOwn.out
     clear HC3 HB3 HF3 HOwn c0 c1 f0 f1 t0 t1
     generalize w2.drew=w3 at *
     have f0:w3.frozen? ⟨g,0,none⟩=false:=HB4.out.free 0
     have c0:w3.cell? ⟨g,0,none⟩=some (.string noB):=HB4.out.cell 0
     have hsd:=parT_sound r (l.drop O1)
     rw [HP3.out] at hsd
     have hsd:=hsd rfl
     dsimp only at hsd
     have HSD:=Lib.hid hsd
     clear hsd
     go_wp2_with fail
     have h1:=HO1.out
     have h2:=HO2.out
     have h3:=HPL.out
     have h4:=HSD.out
     have h5:=HP.out.nsl
     have h6:=HP1.out.le
     have h7:=HP1.out.dp
     have h8:=HD.out
     refine ⟨⟨1,O2,max DP' (D+1+depthT pt),v2,ns'++nmB pt,u,noB,rfl,?_,HB4.out.put 0 _,HF4.out.put hgI 0 _,.inr (.inl ⟨rfl,H60.out,rfl,by dsimp only;omega,rfl,rfl,?_,rfl⟩)⟩,by simp [intOf]⟩
     ·refine HP.out.step HF4.out HC4.out HOwn4.out HB4.out hgI HGB.out _ _ hO2l ?_ (by omega) (by omega)
      rw [List.length_append,nmB_len];omega
     ·dsimp only
      rw [← h4.2.2.2,List.take_drop,h2]
      exact HU.out
    ·have hb:((pe:Int) != 0)=true:=by rw [bne_iff_ne];omega
     have HR:Hid (R=noTy pe):=by
      unfold Hid;rw [← hR.out];unfold innT
      rw [if_neg (by rw [H60.out];simp),List.drop_drop,hp.out]
      dsimp only
      rw [if_pos hpe]
     have HPE:=Lib.hid hpe
     clear hpe
     go_wp2_with fail
     refine bodyPost_ret (results_cell_tmp_rowK rfl _ _ g _ _ _ _ rfl HB3.out.put2.2 Tryd.underlying74 rfl (by kernel_rfl)) rfl ?_
     rw [HR.out]
     exact ⟨_,_,rfl,fun h=>absurd h HPE.out,Aft.err (HC2.out.other2 HGB.out) (HF3.out.put2 hgI) HPE.out⟩
   ·have HR:Hid (R=noTy 2):=by unfold Hid;rw [← hR.out];unfold innT;rw [if_pos h60]
    have HT:=Lib.hid (decide_eq_false h60)
    clear h60
    go_wp2_with fail
    refine (take_lit 60 60 rfl b s l o' _ _ _ sb wr HP1.out.cur HP1.out.tx HP1.out.ho HP1.out.hs false HT.out).mono ?_;rintro e w1 ⟨rfl,hC1,hO1⟩
    have hB2:=hO1.blk HB1.out HGB.out
    have c0:w1.cell? ⟨g,0,none⟩=some (.string noB):=hB2.cell 0
    have c1:w1.cell? ⟨g,1,none⟩=some (.string noB):=hB2.cell 1
    have f0:w1.frozen? ⟨g,0,none⟩=false:=hB2.free 0
    have f1:w1.frozen? ⟨g,1,none⟩=false:=hB2.free 1
    have hF2:=HF1.out.trans (Fr.oth hO1 _)
    have HB2:=Lib.hid hB2
    have HF2:=Lib.hid hF2
    have HC1:=Lib.hid hC1
    clear hB2 hF2 hC1 hO1
    go_wp2_with fail
    refine bodyPost_ret (results_cell_tmp_rowK rfl _ _ g _ _ _ _ rfl HB2.out.put2.2 Tryd.underlying74 rfl (by kernel_rfl)) rfl ?_
    rw [HR.out]
    exact ⟨_,_,rfl,fun h=>absurd h (by decide),Aft.err (HC1.out.other2 HGB.out) (HF2.out.put2 hgI) (by decide)⟩
  ·obtain ⟨rfl,h60,hp0,hoe,hDP,rfl,hA,rfl⟩:=h
   have H60:=Lib.hid h60
   have HP0:=Lib.hid hp0
   have HOE:=Lib.hid hoe
   have HDP:=Lib.hid hDP
   have HA:=Lib.hid hA
   have hl:=look_at HP1.out.sg k 1 hk17 (by decide) 1 rfl _ (sign_l1 HK.out) 62 rfl true rfl
   clear h60 hp0 hoe hDP hA
   rw [show ((1:Nat):Int)=1 from rfl]
   by_cases h62:(l.drop o').head? = some 62
   ·have HT:=Lib.hid (decide_eq_true h62)
    have H62:=Lib.hid h62
    clear h62
    go_wp2_with fail
    refine (take_lit 62 62 rfl b s l o' _ _ _ sb wr HP1.out.cur HP1.out.tx HP1.out.ho HP1.out.hs true HT.out).mono ?_;rintro e w1 ⟨rfl,hC1,hO1⟩
    have hlen:=(head_take l 62 o' H62.out).2
    simp only [if_true] at hC1
    have hP2:=HP1.out.oth hO1 hC1 (by omega) (by omega) HP1.out.le HP1.out.dp
    have HP2:=Lib.hid hP2
    have HB2:=Lib.hid (hO1.blk HB1.out HGB.out)
    have HF2:=Lib.hid (HF1.out.trans (Fr.oth hO1 _))
    clear hP2 hC1 hO1 c5 hl
    go_wp2_with fail
    exact ⟨⟨2,o'+1,DP',v',_,A,noB,rfl,HP2.out,HB2.out,HF2.out,.inr (.inr ⟨rfl,H60.out,HP0.out,by rw [← HOE.out];exact H62.out,by rw [HOE.out],HDP.out,rfl,HA.out,rfl⟩)⟩,by simp [intOf]⟩
   ·have HR:Hid (R=noTy 2):=by
     unfold Hid;rw [← hR.out];unfold innT
     rw [if_neg (by rw [H60.out];simp),List.drop_drop,hp.out,if_neg (by rw [HP0.out];simp),if_neg (by have:=HK.out;omega),List.drop_drop,if_pos (by rw [← Nat.add_assoc,← HOE.out];exact h62)]
    have HT:=Lib.hid (decide_eq_false h62)
    clear h62
    go_wp2_with fail
    refine (take_lit 62 62 rfl b s l o' _ _ _ sb wr HP1.out.cur HP1.out.tx HP1.out.ho HP1.out.hs false HT.out).mono ?_;rintro e w1 ⟨rfl,hC1,hO1⟩
    have hB2:=hO1.blk HB1.out HGB.out
    have c0:w1.cell? ⟨g,0,none⟩=some (.string A):=hB2.cell 0
    have c1:w1.cell? ⟨g,1,none⟩=some (.string noB):=hB2.cell 1
    have f0:w1.frozen? ⟨g,0,none⟩=false:=hB2.free 0
    have f1:w1.frozen? ⟨g,1,none⟩=false:=hB2.free 1
    have hF2:=HF1.out.trans (Fr.oth hO1 _)
    have HB2:=Lib.hid hB2
    have HF2:=Lib.hid hF2
    have HC1:=Lib.hid hC1
    clear hB2 hF2 hC1 hO1
    go_wp2_with fail
    refine bodyPost_ret (results_cell_tmp_rowK rfl _ _ g _ _ _ _ rfl HB2.out.put2.2 Tryd.underlying74 rfl (by kernel_rfl)) rfl ?_
    rw [HR.out]
    exact ⟨_,_,rfl,fun h=>absurd h (by decide),Aft.err (HC1.out.other2 HGB.out) (HF2.out.put2 hgI) (by decide)⟩
  ·obtain ⟨rfl,h60,hp0,h62,hoe,hDP,rfl,hA,rfl⟩:=h
   have hl:=look_at HP1.out.sg k 2 hk17 (by decide) 2 rfl _ (sign_l2 HK.out) 0 rfl false rfl
   have HR:Hid (R=(0,.l1 k p.2.1,1+p.2.2+1)):=by
    unfold Hid;rw [← hR.out];unfold innT
    rw [if_neg (by rw [h60];simp),List.drop_drop,hp.out,if_neg (by rw [hp0];simp),if_neg (by have:=HK.out;omega),List.drop_drop,if_neg (by rw [← Nat.add_assoc,h62];simp)]
   have HOE:=Lib.hid hoe
   have HDP:=Lib.hid hDP
   have HA:=Lib.hid hA
   have c0:wr.cell? ⟨g,0,none⟩=some (.string A):=HB1.out.cell 0
   have c1:wr.cell? ⟨g,1,none⟩=some (.string noB):=HB1.out.cell 1
   have f0:wr.frozen? ⟨g,0,none⟩=false:=HB1.out.free 0
   have f1:wr.frozen? ⟨g,1,none⟩=false:=HB1.out.free 1
   clear h60 hp0 h62 hoe hDP hA
   rw [show ((2:Nat):Int)=2 from rfl]
   go_wp2_with fail
   refine bodyPost_ret (results_cell_tmp_rowK rfl _ _ g _ _ _ _ rfl HB1.out.put2.2 Tryd.underlying74 rfl (by kernel_rfl)) rfl ?_
   rw [HR.out]
   refine ⟨_,_,rfl,fun _=>⟨HA.out,rfl⟩,_,_,v',HP1.out.cur.other2 HGB.out,HF1.out.put2 hgI,fun _=>⟨?_,?_,?_⟩⟩
   ·rw [HOE.out];dsimp only;congr 1;omega
   ·rw [HDP.out];dsimp only [depthT];congr 1;omega
   ·refine HP1.out.own.keep fun k e=>?_
    have hne:=HP1.out.own.ne HB1.out (by decide)
    simp only [World.setCell]
    rw [Array.getElem?_modify,if_neg (fun e'=>hne (by rw [e'];exact e)),Array.getElem?_modify,if_neg (fun e'=>hne (by rw [e'];exact e))]
end Go.Proofs.YtnfelopknfdpfaaDoor
namespace Go.Proofs.YtnfelopknfdpfaaDoor
open Go.RowKit
theorem sign_m0:signV 13 0=some 60:=rfl
theorem sign_m1:signV 13 1=some 44:=rfl
theorem sign_m2:signV 13 2=some 62:=rfl
theorem sign_m3:signV 13 3=none:=rfl
def StM (p q:Nat×Ty×Nat) (l:List UInt8) (o DP D1:Nat) (ns:List ByteArray) (j o' DP':Nat) (ns':List ByteArray) (A C:ByteArray):Prop :=
 (j=0∧o'=o∧DP'=DP∧ns'=ns∧A=noB∧C=noB) ∨
 (j=1∧(l.drop o).head? = some 60∧p.1=0∧o'=o+1+p.2.2∧DP'=max DP (D1+depthT p.2.1)∧ns'=ns++nmB p.2.1∧Tx A (showT p.2.1)∧C=noB) ∨
 (j=2∧(l.drop o).head? = some 60∧p.1=0∧(l.drop (o+1+p.2.2)).head? = some 44∧q.1=0∧o'=o+1+p.2.2+1+q.2.2∧DP'=max (max DP (D1+depthT p.2.1)) (D1+depthT q.2.1)∧ns'=ns++nmB p.2.1++nmB q.2.1∧Tx A (showT p.2.1)∧Tx C (showT q.2.1)) ∨
 (j=3∧(l.drop o).head? = some 60∧p.1=0∧(l.drop (o+1+p.2.2)).head? = some 44∧q.1=0∧(l.drop (o+1+p.2.2+1+q.2.2)).head? = some 62∧o'=o+1+p.2.2+1+q.2.2+1∧DP'=max (max DP (D1+depthT p.2.1)) (D1+depthT q.2.1)∧ns'=ns++nmB p.2.1++nmB q.2.1∧Tx A (showT p.2.1)∧Tx C (showT q.2.1))
end Go.Proofs.YtnfelopknfdpfaaDoor
namespace Go.Proofs.YtnfelopknfdpfaaDoor
open Go.RowKit
theorem look_m {w:World} {g:Nat} (h:Sg w g) (n:Nat) (hn:n<4) (ni:Int) (hni:(n:Int)=ni) (x:Option Nat) (hx:signV 13 n=x) (xi:Int) (hxi:((x.getD 0:Nat):Int)=xi) (B:Bool) (hB:x.isSome=B) :
  (Instr.lookup 97 (.map (some g)) (.agg #[.int .i64 13,.int .i64 ni]) true).run Tryd.prog w = .ok (.tuple #[.int .u8 xi,.bool B]) w :=
 look_at h 13 n (by decide) hn ni hni x hx xi hxi B hB
set_option maxRecDepth 100000 in
set_option maxHeartbeats 6400000 in
theorem between13_any (r:Nat) (hN:NextC r) (w:World) (b:Nat) (s:ByteArray) (l:List UInt8) (o D DP sb B:Nat) (v:Value) (ns:List ByteArray) (hP:Pre w b s l o (D+1) DP sb B v ns) (hD:D+1+r=12) :
  Calls Tryd.prog 55 #[.pointer (some ⟨b,0,none⟩),.int .i64 13] w (PartR b s o (D+1) D DP sb B v ns w (innT (parT r) 13 (l.drop o))):=by
 have HP:=Lib.hid hP
 have HN:=Lib.hid hN
 have HD:=Lib.hid hD
 obtain ⟨g,hg⟩:∃ g,w.heap.size=g:=⟨_,rfl⟩
 have hB0:=Blk.new w #[.string noB,.string noB] 74
 rw [hg] at hB0
 have hN0:Nx w (w.alloc (Obj.cells #[.string noB,.string noB] 74)):=nx0 _ _
 have HB0:=Lib.hid hB0
 have HN0:=Lib.hid hN0
 obtain ⟨p,hp⟩:∃ p,Hid (parT r (l.drop (o+1))=p):=⟨_,rfl⟩
 obtain ⟨q,hq⟩:∃ q,Hid (parT r (l.drop (o+1+p.2.2+1))=q):=⟨_,rfl⟩
 obtain ⟨R,hR⟩:∃ R,Hid (innT (parT r) 13 (l.drop o)=R):=⟨_,rfl⟩
 rw [hR.out]
 have hgb:g≠b:=by have:=hP.bB;have:=hP.bz;omega
 have HGB:=Lib.hid hgb
 have hgI:w.heap.size≤g:=by omega
 clear hP hN hD hB0 hN0 hgb
 go_enter Tryd.func55,Tryd.ntmps55
 go_wp2_with fail
 go_loopw [6] (fun i wr=>∃ (j o' DP':Nat) (v':Value) (ns':List ByteArray) (A C:ByteArray),i = .int .i64 (j:Int)∧Pre wr b s l o' (D+1) DP' sb B v' ns'∧Blk wr g g #[.string A,.string C] 74∧Fr b v w v' wr∧Hid (StM p q l o DP (D+1) ns j o' DP' ns' A C)) (fun i _=>6 - (intOf i).toNat)
 case atStart=>exact ⟨0,o,DP,v,ns,noB,noB,rfl,HP.out.nx HN0.out,HB0.out,Fr.nx HN0.out _ _,.inl ⟨rfl,rfl,rfl,rfl,rfl,rfl⟩⟩
 case round =>
  obtain ⟨j,o',DP',v',ns',A,C,rfl,hP1,hB1,hF1,HS⟩:=hrel
  have c5:wr.cell? ⟨b,5,none⟩=some (.map (some sb)):=hP1.cur.cell 5
  have HP1:=Lib.hid hP1
  have HB1:=Lib.hid hB1
  have HF1:=Lib.hid hF1
  clear hP1 hB1 hF1
  rcases HS.out with h | h | h | h
  ·obtain ⟨rfl,rfl,rfl,rfl,rfl,rfl⟩:=h
   have hl:=look_m HP1.out.sg 0 (by decide) 0 rfl _ sign_m0 60 rfl true rfl
   rw [show ((0:Nat):Int)=0 from rfl]
   by_cases h60:(l.drop o').head? = some 60
   ·have HT:=Lib.hid (decide_eq_true h60)
    have H60:=Lib.hid h60
    clear h60
    go_wp2_with fail
    refine (take_lit 60 60 rfl b s l o' _ _ _ sb wr HP1.out.cur HP1.out.tx HP1.out.ho HP1.out.hs true HT.out).mono ?_;rintro e w1 ⟨rfl,hC1,hO1⟩
    obtain ⟨O1,hO1e⟩:∃ O1,o'+1=O1:=⟨_,rfl⟩
    have hlen:=(head_take l 60 o' H60.out).2
    simp only [if_true,hO1e] at hC1
    have hP2:=HP1.out.oth hO1 hC1 (by omega) (by omega) HP1.out.le HP1.out.dp
    have hB2:=hO1.blk HB1.out HGB.out
    have c1:w1.cell? ⟨b,1,none⟩=some (.int .i64 (O1:Int)):=hC1.cell 1
    have hF2:=HF1.out.trans (Fr.oth hO1 _)
    have HB2:=Lib.hid hB2
    have HF2:=Lib.hid hF2
    have HP2:=Lib.hid hP2
    have HO1:=Lib.hid hO1e
    have HP3:Hid (parT r (l.drop O1)=p):=by unfold Hid;rw [← hO1e];exact hp.out
    have hz2:g<w1.heap.size:=hB2.lt
    clear hB2 hF2 hC1 hO1 hP2 hO1e c5 hl
    go_wp2_with fail
    refine (HN.out w1 b s l O1 (D+1) DP' sb B v' ns' HP2.out HD.out).mono ?_;rintro e w2 ⟨K,N,A2,C2,rfl,hh,o2,dp2,v2,hC2,hF2,hA2⟩
    rw [HP3.out] at hh hA2 ⊢
    obtain ⟨pe,pt,pn⟩:=p
    dsimp only at hh hA2 ⊢
    have hF3:=HF2.out.trans hF2
    have hB3:=hF2.blk HB2.out HGB.out (HP2.out.own.ne HB2.out (by decide))
    have c0:w2.cell? ⟨g,0,none⟩=some (.string noB):=hB3.cell 0
    have c1:w2.cell? ⟨g,1,none⟩=some (.string noB):=hB3.cell 1
    have f0:w2.frozen? ⟨g,0,none⟩=false:=hB3.free 0
    have f1:w2.frozen? ⟨g,1,none⟩=false:=hB3.free 1
    have HB3:=Lib.hid hB3
    have HF3:=Lib.hid hF3
    have HC2:=Lib.hid hC2
    have HA2:=Lib.hid hA2
    have HH:=Lib.hid hh
    clear hB3 hF3 hC2 hF2 hA2 hh
    by_cases hpe:pe=0
    ·subst hpe
     obtain ⟨rfl,rfl,hOwn⟩:=HA2.out rfl
     have hpl:=parT_names r (l.drop O1)
     rw [HP3.out] at hpl
     have hpl:=hpl rfl
     dsimp only at hpl
     obtain ⟨O2,hO2⟩:∃ O2,O1+pn=O2:=⟨_,rfl⟩
     have hO1':=HO1.out
     have hO2l:O2≤l.length:=by have:=hpl.2;simp at this;omega
     have hC3:=HC2.out
     rw [hO2] at hC3
     obtain ⟨u,hu,HU⟩:=HP1.out.tx.mid O1 O2
     have t0:w2.cell? ⟨b,0,none⟩=some (.string s):=hC3.cell 0
     have t1:w2.cell? ⟨b,1,none⟩=some (.int .i64 (O2:Int)):=hC3.cell 1
     have h12:(O1:Int)≤(O2:Int):=by omega
     have hO2s:(O2:Int)≤(s.size:Int):=by rw [HP1.out.tx.size];omega
     have HC3:=Lib.hid hC3
     have HO2:=Lib.hid hO2
     have HPL:=Lib.hid hpl
     have HOwn:=Lib.hid hOwn
     clear hC3 hO2 hpl hOwn HA2 hO1'
     rw [show ((0:Nat):Int)=0 from rfl]
     go_wp2_with fail
     go_still_tail 12,(by kernel_rfl)
     change wpList _ _ _ _ _ w2.drew
     have HC4:Hid (CurK w2.drew b s (O2:Int) ((D+1:Nat):Int) ((max DP' (D+1+depthT pt):Nat):Int) v2 sb):=HC3.out
     have HB4:Hid (Blk w2.drew g g #[.string noB,.string noB] 74):=HB3.out
     have HF4:Hid (Fr b v w v2 w2.drew):=HF3.out.trans (Fr.nx ((Nx.refl w2).dr 1) _ _)
     have HOwn4:Hid (OwnN w2.drew B v2 (ns'++nmB pt)):=HOwn.out
     clear HC3 HB3 HF3 HOwn c0 c1 f0 f1 t0 t1
     generalize w2.drew=w3 at *
     have f0:w3.frozen? ⟨g,0,none⟩=false:=HB4.out.free 0
     have c0:w3.cell? ⟨g,0,none⟩=some (.string noB):=HB4.out.cell 0
     have hsd:=parT_sound r (l.drop O1)
     rw [HP3.out] at hsd
     have hsd:=hsd rfl
     dsimp only at hsd
     have HSD:=Lib.hid hsd
     clear hsd
     go_wp2_with fail
     have h1:=HO1.out
     have h2:=HO2.out
     have h3:=HPL.out
     have h4:=HSD.out
     have h5:=HP.out.nsl
     have h6:=HP1.out.le
     have h7:=HP1.out.dp
     have h8:=HD.out
     refine ⟨⟨1,O2,max DP' (D+1+depthT pt),v2,ns'++nmB pt,u,noB,rfl,?_,HB4.out.put 0 _,HF4.out.put hgI 0 _,.inr (.inl ⟨rfl,H60.out,rfl,by dsimp only;omega,rfl,rfl,?_,rfl⟩)⟩,by simp [intOf]⟩
     ·refine HP.out.step HF4.out HC4.out HOwn4.out HB4.out hgI HGB.out _ _ hO2l ?_ (by omega) (by omega)
      rw [List.length_append,nmB_len];omega
     ·dsimp only
      rw [← h4.2.2.2,List.take_drop,h2]
      exact HU.out
    ·have hb:((pe:Int) != 0)=true:=by rw [bne_iff_ne];omega
     have HR:Hid (R=noTy pe):=by
      unfold Hid;rw [← hR.out];unfold innT
      rw [if_neg (by rw [H60.out];simp),List.drop_drop,hp.out]
      dsimp only
      rw [if_pos hpe]
     have HPE:=Lib.hid hpe
     clear hpe
     go_wp2_with fail
     refine bodyPost_ret (results_cell_tmp_rowK rfl _ _ g _ _ _ _ rfl HB3.out.put2.2 Tryd.underlying74 rfl (by kernel_rfl)) rfl ?_
     rw [HR.out]
     exact ⟨_,_,rfl,fun h=>absurd h HPE.out,Aft.err (HC2.out.other2 HGB.out) (HF3.out.put2 hgI) HPE.out⟩
   ·have HR:Hid (R=noTy 2):=by unfold Hid;rw [← hR.out];unfold innT;rw [if_pos h60]
    have HT:=Lib.hid (decide_eq_false h60)
    clear h60
    go_wp2_with fail
    refine (take_lit 60 60 rfl b s l o' _ _ _ sb wr HP1.out.cur HP1.out.tx HP1.out.ho HP1.out.hs false HT.out).mono ?_;rintro e w1 ⟨rfl,hC1,hO1⟩
    have hB2:=hO1.blk HB1.out HGB.out
    have c0:w1.cell? ⟨g,0,none⟩=some (.string noB):=hB2.cell 0
    have c1:w1.cell? ⟨g,1,none⟩=some (.string noB):=hB2.cell 1
    have f0:w1.frozen? ⟨g,0,none⟩=false:=hB2.free 0
    have f1:w1.frozen? ⟨g,1,none⟩=false:=hB2.free 1
    have hF2:=HF1.out.trans (Fr.oth hO1 _)
    have HB2:=Lib.hid hB2
    have HF2:=Lib.hid hF2
    have HC1:=Lib.hid hC1
    clear hB2 hF2 hC1 hO1
    go_wp2_with fail
    refine bodyPost_ret (results_cell_tmp_rowK rfl _ _ g _ _ _ _ rfl HB2.out.put2.2 Tryd.underlying74 rfl (by kernel_rfl)) rfl ?_
    rw [HR.out]
    exact ⟨_,_,rfl,fun h=>absurd h (by decide),Aft.err (HC1.out.other2 HGB.out) (HF2.out.put2 hgI) (by decide)⟩
  ·obtain ⟨rfl,h60,hp0,hoe,hDP,rfl,hA,rfl⟩:=h
   have H60:=Lib.hid h60
   have HP0:=Lib.hid hp0
   have HOE:=Lib.hid hoe
   have HDP:=Lib.hid hDP
   have HA:=Lib.hid hA
   clear h60 hp0 hoe hDP hA
   have hl:=look_m HP1.out.sg 1 (by decide) 1 rfl _ sign_m1 44 rfl true rfl
   rw [show ((1:Nat):Int)=1 from rfl]
   by_cases h44:(l.drop o').head? = some 44
   ·have HT:=Lib.hid (decide_eq_true h44)
    have H44:=Lib.hid h44
    clear h44
    go_wp2_with fail
    refine (take_lit 44 44 rfl b s l o' _ _ _ sb wr HP1.out.cur HP1.out.tx HP1.out.ho HP1.out.hs true HT.out).mono ?_;rintro e w1 ⟨rfl,hC1,hO1⟩
    obtain ⟨O1,hO1e⟩:∃ O1,o'+1=O1:=⟨_,rfl⟩
    have hlen:=(head_take l 44 o' H44.out).2
    simp only [if_true,hO1e] at hC1
    have hP2:=HP1.out.oth hO1 hC1 (by omega) (by omega) HP1.out.le HP1.out.dp
    have hB2:=hO1.blk HB1.out HGB.out
    have c1:w1.cell? ⟨b,1,none⟩=some (.int .i64 (O1:Int)):=hC1.cell 1
    have hF2:=HF1.out.trans (Fr.oth hO1 _)
    have HB2:=Lib.hid hB2
    have HF2:=Lib.hid hF2
    have HP2:=Lib.hid hP2
    have HO1:=Lib.hid hO1e
    have HP3:Hid (parT r (l.drop O1)=q):=by unfold Hid;rw [← hO1e,HOE.out];exact hq.out
    have hz2:g<w1.heap.size:=hB2.lt
    clear hB2 hF2 hC1 hO1 hP2 hO1e c5 hl
    go_wp2_with fail
    refine (HN.out w1 b s l O1 (D+1) DP' sb B v' _ HP2.out HD.out).mono ?_;rintro e w2 ⟨K,N,A2,C2,rfl,hh,o2,dp2,v2,hC2,hF2,hA2⟩
    rw [HP3.out] at hh hA2 ⊢
    obtain ⟨pe,pt,pn⟩:=q
    dsimp only at hh hA2 ⊢
    have hF3:=HF2.out.trans hF2
    have hB3:=hF2.blk HB2.out HGB.out (HP2.out.own.ne HB2.out (by decide))
    have c0:w2.cell? ⟨g,0,none⟩=some (.string A):=hB3.cell 0
    have c1:w2.cell? ⟨g,1,none⟩=some (.string noB):=hB3.cell 1
    have f0:w2.frozen? ⟨g,0,none⟩=false:=hB3.free 0
    have f1:w2.frozen? ⟨g,1,none⟩=false:=hB3.free 1
    have HB3:=Lib.hid hB3
    have HF3:=Lib.hid hF3
    have HC2:=Lib.hid hC2
    have HA2:=Lib.hid hA2
    have HH:=Lib.hid hh
    clear hB3 hF3 hC2 hF2 hA2 hh
    by_cases hpe:pe=0
    ·subst hpe
     obtain ⟨rfl,rfl,hOwn⟩:=HA2.out rfl
     have hpl:=parT_names r (l.drop O1)
     rw [HP3.out] at hpl
     have hpl:=hpl rfl
     dsimp only at hpl
     obtain ⟨O2,hO2⟩:∃ O2,O1+pn=O2:=⟨_,rfl⟩
     have hO1':=HO1.out
     have hO2l:O2≤l.length:=by have:=hpl.2;simp at this;omega
     have hC3:=HC2.out
     rw [hO2] at hC3
     obtain ⟨u,hu,HU⟩:=HP1.out.tx.mid O1 O2
     have t0:w2.cell? ⟨b,0,none⟩=some (.string s):=hC3.cell 0
     have t1:w2.cell? ⟨b,1,none⟩=some (.int .i64 (O2:Int)):=hC3.cell 1
     have h12:(O1:Int)≤(O2:Int):=by omega
     have hO2s:(O2:Int)≤(s.size:Int):=by rw [HP1.out.tx.size];omega
     have HC3:=Lib.hid hC3
     have HO2:=Lib.hid hO2
     have HPL:=Lib.hid hpl
     have HOwn:=Lib.hid hOwn
     clear hC3 hO2 hpl hOwn HA2 hO1'
     rw [show ((0:Nat):Int)=0 from rfl]
     go_wp2_with fail
     go_still_tail 12,(by kernel_rfl)
     change wpList _ _ _ _ _ w2.drew
     have HC4:Hid (CurK w2.drew b s (O2:Int) ((D+1:Nat):Int) ((max DP' (D+1+depthT pt):Nat):Int) v2 sb):=HC3.out
     have HB4:Hid (Blk w2.drew g g #[.string A,.string noB] 74):=HB3.out
     have HF4:Hid (Fr b v w v2 w2.drew):=HF3.out.trans (Fr.nx ((Nx.refl w2).dr 1) _ _)
     have HOwn4:Hid (OwnN w2.drew B v2 (ns++nmB p.2.1++nmB pt)):=HOwn.out
     clear HC3 HB3 HF3 HOwn c0 c1 f0 f1 t0 t1
     generalize w2.drew=w3 at *
     have f0:w3.frozen? ⟨g,1,none⟩=false:=HB4.out.free 1
     have c0:w3.cell? ⟨g,1,none⟩=some (.string noB):=HB4.out.cell 1
     have hsd:=parT_sound r (l.drop O1)
     rw [HP3.out] at hsd
     have hsd:=hsd rfl
     dsimp only at hsd
     have HSD:=Lib.hid hsd
     clear hsd
     go_wp2_with fail
     have h1:=HO1.out
     have h2:=HO2.out
     have h3:=HPL.out
     have h4:=HSD.out
     have h5:=HP.out.nsl
     have h6:=HP1.out.le
     have h7:=HP1.out.dp
     have h8:=HD.out
     refine ⟨⟨2,O2,max DP' (D+1+depthT pt),v2,_++nmB pt,A,u,rfl,?_,HB4.out.put 1 _,HF4.out.put hgI 1 _,.inr (.inr (.inl ⟨rfl,H60.out,HP0.out,by rw [← HOE.out];exact H44.out,rfl,by have:=HOE.out;dsimp only;omega,by rw [HDP.out],rfl,HA.out,?_⟩))⟩,by simp [intOf]⟩
     ·refine HP.out.step HF4.out HC4.out HOwn4.out HB4.out hgI HGB.out _ _ hO2l ?_ (by omega) (by omega)
      have:=HP1.out.nsl
      rw [List.length_append,nmB_len];omega
     ·dsimp only
      rw [← h4.2.2.2,List.take_drop,h2]
      exact HU.out
    ·have hb:((pe:Int) != 0)=true:=by rw [bne_iff_ne];omega
     have HR:Hid (R=noTy pe):=by
      unfold Hid;rw [← hR.out];unfold innT
      rw [if_neg (by rw [H60.out];simp),List.drop_drop,hp.out,if_neg (by rw [HP0.out];simp),if_pos (rfl:(13:Nat)=13),List.drop_drop,if_neg (by rw [← Nat.add_assoc,← HOE.out,H44.out];simp),List.drop_drop,show o+(1+p.2.2+1)=o+1+p.2.2+1 by omega,hq.out]
      dsimp only
      rw [if_pos hpe]
     have HPE:=Lib.hid hpe
     clear hpe
     go_wp2_with fail
     refine bodyPost_ret (results_cell_tmp_rowK rfl _ _ g _ _ _ _ rfl HB3.out.put2.2 Tryd.underlying74 rfl (by kernel_rfl)) rfl ?_
     rw [HR.out]
     exact ⟨_,_,rfl,fun h=>absurd h HPE.out,Aft.err (HC2.out.other2 HGB.out) (HF3.out.put2 hgI) HPE.out⟩
   ·have HR:Hid (R=noTy 2):=by
     unfold Hid;rw [← hR.out];unfold innT
     rw [if_neg (by rw [H60.out];simp),List.drop_drop,hp.out,if_neg (by rw [HP0.out];simp),if_pos (rfl:(13:Nat)=13),List.drop_drop,if_pos (by rw [← Nat.add_assoc,← HOE.out];exact h44)]
    have HT:=Lib.hid (decide_eq_false h44)
    clear h44
    go_wp2_with fail
    refine (take_lit 44 44 rfl b s l o' _ _ _ sb wr HP1.out.cur HP1.out.tx HP1.out.ho HP1.out.hs false HT.out).mono ?_;rintro e w1 ⟨rfl,hC1,hO1⟩
    have hB2:=hO1.blk HB1.out HGB.out
    have c0:w1.cell? ⟨g,0,none⟩=some (.string A):=hB2.cell 0
    have c1:w1.cell? ⟨g,1,none⟩=some (.string noB):=hB2.cell 1
    have f0:w1.frozen? ⟨g,0,none⟩=false:=hB2.free 0
    have f1:w1.frozen? ⟨g,1,none⟩=false:=hB2.free 1
    have hF2:=HF1.out.trans (Fr.oth hO1 _)
    have HB2:=Lib.hid hB2
    have HF2:=Lib.hid hF2
    have HC1:=Lib.hid hC1
    clear hB2 hF2 hC1 hO1
    go_wp2_with fail
    refine bodyPost_ret (results_cell_tmp_rowK rfl _ _ g _ _ _ _ rfl HB2.out.put2.2 Tryd.underlying74 rfl (by kernel_rfl)) rfl ?_
    rw [HR.out]
    exact ⟨_,_,rfl,fun h=>absurd h (by decide),Aft.err (HC1.out.other2 HGB.out) (HF2.out.put2 hgI) (by decide)⟩
  ·obtain ⟨rfl,h60,hp0,h44,hq0,hoe,hDP,rfl,hA,hC⟩:=h
   have H60:=Lib.hid h60
   have HP0:=Lib.hid hp0
   have H44:=Lib.hid h44
   have HQ0:=Lib.hid hq0
   have HOE:=Lib.hid hoe
   have HDP:=Lib.hid hDP
   have HA:=Lib.hid hA
   have HC:=Lib.hid hC
   have hl:=look_m HP1.out.sg 2 (by decide) 2 rfl _ sign_m2 62 rfl true rfl
   clear h60 hp0 h44 hq0 hoe hDP hA hC
   rw [show ((2:Nat):Int)=2 from rfl]
   by_cases h62:(l.drop o').head? = some 62
   ·have HT:=Lib.hid (decide_eq_true h62)
    have H62:=Lib.hid h62
    clear h62
    go_wp2_with fail
    refine (take_lit 62 62 rfl b s l o' _ _ _ sb wr HP1.out.cur HP1.out.tx HP1.out.ho HP1.out.hs true HT.out).mono ?_;rintro e w1 ⟨rfl,hC1,hO1⟩
    have hlen:=(head_take l 62 o' H62.out).2
    simp only [if_true] at hC1
    have hP2:=HP1.out.oth hO1 hC1 (by omega) (by omega) HP1.out.le HP1.out.dp
    have HP2:=Lib.hid hP2
    have HB2:=Lib.hid (hO1.blk HB1.out HGB.out)
    have HF2:=Lib.hid (HF1.out.trans (Fr.oth hO1 _))
    clear hP2 hC1 hO1 c5 hl
    go_wp2_with fail
    exact ⟨⟨3,o'+1,DP',v',_,A,C,rfl,HP2.out,HB2.out,HF2.out,.inr (.inr (.inr ⟨rfl,H60.out,HP0.out,H44.out,HQ0.out,by rw [← HOE.out];exact H62.out,by rw [HOE.out],HDP.out,rfl,HA.out,HC.out⟩))⟩,by simp [intOf]⟩
   ·have HR:Hid (R=noTy 2):=by
     unfold Hid;rw [← hR.out];unfold innT
     rw [if_neg (by rw [H60.out];simp),List.drop_drop,hp.out,if_neg (by rw [HP0.out];simp),if_pos (rfl:(13:Nat)=13),List.drop_drop,if_neg (by rw [← Nat.add_assoc,H44.out];simp),List.drop_drop,show o+(1+p.2.2+1)=o+1+p.2.2+1 by omega,hq.out,if_neg (by rw [HQ0.out];simp),List.drop_drop,if_pos (by rw [show o+(1+p.2.2+1+q.2.2)=o+1+p.2.2+1+q.2.2 by omega,← HOE.out];exact h62)]
    have HT:=Lib.hid (decide_eq_false h62)
    clear h62
    go_wp2_with fail
    refine (take_lit 62 62 rfl b s l o' _ _ _ sb wr HP1.out.cur HP1.out.tx HP1.out.ho HP1.out.hs false HT.out).mono ?_;rintro e w1 ⟨rfl,hC1,hO1⟩
    have hB2:=hO1.blk HB1.out HGB.out
    have c0:w1.cell? ⟨g,0,none⟩=some (.string A):=hB2.cell 0
    have c1:w1.cell? ⟨g,1,none⟩=some (.string C):=hB2.cell 1
    have f0:w1.frozen? ⟨g,0,none⟩=false:=hB2.free 0
    have f1:w1.frozen? ⟨g,1,none⟩=false:=hB2.free 1
    have hF2:=HF1.out.trans (Fr.oth hO1 _)
    have HB2:=Lib.hid hB2
    have HF2:=Lib.hid hF2
    have HC1:=Lib.hid hC1
    clear hB2 hF2 hC1 hO1
    go_wp2_with fail
    refine bodyPost_ret (results_cell_tmp_rowK rfl _ _ g _ _ _ _ rfl HB2.out.put2.2 Tryd.underlying74 rfl (by kernel_rfl)) rfl ?_
    rw [HR.out]
    exact ⟨_,_,rfl,fun h=>absurd h (by decide),Aft.err (HC1.out.other2 HGB.out) (HF2.out.put2 hgI) (by decide)⟩
  ·obtain ⟨rfl,h60,hp0,h44,hq0,h62,hoe,hDP,rfl,hA,hC⟩:=h
   have hl:=look_m HP1.out.sg 3 (by decide) 3 rfl _ sign_m3 0 rfl false rfl
   have HR:Hid (R=(0,.mp p.2.1 q.2.1,1+p.2.2+1+q.2.2+1)):=by
    unfold Hid;rw [← hR.out];unfold innT
    rw [if_neg (by rw [h60];simp),List.drop_drop,hp.out,if_neg (by rw [hp0];simp),if_pos (rfl:(13:Nat)=13),List.drop_drop,if_neg (by rw [← Nat.add_assoc,h44];simp),List.drop_drop,show o+(1+p.2.2+1)=o+1+p.2.2+1 by omega,hq.out,if_neg (by rw [hq0];simp),List.drop_drop,if_neg (by rw [show o+(1+p.2.2+1+q.2.2)=o+1+p.2.2+1+q.2.2 by omega,h62];simp)]
   have HOE:=Lib.hid hoe
   have HDP:=Lib.hid hDP
   have HA:=Lib.hid hA
   have HC:=Lib.hid hC
   have c0:wr.cell? ⟨g,0,none⟩=some (.string A):=HB1.out.cell 0
   have c1:wr.cell? ⟨g,1,none⟩=some (.string C):=HB1.out.cell 1
   have f0:wr.frozen? ⟨g,0,none⟩=false:=HB1.out.free 0
   have f1:wr.frozen? ⟨g,1,none⟩=false:=HB1.out.free 1
   clear h60 hp0 h44 hq0 h62 hoe hDP hA hC
   rw [show ((3:Nat):Int)=3 from rfl]
   go_wp2_with fail
   refine bodyPost_ret (results_cell_tmp_rowK rfl _ _ g _ _ _ _ rfl HB1.out.put2.2 Tryd.underlying74 rfl (by kernel_rfl)) rfl ?_
   rw [HR.out]
   refine ⟨_,_,rfl,fun _=>⟨HA.out,HC.out⟩,_,_,v',HP1.out.cur.other2 HGB.out,HF1.out.put2 hgI,fun _=>⟨?_,?_,?_⟩⟩
   ·rw [HOE.out];dsimp only;congr 1;omega
   ·rw [HDP.out];dsimp only [depthT];congr 1;omega
   ·have he:ns++nmB (.mp p.2.1 q.2.1)=ns++nmB p.2.1++nmB q.2.1:=by simp [nmB,namesT]
    dsimp only
    rw [he]
    refine HP1.out.own.keep fun k e=>?_
    have hne:=HP1.out.own.ne HB1.out (by decide)
    simp only [World.setCell]
    rw [Array.getElem?_modify,if_neg (fun e'=>hne (by rw [e'];exact e)),Array.getElem?_modify,if_neg (fun e'=>hne (by rw [e'];exact e))]
end Go.Proofs.YtnfelopknfdpfaaDoor
namespace Go.Proofs.YtnfelopknfdpfaaDoor
open Go.RowKit
theorem innT_depth (par:List UInt8→Nat×Ty×Nat) (k:Nat) (l:List UInt8) (h:(innT par k l).1=0):1≤depthT (innT par k l).2.1:=by
 unfold innT at h ⊢
 split at h
 ·cases h
 ·rename_i h1
  rw [if_neg h1]
  split at h
  ·rename_i h2;exact absurd h h2
  ·rename_i h2
   rw [if_neg h2]
   split at h
   ·rename_i h3
    rw [if_pos h3]
    split at h
    ·cases h
    ·rename_i h4
     rw [if_neg h4]
     split at h
     ·rename_i h5;exact absurd h h5
     ·rename_i h5
      rw [if_neg h5]
      split at h
      ·cases h
      ·rename_i h6
       rw [if_neg h6]
       simp [depthT]
   ·rename_i h3
    rw [if_neg h3]
    split at h
    ·cases h
    ·rename_i h4
     rw [if_neg h4]
     simp [depthT]
theorem sign_other {k:Nat} (h:k≠13∧k≠14∧k≠15):signV k 0=none:=by
 unfold signV
 rw [if_neg (by omega),if_neg (by omega),if_neg (by omega)]
theorem sign_some {k:Nat} (h:k=13∨k=14∨k=15):signV k 0=some 60:=by
 unfold signV
 rw [if_pos (by omega)]
theorem OwnN.set {w:World} {B c:Nat} {v:Value} {xs:List ByteArray} (h:OwnN w B v xs) (hc:v.ownBlock≠some c) (i:Nat) (u:Value):OwnN (w.setCell ⟨c,i,none⟩ u) B v xs :=
 h.keep fun k e=>by
  simp only [World.setCell]
  rw [Array.getElem?_modify,if_neg (fun e'=>hc (by rw [e'];exact e))]
end Go.Proofs.YtnfelopknfdpfaaDoor
