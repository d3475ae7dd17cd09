/- slices.Equal at members and at spaces. -/
import Derived.Test.YtjggghfekakogaaGreatDoorG08
import Derived.BigQuiet
import Derived.Deep.QuietTactic
import Derived.Shelf.SlicesE.Equal
import Derived.Laws.StructEq
set_option linter.unusedVariables false
set_option linter.unusedSimpArgs false
set_option linter.unnecessarySimpa false
namespace Go.Proofs.YtjggghfekakogaaGreatDoor
open Go.RowKit Go.Shelf
theorem nx_drew (w:World) (n:Nat):Nx w (w.drewN n):=⟨rfl,rfl,rfl,Nat.le_refl _,fun _ _=>rfl⟩
theorem neqMm:NeqAt Tryz.prog 57 (fun x:Mem=>.agg (memA x)) eqMm:=by
 refine ⟨fun x y w=>?_,GuardAt.agg _ (by kernel_rfl)⟩
 have hS:Tryz.prog.underlying 57 = some (.struct (Tryz.prog.fieldsOf 57)):=by kernel_rfl
 have hp:Tryz.prog.stoodInHeld 57 = false:=by kernel_rfl
 obtain ⟨zn,zh,zm⟩:=x
 obtain ⟨yn,yh,ym⟩:=y
 show Sem.run _ (binOp .neq _ (.agg #[bt zn,.bool zh,.int .i64 zm]) (.agg #[bt yn,.bool yh,.int .i64 ym])) _=_
 simp only [bt]
 rw [run_neq_struct,show (10000:Nat)=9999+1 from rfl,run_equalIn_agg w 9999 57 _ _ hS hp]
 simp only [Program.fieldsOf,Tryz.underlying57]
 go_simp
 unfold eqMm
 by_cases h1:zn=yn <;> by_cases h2:zh=yh <;> by_cases h3:zm=ym <;> simp [h1,h2,h3]
theorem neqSp:NeqAt Tryz.prog 50 (fun x:Spc=>.agg (spcA x)) eqS:=by
 refine ⟨fun x y w=>?_,GuardAt.agg _ (by kernel_rfl)⟩
 have hS:Tryz.prog.underlying 50 = some (.struct (Tryz.prog.fieldsOf 50)):=by kernel_rfl
 have hp:Tryz.prog.stoodInHeld 50 = false:=by kernel_rfl
 obtain ⟨zo,zn⟩:=x
 obtain ⟨yo,yn⟩:=y
 show Sem.run _ (binOp .neq _ (.agg #[bt zo,bt zn]) (.agg #[bt yo,bt yn])) _=_
 simp only [bt]
 rw [run_neq_struct,show (10000:Nat)=9999+1 from rfl,run_equalIn_agg w 9999 50 _ _ hS hp]
 simp only [Program.fieldsOf,Tryz.underlying50]
 go_simp
 unfold eqS
 by_cases h1:zo=yo <;> by_cases h2:zn=yn <;> simp [h1,h2]
set_option maxRecDepth 100000 in
set_option maxHeartbeats 6400000 in
theorem equal_mem (w:World) (v1 v2:Value) (la lb:List Mem) (h1:LMm w An v1 la) (h2:LMm w An v2 lb) (hla:la.length≤100000) :
  Calls Tryz.prog 99 #[v1,v2] w fun e w'=>e = .returned (.bool (allEq eqMm la lb))∧Nx w w':=by
 obtain ⟨A1,a1,zs,hv1,hzl,-,-,hrd1,hall1⟩:=h1.sl memA_size
 obtain ⟨A2,a2,ys,hv2,hyl,-,-,hrd2,hall2⟩:=h2.sl memA_size
 subst hv1 hv2
 have H1:=Lib.hid h1
 have H2:=Lib.hid h2
 have hlaI:(la.length:Int)≤100000:=by omega
 clear h1 h2 hrd1 hrd2 hall1 hall2 hzl hyl
 by_cases hlen:la.length=lb.length
 ·rw [← hlen]
  have HLE:=Lib.hid hlen
  clear hlen
  go_enter Tryz.func99,Tryz.ntmps99
  go_wp2_with fail
  go_loopw [13] (fun iv wr=>∃ (i:Nat),iv = .int .i64 (i:Int)∧i≤la.length∧Hid (∀ j (h1:j<la.length) (h2:j<lb.length),j<i→eqMm la[j] lb[j]=true)∧Hid (Nx w wr)) (fun iv _=>(200000 - intOf iv).toNat)
  case atStart=>exact ⟨0,rfl,Nat.zero_le _,Lib.hid (fun j _ _ h=>absurd h (Nat.not_lt_zero _)),Lib.hid (Nx.refl _)⟩
  case round =>
   obtain ⟨i,rfl,hi,HEQ,HO⟩:=hrel
   have hiI:(i:Int)≤100000:=by omega
   by_cases hlt:i<la.length
   ·have q1:decide ((i:Int)<(la.length:Int))=true:=decide_eq_true (by omega)
    have q2:(i:Int)<(la.length:Int):=by omega
    have hltb:i<lb.length:=by have:=HLE.out;omega
    have HLTB:=Lib.hid hltb
    have hr1:LMm wr An (.slice A1 la.length a1) la:=LMm.lasts (mvAn HO.out) H1.out
    have hr2:LMm wr An (.slice A2 lb.length a2) lb:=LMm.lasts (mvAn HO.out) H2.out
    obtain ⟨A',ac',zs,hlv,hzl,hzc,hzm,hrd,hall⟩:=hr1.sl memA_size
    injection hlv with h1 h2 h3
    subst h1 h3
    clear h2
    obtain ⟨g1,rfl,hg1,hcs⟩:=hrd (by omega)
    obtain ⟨Z,hZ⟩:∃ Z,zs[i]'(by omega)=Z:=⟨_,rfl⟩
    have hrc:Z=la[i]:=by
     have:=hall.at_ i (by omega) hlt
     rw [hZ] at this
     exact this
    obtain ⟨A'',ac'',ys,hlv,hyl,hyc,hym,hrd',hall'⟩:=hr2.sl memA_size
    injection hlv with h1 h2 h3
    subst h1 h3
    clear h2
    obtain ⟨g2,rfl,hg2,hcs'⟩:=hrd' (by omega)
    obtain ⟨Y,hY⟩:∃ Y,ys[i]'(by omega)=Y:=⟨_,rfl⟩
    have hrdd:Y=lb[i]:=by
     have:=hall'.at_ i (by omega) hltb
     rw [hY] at this
     exact this
    obtain ⟨zn,zh,zm⟩:=Z
    obtain ⟨yn,yh,ym⟩:=Y
    have hcell:∀ j,j<3→wr.cell? ⟨g1,i * 3+j,none⟩=(memA ⟨zn,zh,zm⟩)[j]?:=fun j hj=>by rw [hcs i (by omega) j hj,hZ]
    have hcell2:∀ j,j<3→wr.cell? ⟨g2,i * 3+j,none⟩=(memA ⟨yn,yh,ym⟩)[j]?:=fun j hj=>by rw [hcs' i (by omega) j hj,hY]
    have e0:wr.cell? ⟨g1,i * 3,none⟩=some (.string ⟨zn.toArray⟩):=hcell 0 (by decide)
    have e1:wr.cell? ⟨g1,i * 3+1,none⟩=some (.bool zh):=hcell 1 (by decide)
    have e2:wr.cell? ⟨g1,i * 3+2,none⟩=some (.int .i64 zm):=hcell 2 (by decide)
    have f0:wr.cell? ⟨g2,i * 3,none⟩=some (.string ⟨yn.toArray⟩):=hcell2 0 (by decide)
    have f1:wr.cell? ⟨g2,i * 3+1,none⟩=some (.bool yh):=hcell2 1 (by decide)
    have f2:wr.cell? ⟨g2,i * 3+2,none⟩=some (.int .i64 ym):=hcell2 2 (by decide)
    obtain ⟨R,hR⟩:∃ R,Hid (eqMm ⟨zn,zh,zm⟩ ⟨yn,yh,ym⟩=R):=⟨_,Lib.hid rfl⟩
    have HRR:Hid (eqMm la[i] (lb[i]'HLTB.out)=R):=by have a:=hR.out;rw [hrc,hrdd] at a;exact a
    clear hltb hcs hcs' hcell hcell2 hall hall' hr1 hr2 hZ hY hrc hrdd hzl hyl hzc hzm hyc hym hrd' hrd hg1 hg2
    have hne':∀ w,Sem.run Tryz.prog (binOp .neq 57 (.agg #[.string ⟨zn.toArray⟩,.bool zh,.int .i64 zm]) (.agg #[.string ⟨yn.toArray⟩,.bool yh,.int .i64 ym])) w = .ok (.bool (!R)) w:=fun w=>by have:=neqMm.1 ⟨zn,zh,zm⟩ ⟨yn,yh,ym⟩ w;rw [hR.out] at this;exact this
    have hgd':∀ (op:BinOp) (a b:Operand) (w:World),Sem.run Tryz.prog (eqGuard op 57 a b (.agg #[.string ⟨zn.toArray⟩,.bool zh,.int .i64 zm]) (.agg #[.string ⟨yn.toArray⟩,.bool yh,.int .i64 ym])) w = .ok () w:=fun op a b w=>neqMm.2 op a b ⟨zn,zh,zm⟩ ⟨yn,yh,ym⟩ w
    go_upto_region 6 with fail
    cases R with
    | false =>
     go_quiet (fail)
     clear hne' hgd' e0 e1 e2 f0 f1 f2
     go_wp2_with fail
     go_ret
     have HF:Hid (allEq eqMm la lb=false):=allEq_false i hlt HLTB.out HRR.out
     rw [HF.out]
     exact ⟨rfl,HO.out.trans (nx_drew _ _)⟩
    | true =>
     go_quiet (fail)
     clear hne' hgd' e0 e1 e2 f0 f1 f2
     go_wp2_with fail
     go_roundw
     case rel=>exact ⟨i+1,by go_num,hlt,Lib.hid (fun j a b h=>by
       rcases Nat.lt_or_ge j i with h' | h'
       ·exact HEQ.out j a b h'
       ·obtain rfl:j=i:=by omega
        exact HRR.out),Lib.hid (HO.out.trans (nx_drew _ _))⟩
     case measure=>simp [intOf];omega
   ·obtain rfl:i=la.length:=by omega
    have q1:decide ((la.length:Int)<(la.length:Int))=false:=decide_eq_false (by omega)
    have HF:Hid (allEq eqMm la lb=true):=allEq_true HLE.out fun j a b=>HEQ.out j a b a
    clear hlt hi
    go_wp2_with fail
    go_ret
    rw [HF.out]
    exact ⟨rfl,HO.out⟩
 ·have b1:((la.length:Int) != (lb.length:Int))=true:=by rw [bne_iff_ne];omega
  have b1':¬ (la.length:Int)=(lb.length:Int):=by omega
  have hf:allEq eqMm la lb=false:=allEq_len hlen
  rw [hf]
  clear hlen
  go_enter Tryz.func99,Tryz.ntmps99
  go_wp2_with fail
  go_ret
  exact ⟨rfl,Nx.refl _⟩
set_option maxRecDepth 100000 in
set_option maxHeartbeats 6400000 in
theorem equal_spc (w:World) (v1 v2:Value) (la lb:List Spc) (h1:LS w An v1 la) (h2:LS w An v2 lb) (hla:la.length≤100000) :
  Calls Tryz.prog 49 #[v1,v2] w fun e w'=>e = .returned (.bool (allEq eqS la lb))∧Nx w w':=by
 obtain ⟨A1,a1,zs,hv1,hzl,-,-,hrd1,hall1⟩:=h1.sl spcA_size
 obtain ⟨A2,a2,ys,hv2,hyl,-,-,hrd2,hall2⟩:=h2.sl spcA_size
 subst hv1 hv2
 have H1:=Lib.hid h1
 have H2:=Lib.hid h2
 have hlaI:(la.length:Int)≤100000:=by omega
 clear h1 h2 hrd1 hrd2 hall1 hall2 hzl hyl
 by_cases hlen:la.length=lb.length
 ·rw [← hlen]
  have HLE:=Lib.hid hlen
  clear hlen
  go_enter Tryz.func49,Tryz.ntmps49
  go_wp2_with fail
  go_loopw [13] (fun iv wr=>∃ (i:Nat),iv = .int .i64 (i:Int)∧i≤la.length∧Hid (∀ j (h1:j<la.length) (h2:j<lb.length),j<i→eqS la[j] lb[j]=true)∧Hid (Nx w wr)) (fun iv _=>(200000 - intOf iv).toNat)
  case atStart=>exact ⟨0,rfl,Nat.zero_le _,Lib.hid (fun j _ _ h=>absurd h (Nat.not_lt_zero _)),Lib.hid (Nx.refl _)⟩
  case round =>
   obtain ⟨i,rfl,hi,HEQ,HO⟩:=hrel
   have hiI:(i:Int)≤100000:=by omega
   by_cases hlt:i<la.length
   ·have q1:decide ((i:Int)<(la.length:Int))=true:=decide_eq_true (by omega)
    have q2:(i:Int)<(la.length:Int):=by omega
    have hltb:i<lb.length:=by have:=HLE.out;omega
    have HLTB:=Lib.hid hltb
    have hr1:LS wr An (.slice A1 la.length a1) la:=LS.lasts (mvAn HO.out) H1.out
    have hr2:LS wr An (.slice A2 lb.length a2) lb:=LS.lasts (mvAn HO.out) H2.out
    obtain ⟨A',ac',zs,hlv,hzl,hzc,hzm,hrd,hall⟩:=hr1.sl spcA_size
    injection hlv with h1 h2 h3
    subst h1 h3
    clear h2
    obtain ⟨g1,rfl,hg1,hcs⟩:=hrd (by omega)
    obtain ⟨Z,hZ⟩:∃ Z,zs[i]'(by omega)=Z:=⟨_,rfl⟩
    have hrc:Z=la[i]:=by
     have:=hall.at_ i (by omega) hlt
     rw [hZ] at this
     exact this
    obtain ⟨A'',ac'',ys,hlv,hyl,hyc,hym,hrd',hall'⟩:=hr2.sl spcA_size
    injection hlv with h1 h2 h3
    subst h1 h3
    clear h2
    obtain ⟨g2,rfl,hg2,hcs'⟩:=hrd' (by omega)
    obtain ⟨Y,hY⟩:∃ Y,ys[i]'(by omega)=Y:=⟨_,rfl⟩
    have hrdd:Y=lb[i]:=by
     have:=hall'.at_ i (by omega) hltb
     rw [hY] at this
     exact this
    obtain ⟨zo,zn⟩:=Z
    obtain ⟨yo,yn⟩:=Y
    have hcell:∀ j,j<2→wr.cell? ⟨g1,i * 2+j,none⟩=(spcA ⟨zo,zn⟩)[j]?:=fun j hj=>by rw [hcs i (by omega) j hj,hZ]
    have hcell2:∀ j,j<2→wr.cell? ⟨g2,i * 2+j,none⟩=(spcA ⟨yo,yn⟩)[j]?:=fun j hj=>by rw [hcs' i (by omega) j hj,hY]
    have e0:wr.cell? ⟨g1,i * 2,none⟩=some (.string ⟨zo.toArray⟩):=hcell 0 (by decide)
    have e1:wr.cell? ⟨g1,i * 2+1,none⟩=some (.string ⟨zn.toArray⟩):=hcell 1 (by decide)
    have f0:wr.cell? ⟨g2,i * 2,none⟩=some (.string ⟨yo.toArray⟩):=hcell2 0 (by decide)
    have f1:wr.cell? ⟨g2,i * 2+1,none⟩=some (.string ⟨yn.toArray⟩):=hcell2 1 (by decide)
    obtain ⟨R,hR⟩:∃ R,Hid (eqS ⟨zo,zn⟩ ⟨yo,yn⟩=R):=⟨_,Lib.hid rfl⟩
    have HRR:Hid (eqS la[i] (lb[i]'HLTB.out)=R):=by have a:=hR.out;rw [hrc,hrdd] at a;exact a
    clear hltb hcs hcs' hcell hcell2 hall hall' hr1 hr2 hZ hY hrc hrdd hzl hyl hzc hzm hyc hym hrd' hrd hg1 hg2
    have hne':∀ w,Sem.run Tryz.prog (binOp .neq 50 (.agg #[.string ⟨zo.toArray⟩,.string ⟨zn.toArray⟩]) (.agg #[.string ⟨yo.toArray⟩,.string ⟨yn.toArray⟩])) w = .ok (.bool (!R)) w:=fun w=>by have:=neqSp.1 ⟨zo,zn⟩ ⟨yo,yn⟩ w;rw [hR.out] at this;exact this
    have hgd':∀ (op:BinOp) (a b:Operand) (w:World),Sem.run Tryz.prog (eqGuard op 50 a b (.agg #[.string ⟨zo.toArray⟩,.string ⟨zn.toArray⟩]) (.agg #[.string ⟨yo.toArray⟩,.string ⟨yn.toArray⟩])) w = .ok () w:=fun op a b w=>neqSp.2 op a b ⟨zo,zn⟩ ⟨yo,yn⟩ w
    go_upto_region 6 with fail
    cases R with
    | false =>
     go_quiet (fail)
     clear hne' hgd' e0 e1 f0 f1
     go_wp2_with fail
     go_ret
     have HF:Hid (allEq eqS la lb=false):=allEq_false i hlt HLTB.out HRR.out
     rw [HF.out]
     exact ⟨rfl,HO.out.trans (nx_drew _ _)⟩
    | true =>
     go_quiet (fail)
     clear hne' hgd' e0 e1 f0 f1
     go_wp2_with fail
     go_roundw
     case rel=>exact ⟨i+1,by go_num,hlt,Lib.hid (fun j a b h=>by
       rcases Nat.lt_or_ge j i with h' | h'
       ·exact HEQ.out j a b h'
       ·obtain rfl:j=i:=by omega
        exact HRR.out),Lib.hid (HO.out.trans (nx_drew _ _))⟩
     case measure=>simp [intOf];omega
   ·obtain rfl:i=la.length:=by omega
    have q1:decide ((la.length:Int)<(la.length:Int))=false:=decide_eq_false (by omega)
    have HF:Hid (allEq eqS la lb=true):=allEq_true HLE.out fun j a b=>HEQ.out j a b a
    clear hlt hi
    go_wp2_with fail
    go_ret
    rw [HF.out]
    exact ⟨rfl,HO.out⟩
 ·have b1:((la.length:Int) != (lb.length:Int))=true:=by rw [bne_iff_ne];omega
  have b1':¬ (la.length:Int)=(lb.length:Int):=by omega
  have hf:allEq eqS la lb=false:=allEq_len hlen
  rw [hf]
  clear hlen
  go_enter Tryz.func49,Tryz.ntmps49
  go_wp2_with fail
  go_ret
  exact ⟨rfl,Nx.refl _⟩
end Go.Proofs.YtjggghfekakogaaGreatDoor
