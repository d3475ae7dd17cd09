/- The code's test whether two constants are the same. The code's test whether two constants are the same: the whole of it. -/
import Derived.Test.YtjggghfekakogaaGreatDoorH18
import Derived.Deep.CutBlock
import Derived.Deep.DeepCutAuto
set_option linter.unusedVariables false
set_option linter.unusedSimpArgs false
set_option linter.unnecessarySimpa false
namespace Go.Proofs.YtjggghfekakogaaGreatDoor
open Go.RowKit
def Ne (b g:Nat):Prop:=g≠b
theorem Oth.mvNe {b:Nat} {w w':World} (h:Oth b w w'):Mv (Ne b) (Ne b) w w':=⟨fun g hg hl=>h.block g hl hg,fun _ h _=>h⟩
theorem RC.ot {n b:Nat} {w w':World} {x:ConS} {c:Con} (h:RC n w (Ne b) x c) (ho:Oth b w w'):RC n w' (Ne b) x c:=RC.lasts n ho.mvNe h
theorem LC.ot {n b:Nat} {w w':World} {v:Value} {l:List Con} (h:LC n w (Ne b) v l) (ho:Oth b w w'):LC n w' (Ne b) v l:=LC.lasts n ho.mvNe h
structure Cl (gl gs:Nat) (L:Int) (w:World):Prop where
 l:Blk w gl gl #[.int .i64 L] 3
 s:Blk w gs gs #[.func (.func 147) #[] #[.pointer (some ⟨gl,0,none⟩),.pointer (some ⟨gs,0,none⟩)]] 119
 ne:gs≠gl
theorem Cl.nx {gl gs:Nat} {L:Int} {w w':World} (h:Cl gl gs L w) (hn:Nx w w'):Cl gl gs L w':=⟨h.l.below hn,h.s.below hn,h.ne⟩
def SaC (n:Nat):Prop:=∀ (w:World) (gl gs:Nat) (L:Int) (x y:ConS) (c d:Con),Cl gl gs L w→L≤64000→RC n w (Ne gl) x c→RC n w (Ne gl) y d→(nodC n c:Int)≤L →
 Calls Tryz.prog 147 #[.agg (conA x),.agg (conA y),.pointer (some ⟨gl,0,none⟩),.pointer (some ⟨gs,0,none⟩)] w fun e w'=>e = .returned (.bool (eqC n c d))∧Oth gl w w'∧∃ L',Cl gl gs L' w'∧L - (nodC n c:Int)≤L'∧L'≤L
theorem nod_step (n:Nat) (l:List Con) (i:Nat) (h:i<l.length):(((l.take (i+1)).map (nodC n)).sum:Int)=((l.take i).map (nodC n)).sum+nodC n l[i]∧(((l.take (i+1)).map (nodC n)).sum:Int)≤(l.map (nodC n)).sum:=by
 have h1:((l.take (i+1)).map (nodC n)).sum=((l.take i).map (nodC n)).sum+nodC n l[i]:=by
  rw [← List.take_append_getElem h,List.map_append,List.sum_append];simp
 have h2:(l.map (nodC n)).sum=((l.take (i+1)).map (nodC n)).sum+((l.drop (i+1)).map (nodC n)).sum:=by
  rw [← List.sum_append,← List.map_append,List.take_append_drop]
 constructor <;> omega
set_option maxRecDepth 100000 in
set_option maxHeartbeats 6400000 in
theorem eqFunc_const (n:Nat) (ih:SaC n) (w:World) (gl gs:Nat) (L:Int) (v1 v2:Value) (la lb:List Con) (hc:Cl gl gs L w) (hL:L≤64000) (h1:LC n w (Ne gl) v1 la) (h2:LC n w (Ne gl) v2 lb) (hla:la.length≤100000) (hn:((la.map (nodC n)).sum:Int)≤L) :
  Calls Tryz.prog 148 #[v1,v2,.func (.func 147) #[] #[.pointer (some ⟨gl,0,none⟩),.pointer (some ⟨gs,0,none⟩)]] w
   fun e w'=>e = .returned (.bool (allEq (eqC n) la lb))∧Oth gl w w'∧∃ L',Cl gl gs L' w'∧L - ((la.map (nodC n)).sum:Int)≤L'∧L'≤L:=by
 obtain ⟨A1,a1,zs,hv1,hzl,-,-,hrd1,hall1⟩:=h1.sl conA_size
 obtain ⟨A2,a2,ys,hv2,hyl,-,-,hrd2,hall2⟩:=h2.sl conA_size
 subst hv1 hv2
 have H1:=Lib.hid h1
 have H2:=Lib.hid h2
 have HC:=Lib.hid hc
 have HIH:=Lib.hid ih
 have HN:=Lib.hid hn
 have HLL:=Lib.hid hL
 have hlaI:(la.length:Int)≤100000:=by omega
 clear h1 h2 hc ih hn hL hrd1 hrd2 hall1 hall2 hzl hyl
 by_cases hlen:la.length=lb.length
 ·rw [← hlen]
  have HLE:=Lib.hid hlen
  clear hlen
  go_enter Tryz.func148,Tryz.ntmps148
  go_wp2_with fail
  go_loopw [17] (fun iv wr=>∃ (i:Nat) (M:Int),iv = .int .i64 (i:Int)∧i≤la.length∧Hid (∀ j (h1:j<la.length) (h2:j<lb.length),j<i→eqC n la[j] lb[j]=true)∧Hid (Oth gl w wr)∧Hid (Cl gl gs M wr)∧Hid (L - (((la.take i).map (nodC n)).sum:Int)≤M∧M≤L)) (fun iv _=>(200000 - intOf iv).toNat)
  case atStart=>exact ⟨0,L,rfl,Nat.zero_le _,Lib.hid (fun j _ _ h=>absurd h (Nat.not_lt_zero _)),Lib.hid (Oth.refl _ _),HC,Lib.hid ⟨by simp,by omega⟩⟩
  case round =>
   obtain ⟨i,M,rfl,hi,HEQ,HO,HCL,HM⟩:=hrel
   have hiI:(i:Int)≤100000:=by omega
   by_cases hlt:i<la.length
   ·have q1:decide ((i:Int)<(la.length:Int))=true:=decide_eq_true (by omega)
    have q2:(i:Int)<(la.length:Int):=by omega
    have hltb:i<lb.length:=by have:=HLE.out;omega
    have HLTB:=Lib.hid hltb
    have hr1:=H1.out.ot HO.out
    have hr2:=H2.out.ot HO.out
    obtain ⟨A',ac',zs,hlv,hzl,hzc,hzm,hrd,hall⟩:=hr1.sl conA_size
    injection hlv with h1 h2 h3
    subst h1 h3
    clear h2
    obtain ⟨g1,rfl,hg1,hcs⟩:=hrd (by omega)
    obtain ⟨Z,hZ⟩:∃ Z,zs[i]'(by omega)=Z:=⟨_,rfl⟩
    have hrc:RC n wr (Ne gl) Z la[i]:=by
     have:=hall.at_ i (by omega) hlt
     rw [hZ] at this
     exact RC.lasts n ⟨fun _ _ _=>rfl,fun _ h _=>h.1⟩ this
    obtain ⟨A'',ac'',ys,hlv,hyl,hyc,hym,hrd',hall'⟩:=hr2.sl conA_size
    injection hlv with h1 h2 h3
    subst h1 h3
    clear h2
    obtain ⟨g2,rfl,hg2,hcs'⟩:=hrd' (by omega)
    obtain ⟨Y,hY⟩:∃ Y,ys[i]'(by omega)=Y:=⟨_,rfl⟩
    have hrd:RC n wr (Ne gl) Y lb[i]:=by
     have:=hall'.at_ i (by omega) hltb
     rw [hY] at this
     exact RC.lasts n ⟨fun _ _ _=>rfl,fun _ h _=>h.1⟩ this
    obtain ⟨ek,ei,ed,es,el⟩:=Z
    obtain ⟨lA,lk,lc,rfl⟩:∃ A k cap,el = .slice A k cap:=hrc.slv
    obtain ⟨fk,fi,fd,fs,fl⟩:=Y
    obtain ⟨mA,mk,mc,rfl⟩:∃ A k cap,fl = .slice A k cap:=hrd.slv
    have hcell:∀ j,j<5→wr.cell? ⟨g1,i * 5+j,none⟩=(conA ⟨ek,ei,ed,es,.slice lA lk lc⟩)[j]?:=fun j hj=>by rw [hcs i (by omega) j hj,hZ]
    have hcell2:∀ j,j<5→wr.cell? ⟨g2,i * 5+j,none⟩=(conA ⟨fk,fi,fd,fs,.slice mA mk mc⟩)[j]?:=fun j hj=>by rw [hcs' i (by omega) j hj,hY]
    have e0:wr.cell? ⟨g1,i * 5,none⟩=some (.int .i64 (ek:Int)):=hcell 0 (by decide)
    have e1:wr.cell? ⟨g1,i * 5+1,none⟩=some (.int .i64 ei):=hcell 1 (by decide)
    have e2:wr.cell? ⟨g1,i * 5+2,none⟩=some (.int .u64 (ed:Int)):=hcell 2 (by decide)
    have e3:wr.cell? ⟨g1,i * 5+3,none⟩=some (.string ⟨es.toArray⟩):=hcell 3 (by decide)
    have e4:wr.cell? ⟨g1,i * 5+4,none⟩=some (.slice lA lk lc):=hcell 4 (by decide)
    have HCE2:=Lib.hid hcell2
    have HR1:=Lib.hid hrc
    have HR2:=Lib.hid hrd
    have HG2:=Lib.hid hg2
    obtain ⟨hst,hle⟩:=nod_step n la i hlt
    have HST:=Lib.hid (And.intro hst hle)
    clear hltb hcs hcs' hcell hcell2 hall hall' hr1 hr2 hZ hY hrc hrd hst hle hzl hyl hzc hzm hyc hym hrd' hg1 hg2
    obtain ⟨ga,hga⟩:∃ g,wr.heap.size=g:=⟨_,rfl⟩
    go_upto_region 6 with fail
    have hB1:=Blk.new wr #[.int .i64 (ek:Int),.int .i64 ei,.int .u64 (ed:Int),.string ⟨es.toArray⟩,.slice lA lk lc] 48
    rw [hga] at hB1
    have hn1:Nx wr (wr.alloc (.cells #[.int .i64 (ek:Int),.int .i64 ei,.int .u64 (ed:Int),.string ⟨es.toArray⟩,.slice lA lk lc] 48)):=nx0 _ _
    generalize World.alloc wr _=W1 at *
    have hcell2:∀ j,j<5→W1.cell? ⟨g2,i * 5+j,none⟩=(conA ⟨fk,fi,fd,fs,.slice mA mk mc⟩)[j]?:=fun j hj=>(hn1.cell (p:=⟨g2,i * 5+j,none⟩) HG2.out).trans (HCE2.out j hj)
    have f0:W1.cell? ⟨g2,i * 5,none⟩=some (.int .i64 (fk:Int)):=hcell2 0 (by decide)
    have f1:W1.cell? ⟨g2,i * 5+1,none⟩=some (.int .i64 fi):=hcell2 1 (by decide)
    have f2:W1.cell? ⟨g2,i * 5+2,none⟩=some (.int .u64 (fd:Int)):=hcell2 2 (by decide)
    have f3:W1.cell? ⟨g2,i * 5+3,none⟩=some (.string ⟨fs.toArray⟩):=hcell2 3 (by decide)
    have f4:W1.cell? ⟨g2,i * 5+4,none⟩=some (.slice mA mk mc):=hcell2 4 (by decide)
    obtain ⟨gb,hgb⟩:∃ g,W1.heap.size=g:=⟨_,rfl⟩
    have HB1:=Lib.hid hB1
    have HN1:=Lib.hid hn1
    clear e0 e1 e2 e3 e4 hcell2 HCE2 hga hB1 hn1
    go_upto_region 7 with fail
    have hB2:=Blk.new W1 #[.int .i64 (fk:Int),.int .i64 fi,.int .u64 (fd:Int),.string ⟨fs.toArray⟩,.slice mA mk mc] 48
    rw [hgb] at hB2
    have hn2:Nx W1 (W1.alloc (.cells #[.int .i64 (fk:Int),.int .i64 fi,.int .u64 (fd:Int),.string ⟨fs.toArray⟩,.slice mA mk mc] 48)):=nx0 _ _
    generalize World.alloc W1 _=W2 at *
    have hB1':=HB1.out.below hn2
    have c0:W2.cell? ⟨ga,0,none⟩=some (.int .i64 (ek:Int)):=hB1'.cell 0
    have c1:W2.cell? ⟨ga,1,none⟩=some (.int .i64 ei):=hB1'.cell 1
    have c2:W2.cell? ⟨ga,2,none⟩=some (.int .u64 (ed:Int)):=hB1'.cell 2
    have c3:W2.cell? ⟨ga,3,none⟩=some (.string ⟨es.toArray⟩):=hB1'.cell 3
    have c4:W2.cell? ⟨ga,4,none⟩=some (.slice lA lk lc):=hB1'.cell 4
    have d0:W2.cell? ⟨gb,0,none⟩=some (.int .i64 (fk:Int)):=hB2.cell 0
    have d1:W2.cell? ⟨gb,1,none⟩=some (.int .i64 fi):=hB2.cell 1
    have d2:W2.cell? ⟨gb,2,none⟩=some (.int .u64 (fd:Int)):=hB2.cell 2
    have d3:W2.cell? ⟨gb,3,none⟩=some (.string ⟨fs.toArray⟩):=hB2.cell 3
    have d4:W2.cell? ⟨gb,4,none⟩=some (.slice mA mk mc):=hB2.cell 4
    have hnx:Nx wr W2:=HN1.out.trans hn2
    have hcall:=HIH.out W2 gl gs M ⟨ek,ei,ed,es,.slice lA lk lc⟩ ⟨fk,fi,fd,fs,.slice mA mk mc⟩ (la[i]'hlt) (lb[i]'HLTB.out) (HCL.out.nx hnx) (by have:=HM.out;have:=HLL.out;omega) (HR1.out.ot (Oth.nx hnx)) (HR2.out.ot (Oth.nx hnx)) (by have:=HM.out;have:=HST.out;have:=HN.out;omega)
    obtain ⟨R,hR⟩:∃ R,Hid (eqC n la[i] (lb[i]'HLTB.out)=R):=⟨_,Lib.hid rfl⟩
    rw [hR.out] at hcall
    have HC2:=Lib.hid hcall
    have HO2:=Lib.hid (HO.out.trans (Oth.nx hnx))
    clear f0 f1 f2 f3 f4 hB2 hn2 hgb hB1' hnx hcall HB1 HN1 HO HCL HR1 HR2 HIH
    go_wp2_with fail
    refine HC2.out.mono ?_;rintro e w3 ⟨rfl,ho3,M3,hc3,hm3,hm4⟩
    have HO3:=Lib.hid (HO2.out.trans ho3)
    have HC3:=Lib.hid hc3
    have HM3:Hid (L - (((la.take (i+1)).map (nodC n)).sum:Int)≤M3∧M3≤L):=⟨by have:=HM.out;have:=HST.out;omega,by have:=HM.out;omega⟩
    clear ho3 hc3 hm3 hm4 c0 c1 c2 c3 c4 d0 d1 d2 d3 d4
    cases R with
    | true =>
     go_wp2_with fail
     go_roundw
     case rel=>exact ⟨i+1,M3,by go_num,hlt,Lib.hid (fun j a b h=>by
      rcases Nat.lt_or_ge j i with h' | h'
      ·exact HEQ.out j a b h'
      ·obtain rfl:j=i:=by omega
       exact hR.out),HO3,HC3,HM3⟩
     case measure=>simp [intOf];omega
    | false =>
     have HF:Hid (allEq (eqC n) la lb=false):=allEq_false i hlt HLTB.out hR.out
     have HFIN:Hid (L - ((la.map (nodC n)).sum:Int)≤M3∧M3≤L):=⟨by have:=HM3.out;have:=HST.out;omega,HM3.out.2⟩
     go_wp2_with fail
     go_ret
     rw [HF.out]
     exact ⟨rfl,HO3.out,M3,HC3.out,HFIN.out.1,HFIN.out.2⟩
   ·obtain rfl:i=la.length:=by omega
    have q1:decide ((la.length:Int)<(la.length:Int))=false:=decide_eq_false (by omega)
    have HF:Hid (allEq (eqC n) la lb=true):=allEq_true HLE.out fun j a b=>HEQ.out j a b a
    have HM2:=HM.out
    rw [List.take_length] at HM2
    have HM3:=Lib.hid HM2
    clear hlt hi HM2
    go_wp2_with fail
    go_ret
    rw [HF.out]
    exact ⟨rfl,HO.out,M,HCL.out,HM3.out.1,HM3.out.2⟩
 ·have b1:((la.length:Int) != (lb.length:Int))=true:=by rw [bne_iff_ne];omega
  have b1':¬ (la.length:Int)=(lb.length:Int):=by omega
  have hf:allEq (eqC n) la lb=false:=allEq_len hlen
  rw [hf]
  clear hlen
  go_enter Tryz.func148,Tryz.ntmps148
  go_wp2_with fail
  go_ret
  exact ⟨rfl,Oth.refl _ _,L,HC.out,by omega,by omega⟩
end Go.Proofs.YtjggghfekakogaaGreatDoor
namespace Go.Proofs.YtjggghfekakogaaGreatDoor
open Go.RowKit
theorem all2_nod {n:Nat} {w:World} {P:Nat→Prop}:∀ {xs:List ConS} {l:List Con},All2 (RC n w P) xs l→l.length≤(l.map (nodC n)).sum
 | [],[],_=>Nat.le_refl _
 | x :: xs,c :: l,h=>by
  have ih:=all2_nod h.2
  have h1:1≤nodC n c:=by
   cases n with
   | zero=>exact absurd h.1 (fun h=>h)
   | succ n=>obtain ⟨k,i,d,s,l'⟩:=c;unfold nodC;omega
  simp only [List.length_cons,List.map_cons,List.sum_cons]
  omega
 | [],_ :: _,h=>h.elim
 | _ :: _,[],h=>h.elim
theorem lc_len {n:Nat} {w:World} {P:Nat→Prop} {v:Value} {l:List Con} (h:LC n w P v l):l.length≤(l.map (nodC n)).sum:=by
 obtain ⟨xs,-,h2⟩:=h
 exact all2_nod h2
set_option maxRecDepth 100000 in
set_option maxHeartbeats 6400000 in
theorem sameConst_step (n:Nat) (ih:SaC n):SaC (n+1):=by
 intro w gl gs L x y c d hcl hL hrx hry hn
 obtain ⟨ck,ci,cd,cs,cl⟩:=c
 obtain ⟨dk,di,dd,ds,dl⟩:=d
 obtain ⟨xk,xi,xd,xs,xl⟩:=x
 obtain ⟨yk,yi,yd,ys,yl⟩:=y
 obtain ⟨rfl,rfl,rfl,rfl,hlx⟩:xk=ck∧xi=ci∧xd=cd∧xs=cs∧LC n w (Ne gl) xl cl:=hrx
 obtain ⟨rfl,rfl,rfl,rfl,hly⟩:yk=dk∧yi=di∧yd=dd∧ys=ds∧LC n w (Ne gl) yl dl:=hry
 have hn':1+((cl.map (nodC n)).sum:Int)≤L:=by have:=hn;unfold nodC at this;omega
 have hcl100:cl.length≤100000:=by have:=lc_len hlx;omega
 obtain ⟨M,rfl⟩:∃ M,L=M+1:=⟨L - 1,by omega⟩
 obtain ⟨A1,a1,-,hx1,-⟩:=RepL.sl conA_size hlx
 obtain ⟨A2,a2,-,hx2,-⟩:=RepL.sl conA_size hly
 subst hx1 hx2
 obtain ⟨R,hR⟩:∃ R,Hid (eqC (n+1) (.mk xk xi xd xs cl) (.mk yk yi yd ys dl)=R):=⟨_,Lib.hid rfl⟩
 have hnod:nodC (n+1) (.mk xk xi xd xs cl)=1+(cl.map (nodC n)).sum:=rfl
 rw [hR.out,hnod]
 have hRe:R=((xk == yk) && (xi == yi) && (xd == yd) && (xs == ys) && allEq (eqC n) cl dl):=hR.out.symm
 have HRE:=Lib.hid hRe
 have HLX:=Lib.hid hlx
 have HLY:=Lib.hid hly
 have HIH:=Lib.hid ih
 have HN:=Lib.hid hn'
 have HLL:=Lib.hid hL
 obtain ⟨gx,hgx⟩:∃ g,w.heap.size=g:=⟨_,rfl⟩
 obtain ⟨gy,hgy⟩:∃ g,gx+1=g:=⟨_,rfl⟩
 have hBx:=Blk.new w #[.int .i64 (xk:Int),.int .i64 xi,.int .u64 (xd:Int),.string ⟨xs.toArray⟩,.slice A1 cl.length a1] 48
 rw [hgx] at hBx
 have hn1:Nx w (w.alloc (.cells #[.int .i64 (xk:Int),.int .i64 xi,.int .u64 (xd:Int),.string ⟨xs.toArray⟩,.slice A1 cl.length a1] 48)):=nx0 _ _
 have hBy:=Blk.new (w.alloc (.cells #[.int .i64 (xk:Int),.int .i64 xi,.int .u64 (xd:Int),.string ⟨xs.toArray⟩,.slice A1 cl.length a1] 48)) #[.int .i64 (yk:Int),.int .i64 yi,.int .u64 (yd:Int),.string ⟨ys.toArray⟩,.slice A2 dl.length a2] 48
 have hn2:=hn1.al (.cells #[.int .i64 (yk:Int),.int .i64 yi,.int .u64 (yd:Int),.string ⟨ys.toArray⟩,.slice A2 dl.length a2] 48)
 have hsz:(w.alloc (.cells #[.int .i64 (xk:Int),.int .i64 xi,.int .u64 (xd:Int),.string ⟨xs.toArray⟩,.slice A1 cl.length a1] 48)).heap.size=gy:=by
  have:(w.alloc (.cells #[.int .i64 (xk:Int),.int .i64 xi,.int .u64 (xd:Int),.string ⟨xs.toArray⟩,.slice A1 cl.length a1] 48)).heap.size=w.heap.size+1:=by simp
  omega
 rw [hsz] at hBy
 have hBx2:=hBx.alloc (.cells #[.int .i64 (yk:Int),.int .i64 yi,.int .u64 (yd:Int),.string ⟨ys.toArray⟩,.slice A2 dl.length a2] 48)
 have hcl2:=hcl.nx hn2
 have hgl:gl<gx:=by rw [← hgx];exact hcl.l.lt
 have hgs:gs<gx:=by rw [← hgx];exact hcl.s.lt
 have HBX:=Lib.hid hBx2
 have HBY:=Lib.hid hBy
 have HN2:=Lib.hid hn2
 have HCL:=Lib.hid hcl2
 have HGL:Hid (gl<gx∧gs<gx∧gx<gy):=⟨hgl,hgs,by omega⟩
 clear hR hnod hRe hlx hly ih hn hn' hL hBx hn1 hBy hn2 hBx2 hcl2 hcl hgl hgs hsz
 show Calls _ _ #[.agg #[.int .i64 (xk:Int),.int .i64 xi,.int .u64 (xd:Int),.string ⟨xs.toArray⟩,.slice A1 cl.length a1],.agg #[.int .i64 (yk:Int),.int .i64 yi,.int .u64 (yd:Int),.string ⟨ys.toArray⟩,.slice A2 dl.length a2],.pointer (some ⟨gl,0,none⟩),.pointer (some ⟨gs,0,none⟩)] _ _
 go_enter Tryz.func147,Tryz.ntmps147
 go_upto_region 1 with fail
 generalize World.alloc (World.alloc w _) _=W at *
 have hM:(0:Int)≤M∧M≤63999:=by have:=HN.out;have:=HLL.out;omega
 have hwr:IntKind.i64.wrap (M+1 - 1)=M:=by rw [IntKind.wrap_i64];omega
 have l0:W.cell? ⟨gl,0,none⟩=some (.int .i64 (M+1)):=HCL.out.l.cell 0
 have lf:W.frozen? ⟨gl,0,none⟩=false:=HCL.out.l.free 0
 clear hgx hgy hcl100
 go_upto_region 2 with fail
 have HL2:Hid (Blk (W.setCell ⟨gl,0,none⟩ (.int .i64 M)) gl gl #[.int .i64 M] 3):=HCL.out.l.put 0 _
 have HS2:Hid (Blk (W.setCell ⟨gl,0,none⟩ (.int .i64 M)) gs gs #[.func (.func 147) #[] #[.pointer (some ⟨gl,0,none⟩),.pointer (some ⟨gs,0,none⟩)]] 119):=HCL.out.s.other (Ne.symm HCL.out.ne) 0 _
 have HX2:=Lib.hid (HBX.out.other (k:=gl) (by have:=HGL.out;omega) 0 (.int .i64 M))
 have HY2:=Lib.hid (HBY.out.other (k:=gl) (by have:=HGL.out;omega) 0 (.int .i64 M))
 have HO2:Hid (Oth gl w (W.setCell ⟨gl,0,none⟩ (.int .i64 M))):=(Oth.nx HN2.out).trans (Oth.set _ _ _ _)
 generalize World.setCell W _ _=W2 at *
 have HC2:Hid (Cl gl gs M W2):=⟨HL2.out,HS2.out,HCL.out.ne⟩
 clear l0 lf hwr HCL HBX HBY HN2
 have gx0:W2.cell? ⟨gx,0,none⟩=some (.int .i64 (xk:Int)):=HX2.out.cell 0
 have gx1:W2.cell? ⟨gx,1,none⟩=some (.int .i64 xi):=HX2.out.cell 1
 have gx2:W2.cell? ⟨gx,2,none⟩=some (.int .u64 (xd:Int)):=HX2.out.cell 2
 have gx3:W2.cell? ⟨gx,3,none⟩=some (.string ⟨xs.toArray⟩):=HX2.out.cell 3
 have gx4:W2.cell? ⟨gx,4,none⟩=some (.slice A1 cl.length a1):=HX2.out.cell 4
 have gy0:W2.cell? ⟨gy,0,none⟩=some (.int .i64 (yk:Int)):=HY2.out.cell 0
 have gy1:W2.cell? ⟨gy,1,none⟩=some (.int .i64 yi):=HY2.out.cell 1
 have gy2:W2.cell? ⟨gy,2,none⟩=some (.int .u64 (yd:Int)):=HY2.out.cell 2
 have gy3:W2.cell? ⟨gy,3,none⟩=some (.string ⟨ys.toArray⟩):=HY2.out.cell 3
 have gy4:W2.cell? ⟨gy,4,none⟩=some (.slice A2 dl.length a2):=HY2.out.cell 4
 have m0:W2.cell? ⟨gl,0,none⟩=some (.int .i64 M):=HC2.out.l.cell 0
 have s0:W2.cell? ⟨gs,0,none⟩=some (.func (.func 147) #[] #[.pointer (some ⟨gl,0,none⟩),.pointer (some ⟨gs,0,none⟩)]):=HC2.out.s.cell 0
 have b0:decide ((M:Int) ≥ 0)=true:=decide_eq_true hM.1
 clear HL2 HS2
 by_cases h0:xk=yk
 ·subst h0
  by_cases h1:xi=yi
  ·subst h1
   by_cases h2:xd=yd
   ·subst h2
    by_cases h3:xs=ys
    ·subst h3
     have hcall:=eqFunc_const n HIH.out W2 gl gs M (.slice A1 cl.length a1) (.slice A2 dl.length a2) cl dl HC2.out (by omega) (HLX.out.ot HO2.out) (HLY.out.ot HO2.out) (by have:=lc_len HLX.out;have:=HN.out;have:=HLL.out;omega) (by have:=HN.out;omega)
     obtain ⟨R2,hR2⟩:∃ R2,Hid (allEq (eqC n) cl dl=R2):=⟨_,Lib.hid rfl⟩
     rw [hR2.out] at hcall
     have HRF:Hid (R=R2):=by unfold Hid;rw [HRE.out,← hR2.out];simp
     have HCA:=Lib.hid hcall
     clear hcall
     go_wp2_with fail
     refine HCA.out.mono ?_;rintro e w3 ⟨rfl,ho3,L3,hc3,h3,h4⟩
     have HO3:=Lib.hid (HO2.out.trans ho3)
     have HC3:=Lib.hid hc3
     have HB3:Hid (M+1 - ((1+(cl.map (nodC n)).sum:Nat):Int)≤L3∧L3≤M+1):=⟨by omega,by omega⟩
     clear ho3 hc3 h3 h4
     go_wp2_with fail
     go_ret
     rw [HRF.out]
     exact ⟨rfl,HO3.out,L3,HC3.out,HB3.out.1,HB3.out.2⟩
    ·have HRF:Hid (R=false):=by unfold Hid;rw [HRE.out];simp [h3]
     obtain ⟨S,hS⟩:∃ S:ByteArray,(⟨xs.toArray⟩:ByteArray)=S:=⟨_,rfl⟩
     obtain ⟨T,hT⟩:∃ T:ByteArray,(⟨ys.toArray⟩:ByteArray)=T:=⟨_,rfl⟩
     have hst:S.toList≠T.toList:=by rw [← hS,← hT,(Tx.of xs).toL,(Tx.of ys).toL];exact h3
     have hst1:¬ S.toList=T.toList:=hst
     have hst2:(S.toList == T.toList)=false:=by rw [beq_eq_false_iff_ne];exact hst
     have hst3:¬ S=T:=fun e=>hst (by rw [e])
     rw [hS] at gx3
     rw [hT] at gy3
     clear h3 hst hS hT
     go_wp2_with fail
     go_ret
     rw [HRF.out]
     exact ⟨rfl,HO2.out,M,HC2.out,by omega,by omega⟩
   ·have HRF:Hid (R=false):=by unfold Hid;rw [HRE.out];simp [h2]
    have t2:((xd:Int) == (yd:Int))=false:=by rw [beq_eq_false_iff_ne];omega
    have t2':¬ (xd:Int)=(yd:Int):=by omega
    clear h2
    go_wp2_with fail
    go_ret
    rw [HRF.out]
    exact ⟨rfl,HO2.out,M,HC2.out,by omega,by omega⟩
  ·have HRF:Hid (R=false):=by unfold Hid;rw [HRE.out];simp [h1]
   have t1:((xi:Int) == (yi:Int))=false:=by rw [beq_eq_false_iff_ne];omega
   have t1':¬ (xi:Int)=(yi:Int):=by omega
   clear h1
   go_wp2_with fail
   go_ret
   rw [HRF.out]
   exact ⟨rfl,HO2.out,M,HC2.out,by omega,by omega⟩
 ·have HRF:Hid (R=false):=by unfold Hid;rw [HRE.out];simp [h0]
  have t0:((xk:Int) == (yk:Int))=false:=by rw [beq_eq_false_iff_ne];omega
  have t0':¬ (xk:Int)=(yk:Int):=by omega
  clear h0
  go_wp2_with fail
  go_ret
  rw [HRF.out]
  exact ⟨rfl,HO2.out,M,HC2.out,by omega,by omega⟩
theorem sameConst1_any:∀ n,SaC n
 | 0=>fun _ _ _ _ _ _ _ _ _ _ h=>absurd h (fun h=>h)
 | n+1=>sameConst_step n (sameConst1_any n)
end Go.Proofs.YtjggghfekakogaaGreatDoor
