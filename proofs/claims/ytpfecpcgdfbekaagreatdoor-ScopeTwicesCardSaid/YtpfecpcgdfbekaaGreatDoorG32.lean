/- The contracts of scope's def, find. The contract of scope's find. The contract of the law's From. -/
import Derived.Test.YtpfecpcgdfbekaaGreatDoorG31
import Derived.Test.YtpfecpcgdfbekaaGreatDoorShelf
import Derived.Test.YtpfecpcgdfbekaaGreatDoorG20
import Derived.Test.YtpfecpcgdfbekaaGreatDoorG26
import Derived.Deep.DeepCutAuto
set_option linter.unusedVariables false
set_option linter.unusedSimpArgs false
set_option linter.unnecessarySimpa false
namespace Go.Proofs.YtpfecpcgdfbekaaGreatDoor
open Go.RowKit
def PlOk (files:List Fil) (i:Int) (j:Nat) (d:Dfn):Prop:=∃ (k:Nat) (hk:k<files.length),i=(k:Int)∧∃ hj:j<files[k].defs.length,files[k].defs[j]=d
section
variable {w:World} {nA fA:Option Addr} {n nc fc gm:Nat} {names:List (List UInt8)} {files:List Fil}
set_option maxRecDepth 100000 in
set_option maxHeartbeats 3200000 in
theorem sdef_any (h:Scp w nA fA n nc fc gm names files) (own:List UInt8) (i:Int) (j:Nat) (d:Dfn) (hp:PlOk files i j d) :
  Calls Tryz.prog 28 #[.agg #[.slice nA n nc,.slice fA n fc,.string ⟨own.toArray⟩,.map (some gm)],.agg #[.int .i64 i,.int .i64 (j:Int)]] w fun e w'=>∃ x,e = .returned (.agg (dfnA x))∧RD w (Fm 0) x d∧Nx w w':=by
 obtain ⟨hn100,-,hfl⟩:=h.ld.parts
 obtain ⟨k,hk,rfl,hj,hd⟩:=hp
 obtain ⟨F,hF⟩:∃ F,files[k]=F:=⟨_,rfl⟩
 obtain ⟨g,iA,ic,sA,sn,sc,dA,dc,hfA,hg,e0,e1,e2,-,hdf⟩:=h.ld.file k hk F hF
 subst hfA
 have hj':j<F.defs.length:=by rw [← hF];exact hj
 have hd':F.defs[j]=d:=by subst hF;exact hd
 obtain ⟨K,hK⟩:∃ K,F.defs.length=K:=⟨_,rfl⟩
 have hK9:K≤1000:=by rw [← hK];exact (hfl F (hF ▸ List.getElem_mem hk)).1
 obtain ⟨gd,x,hdA,hgd,hcd,hrd⟩:=def_at hdf j hj' d hd'
 subst hdA
 rw [hK] at e2
 have HRD:=Lib.hid hrd
 obtain ⟨dk,dn,dt,⟨xk,xn,xd,s,xl⟩,xf,xm,de,xt⟩:=x
 obtain ⟨⟨zA,zu,zc,hxl⟩,⟨fA2,fu,fc2,hxf⟩,⟨mA,mu,mc,hxm⟩,⟨tA,tu,tc,hxt⟩⟩:=rd_sl hrd
 dsimp only at hxl hxf hxm hxt
 subst hxl hxf hxm hxt
 obtain ⟨gx,hgx⟩:∃ g,w.heap.size=g:=⟨_,rfl⟩
 obtain ⟨gp,hgp⟩:∃ g,gx+1=g:=⟨_,rfl⟩
 obtain ⟨gr,hgr⟩:∃ g,gp+1=g:=⟨_,rfl⟩
 obtain ⟨w1,hw⟩:∃ w1,((w.alloc (.cells #[.slice nA n nc,.slice (some ⟨g,0,none⟩) n fc,.string ⟨own.toArray⟩,.map (some gm)] 88)).alloc (.cells #[.int .i64 (k:Int),.int .i64 (j:Int)] 91)).alloc (.cells #[.int .i64 0,.string ⟨#[]⟩,.string ⟨#[]⟩,.int .i64 0,.int .i64 0,.int .u64 0,.string ⟨#[]⟩,.slice none 0 0,.slice none 0 0,.slice none 0 0,.string ⟨#[]⟩,.slice none 0 0] 56)=w1:=⟨_,rfl⟩
 have HBX:Hid (Blk w1 gx gx #[.slice nA n nc,.slice (some ⟨g,0,none⟩) n fc,.string ⟨own.toArray⟩,.map (some gm)] 88):=by
  unfold Hid;rw [← hw,← hgx];exact ((Blk.new w _ _).alloc _).alloc _
 have HBP:Hid (Blk w1 gx gp #[.int .i64 (k:Int),.int .i64 (j:Int)] 91):=by
  unfold Hid;rw [← hw,← hgp,← hgx,show w.heap.size+1=(w.alloc (.cells #[.slice nA n nc,.slice (some ⟨g,0,none⟩) n fc,.string ⟨own.toArray⟩,.map (some gm)] 88)).heap.size from by simp]
  exact ((Blk.new (w.alloc (.cells #[.slice nA n nc,.slice (some ⟨g,0,none⟩) n fc,.string ⟨own.toArray⟩,.map (some gm)] 88)) _ _).alloc _).less (by simp)
 have HBR:Hid (Blk w1 gx gr #[.int .i64 0,.string ⟨#[]⟩,.string ⟨#[]⟩,.int .i64 0,.int .i64 0,.int .u64 0,.string ⟨#[]⟩,.slice none 0 0,.slice none 0 0,.slice none 0 0,.string ⟨#[]⟩,.slice none 0 0] 56):=by
  have e:gr=((w.alloc (.cells #[.slice nA n nc,.slice (some ⟨g,0,none⟩) n fc,.string ⟨own.toArray⟩,.map (some gm)] 88)).alloc (.cells #[.int .i64 (k:Int),.int .i64 (j:Int)] 91)).heap.size:=by simp;omega
  unfold Hid;rw [← hw,e]
  exact (Blk.new _ _ _).less (by simp;omega)
 have HN1:Hid (Nx w w1):=by unfold Hid;rw [← hw];exact Nx.al (Nx.al (nx0 w _) _) _
 have hgw:Hid (w.heap.size≤gr):=by unfold Hid;omega
 have hne1:gx≠gr:=by omega
 have hne2:gp≠gr:=by omega
 have hne3:g≠gr:=by omega
 have hne4:gd≠gr:=by omega
 have hkn:k<n:=by rw [← h.ld.lf];exact hk
 have q1:(k:Int)<(n:Int):=by omega
 have q2:(0:Int)≤(k:Int):=by omega
 have q3:j<K:=by omega
 have q4:(j:Int)<(K:Int):=by omega
 have q5:(0:Int)≤(j:Int):=by omega
 have q6:(k:Int)≤100:=by omega
 have q7:(j:Int)≤1000:=by omega
 have c2:w1.cell? ⟨g,k * 3+2,none⟩=some (.slice (some ⟨gd,0,none⟩) K dc):=(HN1.out.cell (p:=⟨g,k * 3+2,none⟩) hg).trans e2
 have d0:w1.cell? ⟨gd,j * 12,none⟩=some (.int .i64 (dk:Int)):=(HN1.out.cell (p:=⟨gd,j * 12+0,none⟩) hgd).trans (hcd 0 (by decide))
 have d1:w1.cell? ⟨gd,j * 12+1,none⟩=some (.string ⟨dn.toArray⟩):=(HN1.out.cell (p:=⟨gd,j * 12+1,none⟩) hgd).trans (hcd 1 (by decide))
 have d2:w1.cell? ⟨gd,j * 12+2,none⟩=some (.string ⟨dt.toArray⟩):=(HN1.out.cell (p:=⟨gd,j * 12+2,none⟩) hgd).trans (hcd 2 (by decide))
 have d3:w1.cell? ⟨gd,j * 12+3,none⟩=some (.int .i64 (xk:Int)):=(HN1.out.cell (p:=⟨gd,j * 12+3,none⟩) hgd).trans (hcd 3 (by decide))
 have d4:w1.cell? ⟨gd,j * 12+4,none⟩=some (.int .i64 xn):=(HN1.out.cell (p:=⟨gd,j * 12+4,none⟩) hgd).trans (hcd 4 (by decide))
 have d5:w1.cell? ⟨gd,j * 12+5,none⟩=some (.int .u64 (xd:Int)):=(HN1.out.cell (p:=⟨gd,j * 12+5,none⟩) hgd).trans (hcd 5 (by decide))
 have d6:w1.cell? ⟨gd,j * 12+6,none⟩=some (.string ⟨s.toArray⟩):=(HN1.out.cell (p:=⟨gd,j * 12+6,none⟩) hgd).trans (hcd 6 (by decide))
 have d7:w1.cell? ⟨gd,j * 12+7,none⟩=some (.slice zA zu zc):=(HN1.out.cell (p:=⟨gd,j * 12+7,none⟩) hgd).trans (hcd 7 (by decide))
 have d8:w1.cell? ⟨gd,j * 12+8,none⟩=some (.slice fA2 fu fc2):=(HN1.out.cell (p:=⟨gd,j * 12+8,none⟩) hgd).trans (hcd 8 (by decide))
 have d9:w1.cell? ⟨gd,j * 12+9,none⟩=some (.slice mA mu mc):=(HN1.out.cell (p:=⟨gd,j * 12+9,none⟩) hgd).trans (hcd 9 (by decide))
 have d10:w1.cell? ⟨gd,j * 12+10,none⟩=some (.string ⟨de.toArray⟩):=(HN1.out.cell (p:=⟨gd,j * 12+10,none⟩) hgd).trans (hcd 10 (by decide))
 have d11:w1.cell? ⟨gd,j * 12+11,none⟩=some (.slice tA tu tc):=(HN1.out.cell (p:=⟨gd,j * 12+11,none⟩) hgd).trans (hcd 11 (by decide))
 show Calls _ _ #[.agg #[.slice nA n nc,.slice (some ⟨g,0,none⟩) n fc,.string ⟨own.toArray⟩,.map (some gm)],.agg #[.int .i64 (k:Int),.int .i64 (j:Int)]] _ _
 clear hcd hrd hj hd hj' hd' hdf e0 e1 e2 hF hK hk hfl h hn100 hK9 hg hgd
 go_enter Tryz.func28,Tryz.ntmps28
 go_upto_region 1 with (fail)
 try rw [hw]
 clear hw hgx hgp hgr
 have x1:w1.cell? ⟨gx,1,none⟩=some (.slice (some ⟨g,0,none⟩) n fc):=HBX.out.cell 1
 have p0:w1.cell? ⟨gp,0,none⟩=some (.int .i64 (k:Int)):=HBP.out.cell 0
 have p1:w1.cell? ⟨gp,1,none⟩=some (.int .i64 (j:Int)):=HBP.out.cell 1
 have y0:w1.cell? ⟨gr,0,none⟩=some (.int .i64 0):=HBR.out.cell 0
 have y1:w1.cell? ⟨gr,1,none⟩=some (.string ⟨#[]⟩):=HBR.out.cell 1
 have y2:w1.cell? ⟨gr,2,none⟩=some (.string ⟨#[]⟩):=HBR.out.cell 2
 have y3:w1.cell? ⟨gr,3,none⟩=some (.int .i64 0):=HBR.out.cell 3
 have y4:w1.cell? ⟨gr,4,none⟩=some (.int .i64 0):=HBR.out.cell 4
 have y5:w1.cell? ⟨gr,5,none⟩=some (.int .u64 0):=HBR.out.cell 5
 have y6:w1.cell? ⟨gr,6,none⟩=some (.string ⟨#[]⟩):=HBR.out.cell 6
 have y7:w1.cell? ⟨gr,7,none⟩=some (.slice none 0 0):=HBR.out.cell 7
 have y8:w1.cell? ⟨gr,8,none⟩=some (.slice none 0 0):=HBR.out.cell 8
 have y9:w1.cell? ⟨gr,9,none⟩=some (.slice none 0 0):=HBR.out.cell 9
 have y10:w1.cell? ⟨gr,10,none⟩=some (.string ⟨#[]⟩):=HBR.out.cell 10
 have y11:w1.cell? ⟨gr,11,none⟩=some (.slice none 0 0):=HBR.out.cell 11
 have r0:=HBR.out.free 0
 have r1:=HBR.out.free 1
 have r2:=HBR.out.free 2
 have r3:=HBR.out.free 3
 have r4:=HBR.out.free 4
 have r5:=HBR.out.free 5
 have r6:=HBR.out.free 6
 have r7:=HBR.out.free 7
 have r8:=HBR.out.free 8
 have r9:=HBR.out.free 9
 have r10:=HBR.out.free 10
 have r11:=HBR.out.free 11
 go_region
 all_goals
  go_wp2_with fail
  refine bodyPost_ret (results_cell_row rfl _ _ gr _ _ _ _ rfl ((HBR.out.putAll [.int .i64 (dk:Int),.string ⟨dn.toArray⟩,.string ⟨dt.toArray⟩,.int .i64 (xk:Int),.int .i64 xn,.int .u64 (xd:Int),.string ⟨s.toArray⟩,.slice zA zu zc,.slice fA2 fu fc2,.slice mA mu mc,.string ⟨de.toArray⟩,.slice tA tu tc] rfl).below (Nx.drawn _)).2 Tryz.underlying56 rfl (by kernel_rfl)) rfl ?_
  exact ⟨⟨dk,dn,dt,⟨xk,xn,xd,s,.slice zA zu zc⟩,.slice fA2 fu fc2,.slice mA mu mc,de,.slice tA tu tc⟩,rfl,HRD.out,(HN1.out.puts hgw.out [.int .i64 (dk:Int),.string ⟨dn.toArray⟩,.string ⟨dt.toArray⟩,.int .i64 (xk:Int),.int .i64 xn,.int .u64 (xd:Int),.string ⟨s.toArray⟩,.slice zA zu zc,.slice fA2 fu fc2,.slice mA mu mc,.string ⟨de.toArray⟩,.slice tA tu tc] 0).trans (Nx.drawn _)⟩
end
end Go.Proofs.YtpfecpcgdfbekaaGreatDoor
namespace Go.Proofs.YtpfecpcgdfbekaaGreatDoor
open Go.RowKit
def sp3 (l:List UInt8):List (List UInt8):=Lib.splitN l [46] 3
theorem splitn_any (w:World) (s:ByteArray) (l:List UInt8) (hl:Tx s l) (hs:(l.length:Int)≤8000) (hm:MaxC w) :
  Calls Tryz.prog 42 #[.string s,.string ⟨#[46]⟩,.int .i64 3] w fun e w'=>∃ g c,e = .returned (.slice (some ⟨g,0,none⟩) (sp3 l).length c)∧RdS strA 1 w' (some ⟨g,0,none⟩) (sp3 l)∧(sp3 l).length≤c∧c≤3∧Nx w w':=by
 obtain ⟨m,hm⟩:=hm
 have hz:=hl.size
 have hc:=Tryz.strings_SplitN s ⟨#[46]⟩ 3 m w (by omega) hm (by decide) (by decide) (by decide)
 refine hc.mono ?_
 rintro e w' ⟨rfl,rfl⟩
 obtain ⟨BL,hBL⟩:∃ BL,Lib.splitB ⟨#[46]⟩ 0 (min 3 (s.size+1) - 1) s=BL:=⟨_,rfl⟩
 have hd:BL.map (·.data.toList)=sp3 l:=by
  rw [← hBL,Lib.splitB_data,hz]
  have e1:s.data.toList=l:=hl
  rw [e1];rfl
 have hlen:BL.length=(sp3 l).length:=by rw [← hd,List.length_map]
 have hle:∀ (k:Nat) (t:ByteArray),(Lib.splitB ⟨#[46]⟩ 0 k t).length≤k+1:=fun k=>by
  induction k with
  | zero=>intro t;exact Nat.le_refl _
  | succ k ih =>
   intro t
   unfold Lib.splitB
   split
   ·simp
   ·rw [List.length_cons];exact Nat.succ_le_succ (ih _)
 have hl3:BL.length≤min 3 (s.size+1):=by rw [← hBL];have:=hle (min 3 (s.size+1) - 1) s;omega
 rw [hBL]
 refine ⟨w.heap.size,min 3 (s.size+1),by rw [hlen],?_,by rw [← hlen];exact hl3,Nat.min_le_left _ _,nx0 _ _⟩
 intro _
 refine ⟨_,rfl,by simp,fun i hi j hj=>?_⟩
 obtain rfl:j=0:=by omega
 have hi2:i<BL.length:=by rw [hlen];exact hi
 rw [show i * 1+0=i by omega,World.cell?_alloc_at _ _ _ _ rfl]
 have h2:(sp3 l)[i]=BL[i].data.toList:=by
  have:(BL.map (·.data.toList))[i]'(by rw [List.length_map];exact hi2)=(sp3 l)[i]:=by congr 1
  rw [← this];simp
 rw [h2]
 have h3:BL[i]=⟨BL[i].data.toList.toArray⟩:=by simp
 unfold Lib.cellsOf strA bt
 rw [← h3]
 have h4:i<(List.map Value.string BL).length:=by rw [List.length_map];exact hi2
 simp [List.getElem?_append_left h4,hi2]
def findP (names:List (List UInt8)) (files:List Fil) (own ref:List UInt8):Pl :=
 if (idxN (sp3 ref) []).isSome then none else match sp3 ref with
  | [a]=>lookP names (fstM files) own a
  | [a,b]=>if seesP names files own a then lookP names (fstM files) a b else none
  | _=>none
theorem findP_nil {names:List (List UInt8)} {files:List Fil} {own ref:List UInt8} (h:(idxN (sp3 ref) []).isSome=true):findP names files own ref=none:=if_pos h
theorem findP_one {names:List (List UInt8)} {files:List Fil} {own ref a:List UInt8} (h:(idxN (sp3 ref) []).isSome=false) (e:sp3 ref=[a]):findP names files own ref=lookP names (fstM files) own a:=by
 unfold findP;rw [if_neg (by rw [h];decide),e]
theorem findP_two {names:List (List UInt8)} {files:List Fil} {own ref a b:List UInt8} (h:(idxN (sp3 ref) []).isSome=false) (e:sp3 ref=[a,b]):findP names files own ref=if seesP names files own a then lookP names (fstM files) a b else none:=by
 unfold findP;rw [if_neg (by rw [h];decide),e]
theorem findP_more {names:List (List UInt8)} {files:List Fil} {own ref:List UInt8} (h1:(sp3 ref).length≠1) (h2:(sp3 ref).length≠2):findP names files own ref=none:=by
 unfold findP
 split
 ·rfl
 ·split
  ·rename_i e;rw [e] at h1;exact absurd rfl h1
  ·rename_i e;rw [e] at h2;exact absurd rfl h2
  ·rfl
theorem sp3_len {ref:List UInt8}:∀ p ∈ sp3 ref,p.length≤ref.length:=by
 have:∀ (k:Nat) (l:List UInt8),∀ p ∈ Lib.splitK [46] 0 k l,p.length≤l.length:=fun k=>by
  induction k with
  | zero=>intro l p hp;unfold Lib.splitK at hp;rw [List.mem_singleton.1 hp];exact Nat.le_refl _
  | succ k ih =>
   intro l p hp
   unfold Lib.splitK at hp
   split at hp
   ·rw [List.mem_singleton.1 hp];exact Nat.le_refl _
   ·rcases List.mem_cons.1 hp with rfl | hp
    ·simp;omega
    ·have:=ih _ p hp
     simp at this;omega
 exact this _ _
section
variable {w:World} {nA fA:Option Addr} {n nc fc gm:Nat} {names:List (List UInt8)} {files:List Fil}
set_option maxRecDepth 100000 in
set_option maxHeartbeats 3200000 in
theorem find_any (h:Scp w nA fA n nc fc gm names files) (own ref:List UInt8) (hr:ref.length≤8000) (hm:MaxC w) :
  Calls Tryz.prog 26 #[.agg #[.slice nA n nc,.slice fA n fc,.string ⟨own.toArray⟩,.map (some gm)],.string ⟨ref.toArray⟩] w fun e w'=>e = .returned (.tuple #[plV (findP names files own ref),.bool (findP names files own ref).isSome])∧Nx w w':=by
 have HS:=Lib.hid h
 have HRL:=Lib.hid hr
 obtain ⟨R,hR⟩:∃ R,Hid (findP names files own ref=R):=⟨_,rfl⟩
 rw [hR.out]
 obtain ⟨gx,hgx⟩:∃ g,w.heap.size=g:=⟨_,rfl⟩
 obtain ⟨gr,hgr⟩:∃ g,gx+1=g:=⟨_,rfl⟩
 obtain ⟨w1,hw⟩:∃ w1,(w.alloc (.cells #[.slice nA n nc,.slice fA n fc,.string ⟨own.toArray⟩,.map (some gm)] 88)).alloc (.cells #[.int .i64 0,.int .i64 0] 91)=w1:=⟨_,rfl⟩
 have HBX:Hid (Blk w1 gx gx #[.slice nA n nc,.slice fA n fc,.string ⟨own.toArray⟩,.map (some gm)] 88):=by
  unfold Hid;rw [← hw,← hgx];exact (Blk.new w _ _).alloc _
 have HBR:Hid (Blk w1 gx gr #[.int .i64 0,.int .i64 0] 91):=by
  unfold Hid;rw [← hw,← hgr,← hgx,show w.heap.size+1=(w.alloc (.cells #[.slice nA n nc,.slice fA n fc,.string ⟨own.toArray⟩,.map (some gm)] 88)).heap.size from by simp]
  exact (Blk.new (w.alloc (.cells #[.slice nA n nc,.slice fA n fc,.string ⟨own.toArray⟩,.map (some gm)] 88)) _ _).less (by simp)
 have HN1:Hid (Nx w w1):=by unfold Hid;rw [← hw];exact Nx.al (nx0 w _) _
 have hgw:Hid (w.heap.size≤gr):=by unfold Hid;omega
 have HSP:=Lib.hid (splitn_any w1 ⟨ref.toArray⟩ ref (Tx.of _) (by omega) (hm.nx HN1.out))
 clear h hm hr
 go_enter Tryz.func26,Tryz.ntmps26
 go_upto_region 1 with (fail)
 try rw [hw]
 clear hw hgx hgr
 go_wp2_with fail
 refine HSP.out.mono ?_;rintro e w2 ⟨gp,cp,rfl,hrd,hlc,hc3,hn2⟩
 obtain ⟨ps,hps⟩:∃ ps,sp3 ref=ps:=⟨_,rfl⟩
 have HPL:Hid (∀ p ∈ ps,p.length≤8000):=by
  intro p hp
  rw [← hps] at hp
  exact Nat.le_trans (sp3_len p hp) HRL.out
 rw [hps] at hrd hlc ⊢
 obtain ⟨N,hN⟩:∃ N,ps.length=N:=⟨_,rfl⟩
 rw [hN] at hlc ⊢
 have HRD:=Lib.hid hrd
 have HN2:=Lib.hid (HN1.out.trans hn2)
 have HS2:=Lib.hid (HS.out.nx HN2.out)
 have HBX2:=Lib.hid (HBX.out.below hn2)
 have HBR2:=Lib.hid (HBR.out.below hn2)
 have hN3:(N:Int)≤3:=by omega
 obtain ⟨E,hE⟩:∃ E,(idxN ps []).isSome=E:=⟨_,rfl⟩
 have hcc:=scont_any w2 (some ⟨gp,0,none⟩) N cp ps hN hrd (by omega) ⟨#[]⟩ [] (Tx.of [])
 rw [hE] at hcc
 have HCC:=Lib.hid hcc
 have HNL:=Lib.hid hN
 have HPS:=Lib.hid hps
 have HE:Hid ((idxN (sp3 ref) []).isSome=E):=by unfold Hid;rw [hps];exact hE
 clear hcc hrd hn2 hps hE HSP hlc hc3 hN
 go_wp2_with fail
 refine HCC.out.mono ?_;rintro e w3 ⟨rfl,hw3⟩;obtain rfl:=hw3.symm
 have y0:w2.cell? ⟨gr,0,none⟩=some (.int .i64 0):=HBR2.out.cell 0
 have y1:w2.cell? ⟨gr,1,none⟩=some (.int .i64 0):=HBR2.out.cell 1
 have r0:=HBR2.out.free 0
 have r1:=HBR2.out.free 1
 cases E
 ·by_cases h1:N=1
  ·
   subst h1
   obtain ⟨a,ha⟩:∃ a,ps=[a]:=by
    have:=HNL.out
    match ps,this with
    | [a],_=>exact ⟨a,rfl⟩
   subst ha
   have HX:Hid (R=lookP names (fstM files) own a):=by unfold Hid;rw [← hR.out,findP_one HE.out HPS.out]
   obtain ⟨g',e',hg',hc'⟩:=HRD.out (by simp)
   obtain rfl:gp=g':=by cases e';rfl
   clear e'
   have hpa:w2.cell? ⟨gp,0,none⟩=some (.string ⟨a.toArray⟩):=hc' 0 (by simp) 0 (by decide)
   have hgp:gp<w2.heap.size:=hg'
   have HAL:Hid (a.length≤8000):=HPL.out a (by simp)
   obtain ⟨G,hG⟩:∃ G,lookP names (fstM files) own a=G:=⟨_,rfl⟩
   rw [hG] at HX
   have HG:=Lib.hid hG
   obtain ⟨⟨gi,gj⟩,hgv⟩:∃ p,G.getD (0,0)=p:=⟨_,rfl⟩
   have HGV:Hid (plV G = .agg #[.int .i64 gi,.int .i64 (gj:Int)]):=by unfold Hid plV;rw [hgv]
   clear hc' hG hgv y0 y1 r0 r1
   go_upto_region 5 with (fail)
   have L0:∀ x:Gr w2,x.1.cell? ⟨gx,0,none⟩=some (.slice nA n nc):=fun x=>(HBX2.out.below x.2).cell 0
   have L1:∀ x:Gr w2,x.1.cell? ⟨gx,1,none⟩=some (.slice fA n fc):=fun x=>(HBX2.out.below x.2).cell 1
   have L2:∀ x:Gr w2,x.1.cell? ⟨gx,2,none⟩=some (.string ⟨own.toArray⟩):=fun x=>(HBX2.out.below x.2).cell 2
   have L3:∀ x:Gr w2,x.1.cell? ⟨gx,3,none⟩=some (.map (some gm)):=fun x=>(HBX2.out.below x.2).cell 3
   have L4:∀ x:Gr w2,x.1.cell? ⟨gp,0,none⟩=some (.string ⟨a.toArray⟩):=fun x=>(x.2.cell (p:=⟨gp,0,none⟩) hgp).trans hpa
   refine EH.wp_region_hyb [9] [(0,1),(1,1),(2,1),(3,1),(4,1),(5,1),(6,0),(7,2),(8,2),(9,0),(10,2)] rfl (by kernel_rfl) ?_
   iterate 6 (refine EH.hyb_calm rfl (fun K hK=>?_);go_simp;refine hK _ ?_;clear hK K)
   clear L0 L1 L2 L3 L4 hpa
   refine EH.hyb_alone rfl (fun w4 hn4 K hK=>?_)
   go_simp
   refine (lookUp_any (HS2.out.nx hn4) own own a HAL.out).mono ?_;rw [HG.out,HGV.out];rintro e w5 ⟨rfl,hn5⟩
   refine hK _ _ (.inr hn5) ?_
   clear hK K
   iterate 2 (refine EH.hyb_pure rfl (fun K hK=>?_);go_simp;refine hK _ ?_;clear hK K)
   refine EH.hyb_alone rfl (fun w6 hn6 K hK=>?_)
   have HN6:=Lib.hid (hn4.trans (hn5.trans hn6))
   have hb6:=HBR2.out.below HN6.out
   have y0:w6.cell? ⟨gr,0,none⟩=some (.int .i64 0):=hb6.cell 0
   have y1:w6.cell? ⟨gr,1,none⟩=some (.int .i64 0):=hb6.cell 1
   have r0:=hb6.free 0
   have r1:=hb6.free 1
   go_simp
   refine hK _ _ (.inl (by simp)) ?_
   clear hK K y0 y1 r0 r1
   have HB7:=Lib.hid ((hb6.put 0 (.int .i64 gi)).put 1 (.int .i64 (gj:Int)))
   have HN7:Hid (Nx w ((w6.setCell ⟨gr,0,none⟩ (.int .i64 gi)).setCell ⟨gr,1,none⟩ (.int .i64 (gj:Int)))):=((HN2.out.trans HN6.out).put' hgw.out 0 _).put' hgw.out 1 _
   generalize World.setCell (World.setCell _ _ _) _ _=w7 at *
   refine EH.hyb_pure rfl (fun K hK=>?_);go_simp;refine hK _ ?_;clear hK K
   refine EH.hyb_nil (fun w8 hn8=>?_)
   have HB8:=Lib.hid (HB7.out.below hn8)
   have HN8:=Lib.hid (HN7.out.trans hn8)
   go_wp2_with fail
   refine bodyPost_ret (results_cell_tmp_rowB rfl _ _ gr _ _ _ _ rfl HB8.out.2 Tryz.underlying91 rfl (by kernel_rfl)) rfl ?_
   rw [HX.out,HGV.out]
   exact ⟨rfl,HN8.out⟩
  ·by_cases h2:N=2
   ·
    subst h2
    obtain ⟨a,b,ha⟩:∃ a b,ps=[a,b]:=by
     have:=HNL.out
     match ps,this with
     | [a,b],_=>exact ⟨a,b,rfl⟩
    subst ha
    obtain ⟨g',e',hg',hc'⟩:=HRD.out (by simp)
    obtain rfl:gp=g':=by cases e';rfl
    clear e'
    have hpa:w2.cell? ⟨gp,0,none⟩=some (.string ⟨a.toArray⟩):=hc' 0 (by simp) 0 (by decide)
    have hpb:w2.cell? ⟨gp,1,none⟩=some (.string ⟨b.toArray⟩):=hc' 1 (by simp) 0 (by decide)
    have hgp:gp<w2.heap.size:=hg'
    have HBL:Hid (b.length≤8000):=HPL.out b (by simp)
    obtain ⟨G,hG⟩:∃ G,lookP names (fstM files) a b=G:=⟨_,rfl⟩
    obtain ⟨S,hS⟩:∃ S,seesP names files own a=S:=⟨_,rfl⟩
    have HX0:Hid (R=if S then G else none):=by unfold Hid;rw [← hR.out,findP_two HE.out HPS.out,hS,hG]
    have HG:=Lib.hid hG
    have HSE:=Lib.hid hS
    obtain ⟨⟨gi,gj⟩,hgv⟩:∃ p,G.getD (0,0)=p:=⟨_,rfl⟩
    have HGV:Hid (plV G = .agg #[.int .i64 gi,.int .i64 (gj:Int)]):=by unfold Hid plV;rw [hgv]
    have HPA:=Lib.hid hpa
    have HPB:=Lib.hid hpb
    have HGP:=Lib.hid hgp
    clear hc' hG hgv hS y0 y1 r0 r1 hpa hpb hgp
    go_upto_region 6 with (fail)
    have L0:∀ x:Gr w2,x.1.cell? ⟨gx,0,none⟩=some (.slice nA n nc):=fun x=>(HBX2.out.below x.2).cell 0
    have L1:∀ x:Gr w2,x.1.cell? ⟨gx,1,none⟩=some (.slice fA n fc):=fun x=>(HBX2.out.below x.2).cell 1
    have L2:∀ x:Gr w2,x.1.cell? ⟨gx,2,none⟩=some (.string ⟨own.toArray⟩):=fun x=>(HBX2.out.below x.2).cell 2
    have L3:∀ x:Gr w2,x.1.cell? ⟨gx,3,none⟩=some (.map (some gm)):=fun x=>(HBX2.out.below x.2).cell 3
    have L4:∀ x:Gr w2,x.1.cell? ⟨gp,0,none⟩=some (.string ⟨a.toArray⟩):=fun x=>(x.2.cell (p:=⟨gp,0,none⟩) HGP.out).trans HPA.out
    refine EH.wp_region_hyb [] [(0,1),(1,1),(2,1),(3,1),(4,1),(5,1),(6,1),(7,1),(8,0),(9,2),(10,2)] rfl (by kernel_rfl) ?_
    iterate 8 (refine EH.hyb_calm rfl (fun K hK=>?_);go_simp;refine hK _ ?_;clear hK K)
    clear L0 L1 L2 L3 L4
    refine EH.hyb_alone rfl (fun w4 hn4 K hK=>?_)
    go_simp
    refine (sees_any (HS2.out.nx hn4) own a).mono ?_;rw [HSE.out];rintro e w5 ⟨rfl,hn5⟩
    refine hK _ _ (.inr hn5) ?_
    clear hK K
    iterate 2 (refine EH.hyb_pure rfl (fun K hK=>?_);go_simp;refine hK _ ?_;clear hK K)
    refine EH.hyb_nil (fun w6 hn6=>?_)
    have hn26:Nx w2 w6:=hn4.trans (hn5.trans hn6)
    have HN26:=Lib.hid hn26
    have hb6:=HBR2.out.below hn26
    have HB6:=Lib.hid hb6
    have HX6:=Lib.hid (HBX2.out.below hn26)
    have HS6:=Lib.hid (HS2.out.nx hn26)
    have y0:w6.cell? ⟨gr,0,none⟩=some (.int .i64 0):=hb6.cell 0
    have y1:w6.cell? ⟨gr,1,none⟩=some (.int .i64 0):=hb6.cell 1
    have r0:=hb6.free 0
    have r1:=hb6.free 1
    clear hb6 hn4 hn5 hn6
    cases S
    ·have HX:Hid (R=none):=by unfold Hid;rw [HX0.out];rfl
     go_wp2_with fail
     refine bodyPost_ret (results_cell_tmp_rowB rfl _ _ gr _ _ _ _ rfl ((HB6.out.put 0 (.int .i64 0)).put 1 (.int .i64 0)).2 Tryz.underlying91 rfl (by kernel_rfl)) rfl ?_
     rw [HX.out]
     exact ⟨rfl,((HN2.out.trans HN26.out).put' hgw.out 0 _).put' hgw.out 1 _⟩
    ·have HX:Hid (R=G):=by unfold Hid;rw [HX0.out];rfl
     clear y0 y1 r0 r1
     go_upto_region 7 with (fail)
     have L0:∀ x:Gr w6,x.1.cell? ⟨gx,0,none⟩=some (.slice nA n nc):=fun x=>(HX6.out.below x.2).cell 0
     have L1:∀ x:Gr w6,x.1.cell? ⟨gx,1,none⟩=some (.slice fA n fc):=fun x=>(HX6.out.below x.2).cell 1
     have L2:∀ x:Gr w6,x.1.cell? ⟨gx,2,none⟩=some (.string ⟨own.toArray⟩):=fun x=>(HX6.out.below x.2).cell 2
     have L3:∀ x:Gr w6,x.1.cell? ⟨gx,3,none⟩=some (.map (some gm)):=fun x=>(HX6.out.below x.2).cell 3
     have L4:∀ x:Gr w6,x.1.cell? ⟨gp,0,none⟩=some (.string ⟨a.toArray⟩):=fun x=>((hn26.trans x.2).cell (p:=⟨gp,0,none⟩) HGP.out).trans HPA.out
     have L5:∀ x:Gr w6,x.1.cell? ⟨gp,1,none⟩=some (.string ⟨b.toArray⟩):=fun x=>((hn26.trans x.2).cell (p:=⟨gp,1,none⟩) HGP.out).trans HPB.out
     refine EH.wp_region_hyb [10] [(0,1),(1,1),(2,1),(3,1),(4,1),(5,1),(6,1),(7,0),(8,2),(9,2),(10,0),(11,2)] rfl (by kernel_rfl) ?_
     iterate 7 (refine EH.hyb_calm rfl (fun K hK=>?_);go_simp;refine hK _ ?_;clear hK K)
     clear L0 L1 L2 L3 L4 L5
     refine EH.hyb_alone rfl (fun w4 hn4 K hK=>?_)
     go_simp
     refine (lookUp_any (HS6.out.nx hn4) own a b HBL.out).mono ?_;rw [HG.out,HGV.out];rintro e w5 ⟨rfl,hn5⟩
     refine hK _ _ (.inr hn5) ?_
     clear hK K
     iterate 2 (refine EH.hyb_pure rfl (fun K hK=>?_);go_simp;refine hK _ ?_;clear hK K)
     refine EH.hyb_alone rfl (fun w6 hn6 K hK=>?_)
     have HN6:=Lib.hid (hn4.trans (hn5.trans hn6))
     have hb6:=HB6.out.below HN6.out
     have y0:w6.cell? ⟨gr,0,none⟩=some (.int .i64 0):=hb6.cell 0
     have y1:w6.cell? ⟨gr,1,none⟩=some (.int .i64 0):=hb6.cell 1
     have r0:=hb6.free 0
     have r1:=hb6.free 1
     go_simp
     refine hK _ _ (.inl (by simp)) ?_
     clear hK K y0 y1 r0 r1
     have HB7:=Lib.hid ((hb6.put 0 (.int .i64 gi)).put 1 (.int .i64 (gj:Int)))
     have HN7:Hid (Nx w ((w6.setCell ⟨gr,0,none⟩ (.int .i64 gi)).setCell ⟨gr,1,none⟩ (.int .i64 (gj:Int)))):=(((HN2.out.trans HN26.out).trans HN6.out).put' hgw.out 0 _).put' hgw.out 1 _
     generalize World.setCell (World.setCell _ _ _) _ _=w7 at *
     refine EH.hyb_pure rfl (fun K hK=>?_);go_simp;refine hK _ ?_;clear hK K
     refine EH.hyb_nil (fun w8 hn8=>?_)
     have HB8:=Lib.hid (HB7.out.below hn8)
     have HN8:=Lib.hid (HN7.out.trans hn8)
     go_wp2_with fail
     refine bodyPost_ret (results_cell_tmp_rowB rfl _ _ gr _ _ _ _ rfl HB8.out.2 Tryz.underlying91 rfl (by kernel_rfl)) rfl ?_
     rw [HX.out,HGV.out]
     exact ⟨rfl,HN8.out⟩
   ·
    have HX:Hid (R=none):=by unfold Hid;rw [← hR.out,findP_more (by rw [HPS.out,HNL.out];exact h1) (by rw [HPS.out,HNL.out];exact h2)]
    have b1:((N:Int) == 1)=false:=by rw [beq_eq_false_iff_ne];omega
    have b2:((N:Int) == 2)=false:=by rw [beq_eq_false_iff_ne];omega
    clear h1 h2
    go_wp2_with fail
    go_quiet (fail)
    go_wp2_with fail
    refine bodyPost_ret (results_cell_tmp_rowB rfl _ _ gr _ _ _ _ rfl (((HBR2.out.below (Nx.drewN _ _)).put 0 (.int .i64 0)).put 1 (.int .i64 0)).2 Tryz.underlying91 rfl (by kernel_rfl)) rfl ?_
    rw [HX.out]
    exact ⟨rfl,((HN2.out.trans (Nx.drewN _ _)).put' hgw.out 0 _).put' hgw.out 1 _⟩
 ·have HX:Hid (R=none):=by unfold Hid;rw [← hR.out,findP_nil HE.out]
  go_wp2_with fail
  refine bodyPost_ret (results_cell_tmp_rowB rfl _ _ gr _ _ _ _ rfl ((HBR2.out.put 0 (.int .i64 0)).put 1 (.int .i64 0)).2 Tryz.underlying91 rfl (by kernel_rfl)) rfl ?_
  rw [HX.out]
  exact ⟨rfl,(HN2.out.put' hgw.out 0 _).put' hgw.out 1 _⟩
end
end Go.Proofs.YtpfecpcgdfbekaaGreatDoor
namespace Go.Proofs.YtpfecpcgdfbekaaGreatDoor
open Go.RowKit
set_option maxRecDepth 100000 in
set_option maxHeartbeats 1600000 in
theorem from_any (w:World) (nA fA:Option Addr) (n nc m fc:Nat) :
  Calls Tryz.prog 10 #[.agg #[.slice nA n nc,.slice fA m fc]] w fun e w'=>e = .returned (.agg #[.slice nA n nc,.slice fA m fc])∧Nx w w':=by
 go_enter Tryz.func10,Tryz.ntmps10
 go_wp2_with fail
 have hb:=Blk.new (w.alloc (.cells #[.slice nA n nc,.slice fA m fc] 28)) #[.slice nA n nc,.slice fA m fc] 39
 rw [show (w.alloc (.cells #[.slice nA n nc,.slice fA m fc] 28)).heap.size=w.heap.size+1 by simp] at hb
 refine bodyPost_ret (results_cell_row rfl _ _ (w.heap.size+1) _ _ _ _ rfl hb.2 Tryz.underlying39 rfl (by kernel_rfl)) rfl ?_
 exact ⟨rfl,Nx.al (nx0 w _) _⟩
set_option maxRecDepth 100000 in
set_option maxHeartbeats 1600000 in
theorem even_any (w:World) (nA fA:Option Addr) (n nc fc:Nat) (h1:n≤nc) (h2:n≤fc) (h3:nc≤maxLen) (h4:fc≤maxLen) :
  Calls Tryz.prog 19 #[.agg #[.slice nA n nc,.slice fA n fc]] w fun e w'=>e = .returned (.agg #[.slice nA n nc,.slice fA n fc])∧Nx w w':=by
 have b1:(if (n:Int)<(n:Int) then (n:Int) else (n:Int))=(n:Int):=by split <;> rfl
 have b2:min (n:Int) (n:Int)=(n:Int):=by omega
 have hm:maxLen=140737488355328∨True:=.inr trivial
 have b3:(n:Int)≤(nc:Int):=by omega
 have b4:(n:Int)≤(fc:Int):=by omega
 have b5:(0:Int)≤(n:Int):=by omega
 have b6:IntKind.i64.wrap (n:Int)=(n:Int):=by
  have:maxLen≤9223372036854775807:=by unfold maxLen;omega
  rw [IntKind.wrap_i64];omega
 clear hm
 go_enter Tryz.func19,Tryz.ntmps19
 go_upto_region 2 with (fail)
 obtain ⟨gb,hgb⟩:∃ g,w.heap.size=g:=⟨_,rfl⟩
 obtain ⟨gr,hgr⟩:∃ g,gb+1=g:=⟨_,rfl⟩
 rw [hgb,hgr]
 obtain ⟨w1,hw1⟩:∃ w1,(w.alloc (.cells #[.slice nA n nc,.slice fA n fc] 39)).alloc (.cells #[.slice none 0 0,.slice none 0 0] 39)=w1:=⟨_,rfl⟩
 have HB1:Hid (Blk w1 gb gb #[.slice nA n nc,.slice fA n fc] 39):=by
  unfold Hid;rw [← hw1,← hgb];exact (Blk.new w _ _).alloc _
 have HBR:Hid (Blk w1 gb gr #[.slice none 0 0,.slice none 0 0] 39):=by
  unfold Hid;rw [← hw1,← hgr,← hgb,show w.heap.size+1=(w.alloc (.cells #[.slice nA n nc,.slice fA n fc] 39)).heap.size from by simp]
  exact (Blk.new (w.alloc (.cells #[.slice nA n nc,.slice fA n fc] 39)) _ _).less (by simp)
 have HN1:Hid (Nx w w1):=by unfold Hid;rw [← hw1];exact Nx.al (nx0 w _) _
 rw [hw1]
 have HNN:=Lib.hid hgb
 have hne:gb≠gr:=by omega
 have k0:w1.cell? ⟨gb,0,none⟩=some (.slice nA n nc):=HB1.out.cell 0
 have k1:w1.cell? ⟨gb,1,none⟩=some (.slice fA n fc):=HB1.out.cell 1
 have c0:w1.cell? ⟨gr,0,none⟩=some (.slice none 0 0):=HBR.out.cell 0
 have c1:w1.cell? ⟨gr,1,none⟩=some (.slice none 0 0):=HBR.out.cell 1
 have f0:=HBR.out.free 0
 have f1:=HBR.out.free 1
 clear hw1 hgb hgr h1 h2 h3 h4
 go_region
 all_goals
  go_wp2_with fail
  refine bodyPost_ret (results_cell_row rfl _ _ gr _ _ _ _ rfl (((HBR.out.drew _).put 0 (.slice nA n nc)).put 1 (.slice fA n fc)).2 Tryz.underlying39 rfl (by kernel_rfl)) rfl ?_
  have hgw:w.heap.size≤gr:=by have:=HNN.out;have:=HBR.out.1;omega
  exact ⟨rfl,Nx.put' (Nx.put' (HN1.out.trans (Nx.drewN _ _)) hgw 0 _) hgw 1 _⟩
end Go.Proofs.YtpfecpcgdfbekaaGreatDoor
