/- value's shape of a checker; an enum's newShape. value's has at simple types, fits over it. A region that draws its order, whose calls may write one old block: what is calm reads others. Plain. -/
import Derived.Test.YtnfelopknfdpfaaDoorG09
import Derived.Test.YtnfelopknfdpfaaDoorG07
import Derived.Test.YtnfelopknfdpfaaDoorG00
set_option linter.unusedVariables false
set_option linter.unusedSimpArgs false
set_option linter.unnecessarySimpa false
namespace Go.Proofs.YtnfelopknfdpfaaDoor
open Go.RowKit
theorem getG_mem {κ ν:Type} [DecidableEq κ]:∀ {m:List (κ×ν)} {k:κ} {v:ν},getG m k=some v→(k,v) ∈ m
 | [],_,_,h=>by cases h
 | x :: r,k,v,h=>by
  unfold getG at h
  split at h
  ·rename_i e
   injection h with h
   subst e h
   simp
  ·exact List.mem_cons_of_mem _ (getG_mem h)
theorem shape_of {W B gc gm:Nat} {n:Int} {m:List (List UInt8×Option Nat)} {w:World} {Q:Nat→World→Prop} (A0 A1 A2:Option Addr) (u0 u1 u2 c0 c1 c2:Nat) (hc:Chk W B gc gm (.slice A0 u0 c0) (.slice A1 u1 c1) (.slice A2 u2 c2) n m w) (t:List UInt8) (ht:t.length≤8000) (hg:getG m t=none)
  (hnew:Calls Tryd.prog 24 #[.agg #[.slice A0 u0 c0,.slice A1 u1 c1,.slice A2 u2 c2],.string ⟨t.toArray⟩] w fun e w'=>∃ g,e = .returned (.pointer (some ⟨g,0,none⟩))∧Q g w'∧Nx w w') :
  Calls Tryd.prog 14 #[.pointer (some ⟨gc,0,none⟩),.string ⟨t.toArray⟩] w fun e w'=>∃ g w2 o,e = .returned (.pointer (some ⟨g,0,none⟩))∧Q g w2∧Nx w w2∧w'=ChangeMaps.setBlock w2 gm o∧MpG tv ptO okT w' gm (putG m t (some g)):=by
 have HC:=Lib.hid hc
 have HNW:=Lib.hid hnew
 have HT:Hid (okT t):=ht
 have hlk:(Instr.lookup 71 (.map (some gm)) (.string ⟨t.toArray⟩) true).run Tryd.prog w = .ok (.tuple #[.pointer none,.bool false]) w:=by
  have h:=(mapT.look hc.mp t ht).2
  rw [hg] at h
  exact h
 have b0:w.cell? ⟨gc,0,none⟩=some (.slice A0 u0 c0):=hc.blk.cell 0
 have b1:w.cell? ⟨gc,1,none⟩=some (.slice A1 u1 c1):=hc.blk.cell 1
 have b2:w.cell? ⟨gc,2,none⟩=some (.slice A2 u2 c2):=hc.blk.cell 2
 have b3:w.cell? ⟨gc,3,none⟩=some (.map (some gm)):=hc.blk.cell 3
 clear hc hnew ht hg
 go_enter Tryd.func14,Tryd.ntmps14
 go_wp2_with fail
 refine HNW.out.mono ?_;rintro e w2 ⟨g,rfl,hq,hn2⟩
 have hc2:=HC.out.nx hn2
 have c3:w2.cell? ⟨gc,3,none⟩=some (.map (some gm)):=hc2.blk.cell 3
 obtain ⟨o,hpr,hpm⟩:=mapT.put hc2.mp t (some g) HT.out
 have HQ:=Lib.hid hq
 have HN2:=Lib.hid hn2
 have HPM:=Lib.hid hpm
 obtain ⟨w3,hw3⟩:∃ x,ChangeMaps.setBlock w2 gm o=x:=⟨_,rfl⟩
 rw [hw3] at hpr HPM
 replace hpr:(Instr.mapUpdate 71 (.map (some gm)) (.string ⟨t.toArray⟩) (.pointer (some ⟨g,0,none⟩))).run Tryd.prog w2 = .ok () w3:=hpr
 have HW3:=Lib.hid hw3
 clear hc2 hpm hq hn2 hw3 b0 b1 b2 b3 hlk
 go_wp2_with fail
 go_ret
 exact ⟨g,w2,o,rfl,HQ.out,HN2.out,HW3.out.symm,HPM.out⟩
theorem shape_there {W B gc gm:Nat} {s0 s1 s2:Value} {n:Int} {m:List (List UInt8×Option Nat)} {w:World} (hc:Chk W B gc gm s0 s1 s2 n m w) (t:List UInt8) (ht:t.length≤8000) (g:Nat) (hg:getG m t=some (some g)) :
  Calls Tryd.prog 14 #[.pointer (some ⟨gc,0,none⟩),.string ⟨t.toArray⟩] w fun e w'=>e = .returned (.pointer (some ⟨g,0,none⟩))∧w'=w:=by
 have hlk:(Instr.lookup 71 (.map (some gm)) (.string ⟨t.toArray⟩) true).run Tryd.prog w = .ok (.tuple #[.pointer (some ⟨g,0,none⟩),.bool true]) w:=by
  have h:=(mapT.look hc.mp t ht).2
  rw [hg] at h
  exact h
 have b3:w.cell? ⟨gc,3,none⟩=some (.map (some gm)):=hc.blk.cell 3
 clear hc ht hg
 go_enter Tryd.func14,Tryd.ntmps14
 go_wp2_with fail
 go_ret
 exact ⟨rfl,rfl⟩
theorem shapeB_any {W B gc gm:Nat} {s0 s1 s2:Value} {n:Int} {m:List (List UInt8×Option Nat)} {w:World} (h0:IsSlv s0) (h1:IsSlv s1) (h2:IsSlv s2) (hc:Chk W B gc gm s0 s1 s2 n m w) (ht:TabK w) (hm:MaxC w) (t:List UInt8) (k:Nat) (hk:baseT t=some k) :
  Calls Tryd.prog 14 #[.pointer (some ⟨gc,0,none⟩),.string ⟨t.toArray⟩] w fun e w'=>∃ g m',e = .returned (.pointer (some ⟨g,0,none⟩))∧Blk w' B g (shB k) 77∧Chk W B gc gm s0 s1 s2 n m' w'∧Oth gm w w':=by
 have hl:t.length≤8000:=by have:=(head_base hk).2.2.1;omega
 cases hg:getG m t with
 | some v =>
  obtain ⟨g,rfl,hb⟩:=hc.sh _ (getG_mem hg) k hk
  refine (shape_there hc t hl g hg).mono ?_
  rintro e w' ⟨rfl,rfl⟩
  exact ⟨g,m,rfl,hb,hc,Oth.refl _ _⟩
 | none =>
  have hnew:=newShape_base w s0 s1 s2 h0 h1 h2 ht hm t k hk
  obtain ⟨A0,u0,c0,rfl⟩:=h0
  obtain ⟨A1,u1,c1,rfl⟩:=h1
  obtain ⟨A2,u2,c2,rfl⟩:=h2
  refine (shape_of A0 A1 A2 u0 u1 u2 c0 c1 c2 hc t hl hg hnew).mono ?_
  rintro e w' ⟨g,w2,o,rfl,hb,hn,rfl,hp⟩
  have hc2:=hc.nx hn
  have hb2:Blk w2 B g (shB k) 77:=hb.less hc.sz
  refine ⟨g,_,rfl,(setB_oth w2 gm o).blk hb2 (by have:=hb2.1;have:=hc.m2;omega),hc2.putm hp ?_,(Oth.nx hn).trans (setB_oth w2 gm o)⟩
  intro x hx j hj
  rcases putG_mem m t (some g) x hx with rfl | hx
  ·obtain rfl:k=j:=by rw [hk] at hj;injection hj
   exact ⟨g,rfl,hb2⟩
  ·exact hc2.sh x hx j hj
def ShE (w:World) (B g:Nat) (ns:List Int):Prop:=∃ ge,B≤ge∧g≠ge∧Blk w B g #[.int .i64 17,.string ⟨#[]⟩,.string ⟨#[]⟩,.pointer none,.map (some ge)] 77∧MpG izV unV okZ w ge (ns.map fun n=>(n,()))
theorem ens_get:∀ (l:List Int) (k:Int),(getG (l.map fun n=>(n,())) k).isSome=decide (k ∈ l)
 | [],k=>by simp [getG]
 | x :: r,k=>by
  show (if x=k then some () else getG (r.map fun n=>(n,())) k).isSome=_
  by_cases h:x=k
  ·subst h;simp
  ·rw [if_neg h,ens_get r k]
   have:k≠x:=fun e=>h e.symm
   simp [this]
theorem SchE.g {w:World} {Sv:Value} {nm:List UInt8} {ms:List MemS} (h:SchE w Sv nm ms):∃ s0 s1 s2 Ae ce Am cm,Sv = .agg #[s0,s1,s2]∧s1 = .slice Ae 1 ce∧RdR enmA 2 w Ae [⟨nm,.slice Am ms.length cm⟩]∧ms.length≤cm∧cm≤maxLen∧ms.length≤20∧(ms.map (·.n)).Pairwise (· < ·)∧RdR memA 3 w Am ms∧IsSlv s0∧IsSlv s1∧IsSlv s2∧SchG w s0 s1 s2 [] [⟨nm,.slice Am ms.length cm⟩]:=by
 obtain ⟨A,c,Ae,ce,As,us,cs,Am,cm,e,h1,h2,h3,h4,h5,h6,h7,h8,h9⟩:=h
 refine ⟨_,_,_,Ae,ce,Am,cm,e,rfl,h4,h5,h6,h7,h8,h9,⟨_,_,_,rfl⟩,⟨_,_,_,rfl⟩,⟨_,_,_,rfl⟩,⟨⟨A,c,rfl,fun h=>absurd h (by simp)⟩,⟨Ae,ce,rfl,h4⟩,⟨_,_,_,rfl⟩,by simp,by simp,fun x hx=>(by cases hx),fun y hy=>?_⟩⟩
 rw [List.mem_singleton.1 hy]
 exact ⟨_,_,_,rfl⟩
set_option maxRecDepth 100000 in
set_option maxHeartbeats 6400000 in
theorem newShape_enm (w:World) (Sv:Value) (ms:List MemS) (hs:SchE w Sv aE ms) (hid:∀ m ∈ ms,okZ m.n) (ht:TabK w) (hm:MaxC w) :
  Calls Tryd.prog 24 #[Sv,.string ⟨aE.toArray⟩] w fun e w'=>∃ g,e = .returned (.pointer (some ⟨g,0,none⟩))∧ShE w' w.heap.size g (ms.map (·.n))∧Nx w w':=by
 obtain ⟨s0,s1,s2,Ae,ce,Am,cm,rfl,hs1,hrd,hm1,hm2,hm3,hpw,hrm,⟨A0,u0,c0,rfl⟩,-,⟨A2,u2,c2,rfl⟩,hg⟩:=hs.g
 subst hs1
 obtain ⟨e1,e2⟩:=head_aE
 obtain ⟨g,off,rfl,hgl,hc⟩:=hrd (by simp)
 obtain ⟨gS,hgS⟩:∃ g,w.heap.size=g:=⟨_,rfl⟩
 obtain ⟨w1,hw1⟩:∃ x,w.alloc (.cells #[.slice A0 u0 c0,.slice (some ⟨g,off,none⟩) 1 ce,.slice A2 u2 c2] 32)=x:=⟨_,rfl⟩
 have hn1:Nx w w1:=by rw [← hw1];exact nx0 _ _
 have hb1:Blk w1 gS gS #[.slice A0 u0 c0,.slice (some ⟨g,off,none⟩) 1 ce,.slice A2 u2 c2] 32:=by rw [← hw1,← hgS];exact Blk.new w _ _
 have hh:=head_any w1 ⟨aE.toArray⟩ aE (tx_ aE) (by decide) (ht.nx hn1) (hm.nx hn1)
 rw [e1,e2] at hh
 have HH:=Lib.hid hh
 have HN1:=Lib.hid hn1
 have HB1:=Lib.hid hb1
 have HG:=Lib.hid hg
 have HRM:=Lib.hid hrm
 have HID:=Lib.hid hid
 have HPW:=Lib.hid hpw
 have hfind:findP (([]:List StrS).map (·.nm)) ([(⟨aE,.slice Am ms.length cm⟩:EnmS)].map (·.nm)) aE=(17,0):=by unfold findP;rw [show (([]:List StrS).map (·.nm))=[] from rfl,nmN_nil,show ([(⟨aE,.slice Am ms.length cm⟩:EnmS)].map (·.nm))=[aE] from rfl,nmN_one]
 have HFI:=Lib.hid hfind
 have HC:Hid (g<w.heap.size∧∀ q,q<2→w.cell? ⟨g,off+q,none⟩=(enmA ⟨aE,.slice Am ms.length cm⟩)[q]?):=⟨hgl,fun q hq=>by have:=hc 0 (by simp) q hq;rw [Nat.zero_mul,Nat.add_zero] at this;exact this⟩
 obtain ⟨n,hn⟩:∃ n,ms.length=n:=⟨_,rfl⟩
 rw [hn] at HC HG HFI hm1 hm3
 have HN:=Lib.hid hn
 clear hh e1 e2 ht hm hn1 hb1 hg hid hrd hc hgl hfind hs hrm hpw hn
 go_enter Tryd.func24,Tryd.ntmps24
 go_upto_region 1 with (fail)
 try rw [hw1]
 clear hw1 hgS
 go_wp2_with fail
 refine HH.out.mono ?_;rintro e w2 ⟨rfl,hn2⟩
 dsimp only [bA]
 have HN2:=Lib.hid (HN1.out.trans hn2)
 have hb2:=HB1.out.below hn2
 have HB2:=Lib.hid hb2
 have a0:w2.cell? ⟨gS,0,none⟩=some (.slice A0 u0 c0):=hb2.cell 0
 have a1:w2.cell? ⟨gS,1,none⟩=some (.slice (some ⟨g,off,none⟩) 1 ce):=hb2.cell 1
 have a2:w2.cell? ⟨gS,2,none⟩=some (.slice A2 u2 c2):=hb2.cell 2
 have hfi:=find_any w2 _ _ _ _ _ (HG.out.nx HN2.out) aE
 rw [HFI.out] at hfi
 have HFD:=Lib.hid hfi
 clear hn2 hb2 hfi
 go_wp2_with fail
 refine HFD.out.mono ?_;rintro e w3 ⟨rfl,hn3⟩
 dsimp only
 have HN3:=Lib.hid (HN2.out.trans hn3)
 obtain ⟨gX,hgX⟩:∃ g,w3.heap.size=g:=⟨_,rfl⟩
 obtain ⟨ge,hge⟩:∃ g,gX+1=g:=⟨_,rfl⟩
 obtain ⟨w4,hw4⟩:∃ x,w3.alloc (.cells #[.int .i64 17,.string ⟨#[]⟩,.string ⟨#[]⟩,.pointer none,.map none] 77)=x:=⟨_,rfl⟩
 have hz4:w4.heap.size=ge:=by rw [← hw4];simp;omega
 have hb4:Blk w4 gX gX #[.int .i64 17,.string ⟨#[]⟩,.string ⟨#[]⟩,.pointer none,.map none] 77:=by rw [← hw4,← hgX];exact Blk.new w3 _ _
 have hn4:Nx w3 w4:=by rw [← hw4];exact nx0 _ _
 obtain ⟨w5,hw5⟩:∃ x,w4.alloc (.map #[] 0)=x:=⟨_,rfl⟩
 have hn5:Nx w4 w5:=by rw [← hw5];exact nx0 _ _
 have hm5:MpG izV unV okZ w5 ge ([]:List (Int×Unit)):=by rw [← hw5,← hz4];exact MpG.nil_ _ _ _ w4
 have hb5:=hb4.below hn5
 have hX:w.heap.size≤gX:=by rw [← hgX];exact HN3.out.size
 obtain ⟨w6,hw6⟩:∃ x,w5.setCell ⟨gX,4,none⟩ (.map (some ge))=x:=⟨_,rfl⟩
 have hb6:Blk w6 w.heap.size gX #[.int .i64 17,.string ⟨#[]⟩,.string ⟨#[]⟩,.pointer none,.map (some ge)] 77:=by rw [← hw6];exact (hb5.put 4 _).less hX
 have hn6:Nx w w6:=by rw [← hw6];exact ((HN3.out.trans hn4).trans hn5).put' hX 4 _
 have hm6:MpG izV unV okZ w6 ge ([]:List (Int×Unit)):=by
  rw [← hw6];refine hm5.keep ?_
  simp only [World.setCell];rw [Array.getElem?_modify,if_neg (by omega)]
 have hbs:Blk w6 gS gS #[.slice A0 u0 c0,.slice (some ⟨g,off,none⟩) 1 ce,.slice A2 u2 c2] 32:=by
  rw [← hw6];exact (((HB2.out.below hn3).below hn4).below hn5).other (by have:=HB2.out.lt;have:=hn3.size;omega) 4 _
 have HB6:=Lib.hid hb6
 have HN6:=Lib.hid hn6
 have HM6:=Lib.hid hm6
 have HE:Hid (gX≠ge∧w.heap.size≤gX∧w.heap.size≤ge):=⟨by omega,hX,by omega⟩
 have x4:w5.cell? ⟨gX,4,none⟩=some (.map none):=hb5.cell 4
 have f4:=hb5.free 4
 have hcw:∀ q,q<2→w6.cell? ⟨g,off+q,none⟩=(enmA ⟨aE,.slice Am n cm⟩)[q]?:=fun q hq=>(hn6.cell (p:=⟨g,off+q,none⟩) HC.out.1).trans (HC.out.2 q hq)
 have b1:w6.cell? ⟨gS,1,none⟩=some (.slice (some ⟨g,off,none⟩) 1 ce):=hbs.cell 1
 have k1:w6.cell? ⟨g,off+1,none⟩=some (.slice Am n cm):=hcw 1 (by decide)
 have hmm:=@run_makeMap Tryd.prog
 clear hn3 hb4 hn4 hn5 hm5 hb5 hb6 hn6 hm6 hbs hcw a0 a1 a2 hX
 go_upto_region 15 with (fail)
 try rw [hw6]
 clear hw4 hw5 hw6 hgX hge hz4 x4 f4 hmm
 go_wp2_with fail
 clear b1 k1
 go_loopw [76] (fun v wr=>∃ i:Nat,v = .int .i64 (i:Int)∧i≤n∧Hid (Nx w wr)∧Hid (Blk wr w.heap.size gX #[.int .i64 17,.string ⟨#[]⟩,.string ⟨#[]⟩,.pointer none,.map (some ge)] 77)∧Hid (MpG izV unV okZ wr ge (((ms.map (·.n)).take i).map fun n=>(n,())))) (fun v _=>(n - intOf v).toNat)
 case atStart=>exact ⟨0,rfl,Nat.zero_le _,HN6.out,HB6.out,HM6.out⟩
 case round =>
  clear HN6 HB6 HM6
  obtain ⟨i,rfl,hi,HNX,HB,HM⟩:=hrel
  have hi9:(i:Int)≤20:=by omega
  by_cases hlt:i<n
  ·have q1:decide ((i:Int)<(n:Int))=true:=decide_eq_true (by omega)
   have q2:(i:Int)<(n:Int):=by omega
   have q3:(0:Int)≤(i:Int):=by omega
   have hif:i<ms.length:=by rw [HN.out];exact hlt
   obtain ⟨gA,offA,rfl,hgA,hcA⟩:=HRM.out (by omega)
   obtain ⟨f,hfe⟩:∃ f,ms[i]=f:=⟨_,rfl⟩
   have hfm:f ∈ ms:=hfe ▸ List.getElem_mem hif
   have hok:=HID.out f hfm
   have hcc:∀ q,q<3→wr.cell? ⟨gA,offA+i * 3+q,none⟩=(memA f)[q]?:=fun q hq=>by
    rw [← hfe,← hcA i hif q hq]
    exact HNX.out.cell (p:=⟨gA,offA+i * 3+q,none⟩) hgA
   have hnew:∀ x ∈ (((ms.map (·.n)).take i).map fun n=>(n,())),x.1≠f.n:=fun x hx e=>by
    obtain ⟨y,h1,rfl⟩:=List.mem_map.1 hx
    obtain ⟨j,hj,hje⟩:=List.getElem_of_mem h1
    rw [List.length_take,List.length_map] at hj
    rw [List.getElem_take] at hje
    have h2:=List.pairwise_iff_getElem.1 HPW.out j i (by rw [List.length_map];omega) (by rw [List.length_map];omega) (by omega)
    rw [hje,List.getElem_map,hfe] at h2
    dsimp only at e
    omega
   have htake:(ms.map (·.n)).take (i+1)=(ms.map (·.n)).take i++[f.n]:=by
    rw [List.take_succ_eq_append_getElem (by rw [List.length_map];exact hif),List.getElem_map,hfe]
   have hput:putG (((ms.map (·.n)).take i).map fun n=>(n,())) f.n ()=(((ms.map (·.n)).take (i+1)).map fun n=>(n,())):=by
    rw [putG_none _ hnew,htake,List.map_append];rfl
   obtain ⟨fnm,fhas,fn⟩:=f
   dsimp only at hok hput hnew
   have c0:wr.cell? ⟨gA,offA+i * 3,none⟩=some (.string ⟨fnm.toArray⟩):=hcc 0 (by decide)
   have c1:wr.cell? ⟨gA,offA+i * 3+1,none⟩=some (.bool fhas):=hcc 1 (by decide)
   have c2:wr.cell? ⟨gA,offA+i * 3+2,none⟩=some (.int .i64 fn):=hcc 2 (by decide)
   obtain ⟨gf,hgf⟩:∃ g,wr.heap.size=g:=⟨_,rfl⟩
   obtain ⟨w7,hw7⟩:∃ x,wr.alloc (.cells #[.string ⟨fnm.toArray⟩,.bool fhas,.int .i64 fn] 24)=x:=⟨_,rfl⟩
   have hb7:Blk w7 gf gf #[.string ⟨fnm.toArray⟩,.bool fhas,.int .i64 fn] 24:=by rw [← hw7,← hgf];exact Blk.new wr _ _
   have hn7:Nx wr w7:=by rw [← hw7];exact nx0 wr _
   obtain ⟨w8,hw8⟩:∃ x,w7.drew=x:=⟨_,rfl⟩
   have hn8:Nx w7 w8:=by rw [← hw8];exact Nx.drawn w7
   have hm8:MpG izV unV okZ w8 ge (((ms.map (·.n)).take i).map fun n=>(n,())):=(HM.out.nx hn7).nx hn8
   obtain ⟨o,hpr,hpm⟩:=mapE.put hm8 fn () hok
   rw [hput] at hpm
   have HO:Hid (Oth ge w8 (ChangeMaps.setBlock w8 ge o)):=setB_oth _ _ _
   obtain ⟨w9,hw9⟩:∃ x,ChangeMaps.setBlock w8 ge o=x:=⟨_,rfl⟩
   rw [hw9] at hpr hpm HO
   replace hpr:(Instr.mapUpdate 75 (.map (some ge)) (.int .i64 fn) (.agg #[])).run Tryd.prog w7.drew = .ok () w9:=by rw [hw8];exact hpr
   have HPM:=Lib.hid hpm
   have HN9:Hid (Nx w w9):=Oth.to HO.out ((HNX.out.trans hn7).trans hn8) HE.out.2.2
   have HB9:Hid (Blk w9 w.heap.size gX #[.int .i64 17,.string ⟨#[]⟩,.string ⟨#[]⟩,.pointer none,.map (some ge)] 77) :=
    HO.out.blk ((HB.out.below hn7).below hn8) HE.out.1
   have d2:w7.cell? ⟨gf,2,none⟩=some (.int .i64 fn):=hb7.cell 2
   have r4:w7.cell? ⟨gX,4,none⟩=some (.map (some ge)):=(HB.out.below hn7).cell 4
   have HLT:=Lib.hid hlt
   clear hcc hcA hgA hif hfe hfm hb7 hn7 hnew htake hput hok hlt hm8 hpm hw9 hn8 hw8
   go_upto_region 18 with (fail)
   try rw [hw7]
   clear hw7 hgf c0 c1 c2
   go_region
   go_wp2_with fail
   go_roundw
   case rel=>exact ⟨i+1,by go_num,HLT.out,HN9.out,HB9.out,HPM.out⟩
   case measure=>have:=HLT.out;simp [intOf];omega
  ·have q1:decide ((i:Int)<(n:Int))=false:=decide_eq_false (by omega)
   have q2:¬ (i:Int)<(n:Int):=by omega
   obtain rfl:i=n:=by omega
   have HM2:Hid (MpG izV unV okZ wr ge ((ms.map (·.n)).map fun n=>(n,()))):=by have h:=HM.out;rw [List.take_of_length_le (by rw [List.length_map,HN.out];exact Nat.le_refl _)] at h;exact h
   clear hlt HM
   go_wp2_with fail
   go_ret
   exact ⟨gX,rfl,⟨ge,HE.out.2.2,HE.out.1,HB.out,HM2.out⟩,HNX.out⟩
end Go.Proofs.YtnfelopknfdpfaaDoor
namespace Go.Proofs.YtnfelopknfdpfaaDoor
open Go.RowKit
def sixK (k:Nat):Prop:=k=2∨k=3∨k=4∨k=6∨k=8∨k=10
set_option maxRecDepth 100000 in
set_option maxHeartbeats 6400000 in
theorem has_base (w:World) (gc gx B k:Nat) (hk:sixK k) (hx:Blk w B gx (shB k) 77) (xk:Nat) (xn:Int) (xs:List UInt8) (lA dA:Option Addr) (lu lc du dc:Nat) (hn:i64B xn) :
  Calls Tryd.prog 23 #[.pointer (some ⟨gc,0,none⟩),.pointer (some ⟨gx,0,none⟩),.agg #[.int .i64 (xk:Int),.int .i64 xn,.string ⟨xs.toArray⟩,.slice lA lu lc,.slice dA du dc]] w fun e w'=>e = .returned (.bool (rngB k xn))∧Nx w w':=by
 obtain ⟨g1,hg1⟩:∃ g,w.heap.size=g:=⟨_,rfl⟩
 obtain ⟨w1,hw1⟩:∃ x,w.alloc (.cells #[.int .i64 (xk:Int),.int .i64 xn,.string ⟨xs.toArray⟩,.slice lA lu lc,.slice dA du dc] 41)=x:=⟨_,rfl⟩
 have hn1:Nx w w1:=by rw [← hw1];exact nx0 _ _
 have hb1:Blk w1 g1 g1 #[.int .i64 (xk:Int),.int .i64 xn,.string ⟨xs.toArray⟩,.slice lA lu lc,.slice dA du dc] 41:=by rw [← hw1,← hg1];exact Blk.new w _ _
 have a1:w1.cell? ⟨g1,1,none⟩=some (.int .i64 xn):=hb1.cell 1
 have k0:w1.cell? ⟨gx,0,none⟩=some (.int .i64 (k:Int)):=(hx.below hn1).cell 0
 have HN1:=Lib.hid hn1
 have HB:=Lib.hid hn
 clear hn1 hb1 hx hn
 rcases hk with rfl | rfl | rfl | rfl | rfl | rfl
 ·have hr:rngB 2 xn=(decide (xn=0) || decide (xn=1)):=rfl
  by_cases h0:xn=0
  ·subst h0
   rw [hr,decide_eq_true rfl,Bool.true_or]
   go_enter Tryd.func23,Tryd.ntmps23
   go_upto_region 1 with (fail)
   try rw [hw1]
   clear hw1 hg1
   go_wp2_with fail
   go_ret
   exact ⟨rfl,HN1.out⟩
  ·have q0:(xn == 0)=false:=by simp;exact h0
   have q1:decide (xn=0)=false:=decide_eq_false h0
   rw [hr,q1,Bool.false_or]
   obtain ⟨b,hb⟩:∃ b,(xn == 1)=b:=⟨_,rfl⟩
   have hb2:decide (xn=1)=b:=by rw [← hb];rfl
   rw [hb2]
   go_enter Tryd.func23,Tryd.ntmps23
   go_upto_region 1 with (fail)
   try rw [hw1]
   clear hw1 hg1
   go_wp2_with fail
   go_ret
   exact ⟨rfl,HN1.out⟩
 ·have HK:=Lib.hid (keeps8_any w1 xn HB.out)
  rw [show rngB 3 xn=(decide (-128≤xn) && decide (xn≤127)) from rfl]
  go_enter Tryd.func23,Tryd.ntmps23
  go_upto_region 1 with (fail)
  try rw [hw1]
  clear hw1 hg1
  go_wp2_with fail
  refine HK.out.mono ?_;rintro e w2 ⟨rfl,hw2⟩;obtain rfl:=hw2.symm
  go_wp2_with fail
  go_ret
  exact ⟨rfl,HN1.out⟩
 ·rw [show rngB 4 xn=true from rfl]
  go_enter Tryd.func23,Tryd.ntmps23
  go_upto_region 1 with (fail)
  try rw [hw1]
  clear hw1 hg1
  go_wp2_with fail
  go_ret
  exact ⟨rfl,HN1.out⟩
 ·have HK:=Lib.hid (keeps16_any w1 xn HB.out)
  rw [show rngB 6 xn=(decide (-32768≤xn) && decide (xn≤32767)) from rfl]
  go_enter Tryd.func23,Tryd.ntmps23
  go_upto_region 1 with (fail)
  try rw [hw1]
  clear hw1 hg1
  go_wp2_with fail
  refine HK.out.mono ?_;rintro e w2 ⟨rfl,hw2⟩;obtain rfl:=hw2.symm
  go_wp2_with fail
  go_ret
  exact ⟨rfl,HN1.out⟩
 ·have HK:=Lib.hid (keeps32_any w1 xn HB.out)
  rw [show rngB 8 xn=(decide (-2147483648≤xn) && decide (xn≤2147483647)) from rfl]
  go_enter Tryd.func23,Tryd.ntmps23
  go_upto_region 1 with (fail)
  try rw [hw1]
  clear hw1 hg1
  go_wp2_with fail
  refine HK.out.mono ?_;rintro e w2 ⟨rfl,hw2⟩;obtain rfl:=hw2.symm
  go_wp2_with fail
  go_ret
  exact ⟨rfl,HN1.out⟩
 ·rw [show rngB 10 xn=true from rfl]
  go_enter Tryd.func23,Tryd.ntmps23
  go_upto_region 1 with (fail)
  try rw [hw1]
  clear hw1 hg1
  go_wp2_with fail
  go_ret
  exact ⟨rfl,HN1.out⟩
set_option maxRecDepth 100000 in
set_option maxHeartbeats 6400000 in
theorem fits_of {W B gc gm:Nat} {s0 s1 s2:Value} {n:Nat} {m:List (List UInt8×Option Nat)} {w:World} (hc:Chk W B gc gm s0 s1 s2 (n:Int) m w) (hn9:n≤1000) (gx k:Nat) (hk0:k≠0) (hk9:k≤100) (hkx:w.cell? ⟨gx,0,none⟩=some (.int .i64 (k:Int))) (hgx:B≤gx∧gx<w.heap.size)
  (xk:Nat) (xn:Int) (xs:List UInt8) (lA dA:Option Addr) (lu lc du dc:Nat) (hx9:xk≤100) (R:Bool)
  (hhas:xk=k→∀ w1,FrW W B w w1→Chk W B gc gm s0 s1 s2 ((n:Int)+1) m w1→Calls Tryd.prog 23 #[.pointer (some ⟨gc,0,none⟩),.pointer (some ⟨gx,0,none⟩),.agg #[.int .i64 (xk:Int),.int .i64 xn,.string ⟨xs.toArray⟩,.slice lA lu lc,.slice dA du dc]] w1 fun e w'=>e = .returned (.bool R)∧(∃ m',Chk W B gc gm s0 s1 s2 ((n:Int)+1) m' w')∧FrW W B w1 w') :
  Calls Tryd.prog 13 #[.pointer (some ⟨gc,0,none⟩),.pointer (some ⟨gx,0,none⟩),.agg #[.int .i64 (xk:Int),.int .i64 xn,.string ⟨xs.toArray⟩,.slice lA lu lc,.slice dA du dc]] w fun e w'=>e = .returned (.bool (decide (xk=k) && R))∧(∃ m',Chk W B gc gm s0 s1 s2 (n:Int) m' w')∧FrW W B w w':=by
 obtain ⟨g1,hg1⟩:∃ g,w.heap.size=g:=⟨_,rfl⟩
 obtain ⟨w1,hw1⟩:∃ x,w.alloc (.cells #[.int .i64 (xk:Int),.int .i64 xn,.string ⟨xs.toArray⟩,.slice lA lu lc,.slice dA du dc] 41)=x:=⟨_,rfl⟩
 have hn1:Nx w w1:=by rw [← hw1];exact nx0 _ _
 have hb1:Blk w1 g1 g1 #[.int .i64 (xk:Int),.int .i64 xn,.string ⟨xs.toArray⟩,.slice lA lu lc,.slice dA du dc] 41:=by rw [← hw1,← hg1];exact Blk.new w _ _
 have hc1:=hc.nx hn1
 have a0:w1.cell? ⟨g1,0,none⟩=some (.int .i64 (xk:Int)):=hb1.cell 0
 have k0:w1.cell? ⟨gx,0,none⟩=some (.int .i64 (k:Int)):=(hn1.cell (p:=⟨gx,0,none⟩) hgx.2).trans hkx
 have r4:w1.cell? ⟨gc,4,none⟩=some (.int .i64 (n:Int)):=hc1.blk.cell 4
 have HN1:=Lib.hid hn1
 have HC1:=Lib.hid hc1
 have q1:((k:Int) == 0)=false:=by simp;omega
 have q2:¬ (k:Int)=0:=by omega
 have q3:decide ((k:Int)=0)=false:=decide_eq_false q2
 have q4:decide ((262144:Int)<(n:Int))=false:=decide_eq_false (by omega)
 have q5:¬ (262144:Int)<(n:Int):=by omega
 by_cases hxk:xk=k
 ·subst hxk
  have e1:(((xk:Nat):Int) != ((xk:Nat):Int))=false:=by simp
  rw [decide_eq_true rfl,Bool.true_and]
  obtain ⟨w2,hw2⟩:∃ x,w1.drew=x:=⟨_,rfl⟩
  have hn2:Nx w1 w2:=by rw [← hw2];exact Nx.drawn w1
  have hc2:=hc1.nx hn2
  have r42:w2.cell? ⟨gc,4,none⟩=some (.int .i64 (n:Int)):=hc2.blk.cell 4
  have f42:=hc2.blk.free 4
  obtain ⟨N1,hN1⟩:∃ N,n+1=N:=⟨_,rfl⟩
  have d1:(n:Int)+1=(N1:Int):=by omega
  have d2:IntKind.i64.wrap (N1:Int)=(N1:Int):=by rw [IntKind.wrap_i64];omega
  have d3:(N1:Int) - 1=(n:Int):=by omega
  have d4:IntKind.i64.wrap (n:Int)=(n:Int):=by rw [IntKind.wrap_i64];omega
  have hc3:Chk W B gc gm s0 s1 s2 (N1:Int) m (w2.setCell ⟨gc,4,none⟩ (.int .i64 (N1:Int))):=hc2.cnt
  have hf3:FrW W B w (w2.setCell ⟨gc,4,none⟩ (.int .i64 (N1:Int))):=((FrW.nx hn1).trans (FrW.nx hn2)).trans (FrW.cnt hc2)
  obtain ⟨w3,hw3⟩:∃ x,w2.setCell ⟨gc,4,none⟩ (.int .i64 (N1:Int))=x:=⟨_,rfl⟩
  rw [hw3] at hc3 hf3
  rw [d1] at hhas
  have HH:=Lib.hid (hhas rfl w3 hf3 hc3)
  have HF3:=Lib.hid hf3
  have hb3:Blk w3 g1 g1 #[.int .i64 (xk:Int),.int .i64 xn,.string ⟨xs.toArray⟩,.slice lA lu lc,.slice dA du dc] 41:=by
   rw [← hw3];exact (hb1.below hn2).other (by have:=hc.c2;have:=hc.sz;omega) 4 _
  have v0:w3.cell? ⟨g1,0,none⟩=some (.int .i64 (xk:Int)):=hb3.cell 0
  have v1:w3.cell? ⟨g1,1,none⟩=some (.int .i64 xn):=hb3.cell 1
  have v2:w3.cell? ⟨g1,2,none⟩=some (.string ⟨xs.toArray⟩):=hb3.cell 2
  have v3:w3.cell? ⟨g1,3,none⟩=some (.slice lA lu lc):=hb3.cell 3
  have v4:w3.cell? ⟨g1,4,none⟩=some (.slice dA du dc):=hb3.cell 4
  have HW2:=Lib.hid hw2
  have HW3:=Lib.hid hw3
  have HD3:=Lib.hid d3
  have HD4:=Lib.hid d4
  clear hhas hb3 hc3 hf3 hc2 hn2 hb1 hn1 hc1 hc hkx hgx hN1 hw2 hw3 d3 d4
  go_enter Tryd.func13,Tryd.ntmps13
  go_upto_region 1 with (fail)
  try rw [hw1]
  clear hw1 hg1
  go_region
  rw [HW2.out]
  clear a0 k0 r4
  go_upto_region 4 with (fail)
  rw [HW3.out]
  clear r42 f42 d1 d2
  go_wp2_with fail
  refine HH.out.mono ?_;rintro e w4 ⟨rfl,⟨m',hc4⟩,hf4⟩
  have d3:=HD3.out
  have d4:=HD4.out
  have r44:w4.cell? ⟨gc,4,none⟩=some (.int .i64 (N1:Int)):=hc4.blk.cell 4
  have f44:=hc4.blk.free 4
  have HC5:Hid (Chk W B gc gm s0 s1 s2 (n:Int) m' (w4.setCell ⟨gc,4,none⟩ (.int .i64 (n:Int)))):=hc4.cnt
  have HF5:Hid (FrW W B w (w4.setCell ⟨gc,4,none⟩ (.int .i64 (n:Int)))):=(HF3.out.trans hf4).trans (FrW.cnt hc4)
  clear hc4 hf4 v0 v1 v2 v3 v4
  go_wp2_with fail
  go_ret
  exact ⟨rfl,⟨m',HC5.out⟩,HF5.out⟩
 ·have e1:((xk:Int) != (k:Int))=true:=by simp;omega
  have e2:¬ (xk:Int)=(k:Int):=by omega
  rw [decide_eq_false hxk,Bool.false_and]
  have HC2:=Lib.hid (hc1.nx (Nx.drawn w1))
  have HF2:Hid (FrW W B w w1.drew):=(FrW.nx hn1).trans (FrW.nx (Nx.drawn w1))
  clear hhas hb1 hn1 hc1 hc hkx hgx
  go_enter Tryd.func13,Tryd.ntmps13
  go_upto_region 1 with (fail)
  try rw [hw1]
  clear hw1 hg1
  go_region
  go_wp2_with fail
  go_ret
  exact ⟨rfl,⟨m,HC2.out⟩,HF2.out⟩
theorem fits_base {W B gc gm:Nat} {s0 s1 s2:Value} {n:Nat} {m:List (List UInt8×Option Nat)} {w:World} (hc:Chk W B gc gm s0 s1 s2 (n:Int) m w) (hn9:n≤1000) (gx k:Nat) (hk:sixK k) (hx:Blk w B gx (shB k) 77)
  (x:ValS) (hx9:x.k≤100) (hxn:i64B x.n) (hl:IsSlv x.l) (hd:IsSlv x.ids) :
  Calls Tryd.prog 13 #[.pointer (some ⟨gc,0,none⟩),.pointer (some ⟨gx,0,none⟩),.agg (valA x)] w fun e w'=>e = .returned (.bool (decide (x.k=k) && rngB k x.n))∧(∃ m',Chk W B gc gm s0 s1 s2 (n:Int) m' w')∧FrW W B w w':=by
 obtain ⟨xk,xn,xs,xl,xd⟩:=x
 obtain ⟨lA,lu,lc,rfl⟩:=hl
 obtain ⟨dA,du,dc,rfl⟩:=hd
 have hk1:k≠0∧k≤100:=by unfold sixK at hk;omega
 refine fits_of hc hn9 gx k hk1.1 hk1.2 (hx.cell 0) ⟨hx.1,hx.lt⟩ xk xn xs lA dA lu lc du dc hx9 _ fun _ w1 hf hc1=>?_
 refine (has_base w1 gc gx B k hk (hf.blk hx hx.1) xk xn xs lA dA lu lc du dc hxn).mono ?_
 rintro e w2 ⟨rfl,hn2⟩
 exact ⟨rfl,⟨m,hc1.nx hn2⟩,FrW.nx hn2⟩
end Go.Proofs.YtnfelopknfdpfaaDoor
namespace Go.Proofs.YtnfelopknfdpfaaDoor
open Go.RowKit
namespace EO
structure Ex where
 l:List Nat
 b:Nat
abbrev GrO (b:Nat) (w:World):={ w':World // Oth b w w' }
instance grNonempty (b:Nat) (w:World):Nonempty (GrO b w):=⟨⟨w,Oth.refl b w⟩⟩
section
variable {b:Nat} {ex:Ex} {P:Program} {ops:Array Oper} {md:Region.Mode}
def calmO (b:Nat) (P:Program) (o:Oper) (a:Act) (w:World) (next:Act→Prop):Prop :=
 ∃ v,(∀ x:GrO b w,o.quietAt P a (fun w''=>w''=x.1) x.1 v)∧next (a.put o.dst v)
def YO (b:Nat) (P:Program) (ops:Array Oper) (w:World) (o:Oper) (v:Value) (a:Act):Prop :=
 (Region.wanted o (yielded ops a.tmps)=true∧∀ x:GrO b w,o.quietAt P a (fun w''=>w''=x.1) x.1 v) ∨
 (Region.wanted o (yielded ops a.tmps)=false∧v=undef)
theorem YO.grow {w w1:World} {o:Oper} {v:Value} {a:Act} (h:YO b P ops w o v a) (hn:Oth b w w1):YO b P ops w1 o v a:=by
 rcases h with ⟨h1,h2⟩ | h
 ·exact .inl ⟨h1,fun x=>h2 ⟨x.1,hn.trans x.2⟩⟩
 ·exact .inr h
theorem YO.gOp {i:Nat} {w:World} {o:Oper} {v:Value} {a:Act} (hi:ops[i]? = some o) (hy:YO b P ops w o v a) {K:Act→World→Prop} (h:K (a.put o.dst v) w):gOp P ops i K a w:=by
 unfold Go.Proofs.YtnfelopknfdpfaaDoor.gOp
 simp only [hi]
 rcases hy with ⟨hw,hv⟩ | ⟨hw,rfl⟩
 ·simp only [hw,if_true]
  have h3:=hv ⟨w,Oth.refl b w⟩
  unfold Oper.quietAt at h3
  unfold Oper.wp
  generalize (execOp a.eval o).run P w=r at *
  cases r with
  | ok n w' =>
   cases n <;> simp only [Oper.quietUpon] at h3 <;> simp only [Oper.upon]
   case value u=>obtain ⟨e1,e2⟩:=h3;rw [e1,e2];exact h
   case skip=>obtain ⟨e1,e2⟩:=h3;rw [e1,← e2];exact h
   case enter f args =>
    obtain ⟨e1,hc⟩:=h3
    rw [e1]
    exact hc.mono fun e w'' ⟨he,hw''⟩=>by subst he;rw [hw''];exact h
  | halt x w'=>simp only [Oper.quietUpon] at h3
 ·simp only [hw,Bool.false_eq_true,if_false];exact h
theorem YO.of_same {w:World} {o:Oper} {v:Value} {a a':Act} (hy:YO b P ops w o v a) (he:execOp a'.eval o=execOp a.eval o)
  (hw:Region.wanted o (yielded ops a'.tmps)=Region.wanted o (yielded ops a.tmps)):YO b P ops w o v a':=by
 unfold YO Oper.quietAt at *
 rw [he,hw]
 exact hy
theorem gOp_putO {j:Nat} {w:World} {oi oj:Oper} {v:Value} (hj:ops[j]? = some oj) (hap:oi.apart ops oj=true)
  (hsi:∀ cs b,oi.op≠.select cs b) (hsj:∀ cs b,oj.op≠.select cs b) {K:Act→World→Prop} {a:Act}
  (hy:YO b P ops w oi v a) (h:gOp P ops j K (a.put oi.dst v) w) :
  gOp P ops j (fun a' w'=>YO b P ops w oi v a'∧K (a'.put oi.dst v) w') a w:=by
 obtain ⟨h1,h2,h3⟩:=Oper.apart_spec hap
 have keep:∀ u,YO b P ops w oi v (a.put oj.dst u):=fun u =>
  hy.of_same (execOp_put oi hsi a oj.dst u h3) (wanted_put oi a oj.dst u h3)
 have pc:∀ u,(a.put oi.dst v).put oj.dst u=(a.put oj.dst u).put oi.dst v:=fun u=>Act.put_comm a v u h2
 unfold Go.Proofs.YtnfelopknfdpfaaDoor.gOp at *
 simp only [hj] at *
 rw [wanted_put oj a oi.dst v h1] at h
 split
 ·rename_i hw
  simp only [hw,if_true] at h
  unfold Oper.wp at *
  rw [execOp_put oj hsj a oi.dst v h1] at h
  generalize (execOp a.eval oj).run P w=r at *
  cases r with
  | ok n w' =>
   cases n <;> simp only [Oper.upon] at h ⊢
   case value u=>exact ⟨keep u,by rw [← pc];exact h⟩
   case skip=>exact ⟨keep _,by rw [← pc];exact h⟩
   case defer d =>
    have hd:(a.put oi.dst v).defers=a.defers:=by cases oi.dst <;> rfl
    rw [hd,defers_put,pc] at h
    rw [defers_put]
    refine ⟨(keep undef).of_same rfl rfl,?_⟩
    rw [defers_put]
    exact h
   case enter f args =>
    refine h.mono fun e w'' he=>?_
    cases e with
    | returned u=>exact ⟨keep u,by rw [← pc];exact he⟩
    | panicked c=>exact he.elim
    | outgrown=>exact absurd he (by simp [LetsOut])
   case row r args=>exact h.mono fun u w'' he=>⟨keep u,by rw [← pc];exact he⟩
  | halt x w'=>cases x <;> simp only [Oper.upon] at h
 ·rename_i hw
  simp only [hw] at h
  exact ⟨keep _,by rw [← pc];exact h⟩
def calmA (P:Program) (o:Oper) (a:Act) (next:Act→Prop):Prop :=
 ∃ v,(∀ x:World,o.quietAt P a (fun w''=>w''=x) x v)∧next (a.put o.dst v)
def YA (P:Program) (ops:Array Oper) (o:Oper) (v:Value) (a:Act):Prop:=∀ w,YG P ops w o v a
theorem YA.of_same {o:Oper} {v:Value} {a a':Act} (hy:YA P ops o v a) (he:execOp a'.eval o=execOp a.eval o)
  (hw:Region.wanted o (yielded ops a'.tmps)=Region.wanted o (yielded ops a.tmps)):YA P ops o v a':=fun w=>(hy w).of_same he hw
theorem gOp_putA {j:Nat} {w:World} {oi oj:Oper} {v:Value} (hj:ops[j]? = some oj) (hap:oi.apart ops oj=true)
  (hsi:∀ cs b,oi.op≠.select cs b) (hsj:∀ cs b,oj.op≠.select cs b) {K:Act→World→Prop} {a:Act}
  (hy:YA P ops oi v a) (h:gOp P ops j K (a.put oi.dst v) w) :
  gOp P ops j (fun a' w'=>YA P ops oi v a'∧K (a'.put oi.dst v) w') a w:=by
 obtain ⟨h1,h2,h3⟩:=Oper.apart_spec hap
 have keep:∀ u,YA P ops oi v (a.put oj.dst u):=fun u =>
  hy.of_same (execOp_put oi hsi a oj.dst u h3) (wanted_put oi a oj.dst u h3)
 have pc:∀ u,(a.put oi.dst v).put oj.dst u=(a.put oj.dst u).put oi.dst v:=fun u=>Act.put_comm a v u h2
 unfold Go.Proofs.YtnfelopknfdpfaaDoor.gOp at *
 simp only [hj] at *
 rw [wanted_put oj a oi.dst v h1] at h
 split
 ·rename_i hw
  simp only [hw,if_true] at h
  unfold Oper.wp at *
  rw [execOp_put oj hsj a oi.dst v h1] at h
  generalize (execOp a.eval oj).run P w=r at *
  cases r with
  | ok n w' =>
   cases n <;> simp only [Oper.upon] at h ⊢
   case value u=>exact ⟨keep u,by rw [← pc];exact h⟩
   case skip=>exact ⟨keep _,by rw [← pc];exact h⟩
   case defer d =>
    have hd:(a.put oi.dst v).defers=a.defers:=by cases oi.dst <;> rfl
    rw [hd,defers_put,pc] at h
    rw [defers_put]
    refine ⟨(keep undef).of_same rfl rfl,?_⟩
    rw [defers_put]
    exact h
   case enter f args =>
    refine h.mono fun e w'' he=>?_
    cases e with
    | returned u=>exact ⟨keep u,by rw [← pc];exact he⟩
    | panicked c=>exact he.elim
    | outgrown=>exact absurd he (by simp [LetsOut])
   case row r args=>exact h.mono fun u w'' he=>⟨keep u,by rw [← pc];exact he⟩
  | halt x w'=>cases x <;> simp only [Oper.upon] at h
 ·rename_i hw
  simp only [hw] at h
  exact ⟨keep _,by rw [← pc];exact h⟩
def GA (ex:Ex) (P:Program) (md:Region.Mode) (ops:Array Oper) (Q:Act→World→Prop):Nat→Array Bool→Act→World→Prop
 | 0,listed,a,w=>Region.ready md ops listed=[]∧∀ w1,Nx w w1→Q a w1
 | f+1,listed,a,w=>∀ w1,Nx w w1→(Region.ready md ops listed=[]→Q a w1) ∧
   ∀ i ∈ Region.ready md ops listed,gOp P ops i (fun a' w'=>(i ∈ ex.l∨Oth ex.b w1 w')∧GA ex P md ops Q f (listed.setIfInBounds i true) a' w') a w1
theorem GA.grow {Q:Act→World→Prop} {f:Nat} {listed:Array Bool} {a:Act} {w w1:World} (h:GA ex P md ops Q f listed a w) (hn:Nx w w1):GA ex P md ops Q f listed a w1:=by
 cases f with
 | zero=>exact ⟨h.1,fun w2 h2=>h.2 w2 (hn.trans h2)⟩
 | succ f=>exact fun w2 h2=>h w2 (hn.trans h2)
theorem wpAny_of_GA {Q:Act→World→Prop} {Q':Exit→Act→World→Prop} (hQ:∀ a w,Q a w→Q' .normal a w):∀ (f:Nat) (listed:Array Bool) (a:Act) (w:World),
  GA ex P md ops Q f listed a w→wpAny P md ops Q' f listed a w
 | 0,_,_,w,h=>⟨h.1,hQ _ _ (h.2 w (Nx.refl w))⟩
 | f+1,listed,a,w,h=>by
  refine ⟨fun h0=>hQ _ _ ((h w (Nx.refl w)).1 h0),fun i hi=>?_⟩
  have:=(h w (Nx.refl w)).2 i hi
  unfold gOp at this
  unfold wpOp
  split
  ·rename_i ho;simp only [ho] at this;exact wpAny_of_GA hQ f _ _ _ this.2
  ·rename_i o ho
   simp only [ho] at this
   split
   ·rename_i hw;simp only [hw,if_true] at this;exact .inl (wp_mono_both (fun a' w' h'=>wpAny_of_GA hQ f _ _ _ h'.2) this trivial)
   ·rename_i hw;simp only [hw] at this;exact wpAny_of_GA hQ f _ _ _ this.2
theorem GA_first {Q:Act→World→Prop} {i:Nat} {oi:Oper} {v:Value} (hi:ops[i]? = some oi) (hsel:∀ (j:Nat) (o:Oper) cs b,ops[j]? = some o→o.op≠.select cs b)
  (D:Nat→Bool) (hD1:∀ e ∈ ex.l,D e=true) (hD2:∀ j o,ops[j]? = some o→D j=true→∃ e ∈ o.after,Region.binds md e=true∧(e.on=i∨D e.on=true)) :
  ∀ (f:Nat) (listed:Array Bool) (a:Act) (w:World),
   (∀ j oj,ops[j]? = some oj→j≠i→listed.getD j true=false→(∀ e ∈ oj.after,Region.binds md e=true→e.on≠i)→oi.apart ops oj=true) →
   (∀ j,D j=true→listed.getD j true=false) →
   i ∈ Region.ready md ops listed→YO ex.b P ops w oi v a →
   GA ex P md ops Q f (listed.setIfInBounds i true) (a.put oi.dst v) w→GA ex P md ops Q (f+1) listed a w:=by
 intro f
 induction f with
 | zero =>
  intro listed a w _ _ hr hy H w1 hn
  refine ⟨fun h=>(by rw [h] at hr;cases hr),fun j hj=>?_⟩
  by_cases hji:j=i
  ·subst hji;exact (hy.grow (Oth.nx hn)).gOp hi ⟨.inr (Oth.refl _ _),H.grow hn⟩
  ·have:=ready_mono hj hji
   rw [H.1] at this
   cases this
 | succ f ih =>
  intro listed a w hfree hl hr hy H w1 hn
  refine ⟨fun h=>(by rw [h] at hr;cases hr),fun j hj=>?_⟩
  by_cases hji:j=i
  ·subst hji;exact (hy.grow (Oth.nx hn)).gOp hi ⟨.inr (Oth.refl _ _),H.grow hn⟩
  ·have h1:=(H w1 hn).2 j (ready_mono hj hji)
   obtain ⟨hjun,oj,hoj,hall⟩:=mem_ready.1 hj
   have hnot:∀ e ∈ oj.after,Region.binds md e=true→e.on≠i:=fun e he hb heq=>by
    have h1:=hall e he hb
    have h0:=(mem_ready.1 hr).1
    rw [heq] at h1
    rcases Nat.lt_or_ge i listed.size with h' | h'
    ·simp [h'] at h0 h1;rw [h0] at h1;cases h1
    ·simp [Array.getElem?_eq_none h'] at h1
   have h2:=gOp_putO hoj (hfree j oj hoj hji hjun hnot) (fun cs b=>hsel i oi cs b hi) (fun cs b=>hsel j oj cs b hoj) (hy.grow (Oth.nx hn)) h1
   have hfree':∀ k ok,ops[k]? = some ok→k≠i→(listed.setIfInBounds j true).getD k true=false →
     (∀ e ∈ ok.after,Region.binds md e=true→e.on≠i)→oi.apart ops ok=true:=fun k ok hk hki hun hno=>by
    refine hfree k ok hk hki ?_ hno
    by_cases hjk:j=k
    ·subst hjk;exact hjun
    ·rw [getD_set_ne true hjk] at hun;exact hun
   have hjD:D j=false:=by
    rw [Bool.eq_false_iff]
    intro hd
    obtain ⟨e,he,hb,heq⟩:=hD2 j oj hoj hd
    rcases heq with heq | heq
    ·exact hnot e he hb heq
    ·have h1:=hall e he hb
     have h0:=hl _ heq
     rcases Nat.lt_or_ge e.on listed.size with h' | h'
     ·simp [h'] at h0 h1;rw [h0] at h1;cases h1
     ·simp [Array.getElem?_eq_none h'] at h1
   have hjst:¬ j ∈ ex.l:=fun hm=>by rw [hD1 j hm] at hjD;cases hjD
   have hl':∀ k,D k=true→(listed.setIfInBounds j true).getD k true=false:=fun k hk=>by
    have hne:j≠k:=by rintro rfl;rw [hk] at hjD;cases hjD
    rw [getD_set_ne true hne];exact hl k hk
   refine gOp_mono (fun a' w' h3=>have hN:=h3.2.1.resolve_left hjst;⟨.inr hN,ih (listed.setIfInBounds j true) a' w' hfree' hl' (ready_mono hr (Ne.symm hji)) (h3.1.grow hN) ?_⟩) h2
   rw [Array.setIfInBounds_comm _ _ hji]
   exact h3.2.2
theorem GA_firstA {Q:Act→World→Prop} {i:Nat} {oi:Oper} {v:Value} (hi:ops[i]? = some oi) (hsel:∀ (j:Nat) (o:Oper) cs b,ops[j]? = some o→o.op≠.select cs b) :
  ∀ (f:Nat) (listed:Array Bool) (a:Act) (w:World),
   (∀ j oj,ops[j]? = some oj→j≠i→listed.getD j true=false→(∀ e ∈ oj.after,Region.binds md e=true→e.on≠i)→oi.apart ops oj=true) →
   i ∈ Region.ready md ops listed→YA P ops oi v a →
   GA ex P md ops Q f (listed.setIfInBounds i true) (a.put oi.dst v) w→GA ex P md ops Q (f+1) listed a w:=by
 intro f
 induction f with
 | zero =>
  intro listed a w _ hr hy H w1 hn
  refine ⟨fun h=>(by rw [h] at hr;cases hr),fun j hj=>?_⟩
  by_cases hji:j=i
  ·subst hji;exact (hy w1).gOp hi ⟨.inr (Oth.refl _ _),H.grow hn⟩
  ·have:=ready_mono hj hji
   rw [H.1] at this
   cases this
 | succ f ih =>
  intro listed a w hfree hr hy H w1 hn
  refine ⟨fun h=>(by rw [h] at hr;cases hr),fun j hj=>?_⟩
  by_cases hji:j=i
  ·subst hji;exact (hy w1).gOp hi ⟨.inr (Oth.refl _ _),H.grow hn⟩
  ·have h1:=(H w1 hn).2 j (ready_mono hj hji)
   obtain ⟨hjun,oj,hoj,hall⟩:=mem_ready.1 hj
   have hnot:∀ e ∈ oj.after,Region.binds md e=true→e.on≠i:=fun e he hb heq=>by
    have h1:=hall e he hb
    have h0:=(mem_ready.1 hr).1
    rw [heq] at h1
    rcases Nat.lt_or_ge i listed.size with h' | h'
    ·simp [h'] at h0 h1;rw [h0] at h1;cases h1
    ·simp [Array.getElem?_eq_none h'] at h1
   have h2:=gOp_putA hoj (hfree j oj hoj hji hjun hnot) (fun cs b=>hsel i oi cs b hi) (fun cs b=>hsel j oj cs b hoj) hy h1
   have hfree':∀ k ok,ops[k]? = some ok→k≠i→(listed.setIfInBounds j true).getD k true=false →
     (∀ e ∈ ok.after,Region.binds md e=true→e.on≠i)→oi.apart ops ok=true:=fun k ok hk hki hun hno=>by
    refine hfree k ok hk hki ?_ hno
    by_cases hjk:j=k
    ·subst hjk;exact hjun
    ·rw [getD_set_ne true hjk] at hun;exact hun
   refine gOp_mono (fun a' w' h3=>⟨h3.2.1,ih (listed.setIfInBounds j true) a' w' hfree' (ready_mono hr (Ne.symm hji)) h3.1 ?_⟩) h2
   rw [Array.setIfInBounds_comm _ _ hji]
   exact h3.2.2
def wpHyb (ex:Ex) (P:Program) (ops:Array Oper) (Q:Act→World→Prop):List (Nat×Nat)→Act→World→Prop
 | [],a,w=>∀ w1,Nx w w1→Q a w1
 | (k,0) :: rest,a,w=>∀ w1,Nx w w1→match ops[k]? with
  | none=>False
  | some o=>if Region.wanted o (yielded ops a.tmps) then o.wp P a w1 (fun a' w'=>(k ∈ ex.l∨Oth ex.b w1 w')∧wpHyb ex P ops Q rest a' w') (fun _ _ _=>False) else wpHyb ex P ops Q rest (a.put o.dst undef) w1
 | (k,1) :: rest,a,w=>match ops[k]? with
  | none=>False
  | some o=>if Region.wanted o (yielded ops a.tmps) then calmO ex.b P o a w (fun a'=>wpHyb ex P ops Q rest a' w) else wpHyb ex P ops Q rest (a.put o.dst undef) w
 | (k,_+2) :: rest,a,w=>match ops[k]? with
  | none=>False
  | some o=>if Region.wanted o (yielded ops a.tmps) then calmA P o a (fun a'=>wpHyb ex P ops Q rest a' w) else wpHyb ex P ops Q rest (a.put o.dst undef) w
def dep (md:Region.Mode) (ops:Array Oper) (k:Nat):Nat→Nat→Bool
 | 0,_=>false
 | f+1,j=>match ops[j]? with
  | some o=>o.after.any (fun e=>Region.binds md e && (e.on == k || dep md ops k f e.on))
  | none=>false
def edge (ex:Ex) (md:Region.Mode) (ops:Array Oper) (k:Nat) (listed:Array Bool):Bool :=
 ex.l.all (fun st=>dep md ops k ops.size st) && (List.range ops.size).all (fun j=>!dep md ops k ops.size j || ((match ops[j]? with | some o=>o.after.any (fun e=>Region.binds md e && (e.on == k || dep md ops k ops.size e.on)) | none=>false) && !listed.getD j true))
theorem edge_spec {k:Nat} {listed:Array Bool} (h:edge ex md ops k listed=true):(∀ st ∈ ex.l,dep md ops k ops.size st=true)∧(∀ j o,ops[j]? = some o→dep md ops k ops.size j=true→∃ e ∈ o.after,Region.binds md e=true∧(e.on=k∨dep md ops k ops.size e.on=true))∧∀ j,dep md ops k ops.size j=true→listed.getD j true=false:=by
 unfold edge at h
 simp only [Bool.and_eq_true,List.all_eq_true,List.mem_range] at h
 obtain ⟨h1,h2⟩:=h
 have hlt:∀ j,dep md ops k ops.size j=true→j<ops.size:=by
  intro j hj
  rcases Nat.lt_or_ge j ops.size with h | h
  ·exact h
  ·exfalso
   generalize ops.size=f at hj
   cases f with
   | zero=>cases hj
   | succ f=>unfold dep at hj;rw [Array.getElem?_eq_none h] at hj;cases hj
 refine ⟨h1,fun j o ho hj=>?_,fun j hj=>?_⟩
 ·have:=h2 j (hlt j hj)
  rw [hj,ho] at this
  simp only [Bool.not_true,Bool.false_or,Bool.and_eq_true] at this
  obtain ⟨e,he,hb⟩:=Array.any_eq_true'.1 this.1
  simp only [Bool.and_eq_true,Bool.or_eq_true,beq_iff_eq] at hb
  exact ⟨e,he,hb.1,hb.2⟩
 ·have:=h2 j (hlt j hj)
  rw [hj] at this
  simp only [Bool.not_true,Bool.false_or,Bool.and_eq_true,Bool.not_eq_true'] at this
  exact this.2
def hybFrom (ex:Ex) (md:Region.Mode) (ops:Array Oper):List (Nat×Nat)→Array Bool→Bool
 | [],listed=>(Region.ready md ops listed).isEmpty
 | (k,0) :: rest,listed=>Region.ready md ops listed == [k] && hybFrom ex md ops rest (listed.setIfInBounds k true)
 | (k,1) :: rest,listed=>(Region.ready md ops listed).contains k && Region.free md ops listed k && edge ex md ops k listed && hybFrom ex md ops rest (listed.setIfInBounds k true)
 | (k,_+2) :: rest,listed=>(Region.ready md ops listed).contains k && Region.free md ops listed k && hybFrom ex md ops rest (listed.setIfInBounds k true)
def hybB (ex:Ex) (md:Region.Mode) (ops:Array Oper) (s:List (Nat×Nat)):Bool:=Region.noSelect ops && s.length == ops.size && hybFrom ex md ops s (Array.replicate ops.size false)
theorem GA_hyb {Q:Act→World→Prop} (hs:Region.noSelect ops=true):∀ (s:List (Nat×Nat)) (listed:Array Bool) (a:Act) (w:World),
  hybFrom ex md ops s listed=true→wpHyb ex P ops Q s a w→GA ex P md ops Q s.length listed a w
 | [],listed,a,w,hB,h=>⟨by simpa [hybFrom] using hB,h⟩
 | (k,1) :: rest,listed,a,w,hB,h=>by
  simp only [hybFrom,Bool.and_eq_true] at hB
  obtain ⟨⟨⟨hr,hf⟩,hed⟩,hB'⟩:=hB
  have hr':k ∈ Region.ready md ops listed:=by simpa using hr
  obtain ⟨_,o,ho,_⟩:=mem_ready.1 hr'
  simp only [wpHyb,ho] at h
  by_cases hw:Region.wanted o (yielded ops a.tmps)=true
  ·simp only [hw,if_true] at h
   obtain ⟨v,h1,h2⟩:=h
   exact GA_first ho (Region.noSelect_spec hs) _ (edge_spec hed).1 (edge_spec hed).2.1 rest.length listed a w (Region.free_spec ho hf) (edge_spec hed).2.2 hr' (.inl ⟨hw,h1⟩) (GA_hyb hs rest _ _ _ hB' h2)
  ·simp only [hw] at h
   exact GA_first ho (Region.noSelect_spec hs) _ (edge_spec hed).1 (edge_spec hed).2.1 rest.length listed a w (Region.free_spec ho hf) (edge_spec hed).2.2 hr' (.inr ⟨by simpa using hw,rfl⟩) (GA_hyb hs rest _ _ _ hB' h)
 | (k,n+2) :: rest,listed,a,w,hB,h=>by
  simp only [hybFrom,Bool.and_eq_true] at hB
  obtain ⟨⟨hr,hf⟩,hB'⟩:=hB
  have hr':k ∈ Region.ready md ops listed:=by simpa using hr
  obtain ⟨_,o,ho,_⟩:=mem_ready.1 hr'
  simp only [wpHyb,ho] at h
  by_cases hw:Region.wanted o (yielded ops a.tmps)=true
  ·simp only [hw,if_true] at h
   obtain ⟨v,h1,h2⟩:=h
   exact GA_firstA ho (Region.noSelect_spec hs) rest.length listed a w (Region.free_spec ho hf) hr' (fun w=>.inl ⟨hw,fun x=>h1 x.1⟩) (GA_hyb hs rest _ _ _ hB' h2)
  ·simp only [hw] at h
   exact GA_firstA ho (Region.noSelect_spec hs) rest.length listed a w (Region.free_spec ho hf) hr' (fun w=>.inr ⟨by simpa using hw,rfl⟩) (GA_hyb hs rest _ _ _ hB' h)
 | (k,0) :: rest,listed,a,w,hB,h=>by
  simp only [hybFrom,Bool.and_eq_true,beq_iff_eq] at hB
  obtain ⟨hr,hB'⟩:=hB
  intro w1 hn
  refine ⟨fun h0=>(by rw [hr] at h0;cases h0),fun i hi=>?_⟩
  rw [hr] at hi
  obtain rfl:i=k:=by simpa using hi
  have h:=h w1 hn
  unfold gOp
  cases ho:ops[i]? with
  | none=>rw [ho] at h;exact h.elim
  | some o =>
   rw [ho] at h
   simp only at h ⊢
   by_cases hw:Region.wanted o (yielded ops a.tmps)=true
   ·simp only [hw,if_true] at h ⊢
    exact wp_mono_both (fun a' w' h'=>⟨h'.1,GA_hyb hs rest _ _ _ hB' h'.2⟩) h trivial
   ·simp only [hw] at h ⊢
    exact ⟨.inr (Oth.refl _ _),GA_hyb hs rest _ _ _ hB' h⟩
structure Hyb (ex:Ex) (P:Program) (ops:Array Oper) (Q:Act→World→Prop) (s:List (Nat×Nat)) (a:Act) (w:World):Prop where
 out:wpHyb ex P ops Q s a w
theorem wp_region_hyb {id:Nat} {Q:Exit→Act→World→Prop} {a:Act} {w:World} {l:List Oper} (ex:Ex) (s:List (Nat×Nat)) (hm:P.follows .mixedOrders=true) (hB:hybB ex .any l.toArray s=true)
  (h:Hyb ex P l.toArray (fun a w=>Q .normal a w) s a w):(Code.region id l.toArray true).wp P Q a w:=by
 simp only [hybB,Bool.and_eq_true,beq_iff_eq] at hB
 obtain ⟨⟨h1,h2⟩,h3⟩:=hB
 refine wp_region_any hm (wpAny_of_GA (ex:=ex) (Q:=fun a w=>Q .normal a w) (fun _ _ h=>h) _ _ _ _ ?_)
 have:=GA_hyb (ex:=ex) (md:=.any) h1 s _ _ _ h3 h.out
 rw [h2] at this
 exact this.grow (Nx.drawn w)
theorem hyb_calm {Q:Act→World→Prop} {k:Nat} {o:Oper} {rest:List (Nat×Nat)} {a:Act} {w:World} (ho:ops[k]? = some o)
  (h:∀ K:Act→Prop,(∀ a,Hyb ex P ops Q rest a w→K a)→if Region.wanted o (yielded ops a.tmps) then calmO ex.b P o a w K else K (a.put o.dst undef)):Hyb ex P ops Q ((k,1) :: rest) a w:=by
 refine ⟨?_⟩
 simp only [wpHyb,ho]
 exact h _ (fun _ h=>h.out)
theorem hyb_pure {Q:Act→World→Prop} {k:Nat} {o:Oper} {rest:List (Nat×Nat)} {a:Act} {w:World} (ho:ops[k]? = some o)
  (h:∀ K:Act→Prop,(∀ a,Hyb ex P ops Q rest a w→K a)→if Region.wanted o (yielded ops a.tmps) then calmA P o a K else K (a.put o.dst undef)):Hyb ex P ops Q ((k,2) :: rest) a w:=by
 refine ⟨?_⟩
 simp only [wpHyb,ho]
 exact h _ (fun _ h=>h.out)
theorem hyb_alone {Q:Act→World→Prop} {k:Nat} {o:Oper} {rest:List (Nat×Nat)} {a:Act} {w:World} (ho:ops[k]? = some o)
  (h:∀ w1,Nx w w1→∀ K:Act→World→Prop,(∀ a' w',(k ∈ ex.l∨Oth ex.b w1 w')→Hyb ex P ops Q rest a' w'→K a' w')→if Region.wanted o (yielded ops a.tmps) then o.wp P a w1 K (fun _ _ _=>False) else K (a.put o.dst undef) w1):Hyb ex P ops Q ((k,0) :: rest) a w:=by
 refine ⟨?_⟩
 intro w1 hn
 simp only [ho]
 have:=h w1 hn (fun a' w'=>(k ∈ ex.l∨Oth ex.b w1 w')∧wpHyb ex P ops Q rest a' w') (fun a' w' h1 h2=>⟨h1,h2.out⟩)
 split
 ·rename_i hw;simpa [hw] using this
 ·rename_i hw;simp [hw] at this;exact this.2
theorem hyb_nil {Q:Act→World→Prop} {a:Act} {w:World} (h:∀ w1,Nx w w1→Q a w1):Hyb ex P ops Q [] a w:=⟨h⟩
end
attribute [go_sem] calmA calmO
end EO
end Go.Proofs.YtnfelopknfdpfaaDoor
