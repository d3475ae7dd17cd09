/- value's newChecker, newRecord. -/
import Derived.Test.YtnfelopknfdpfaaDoorG01
set_option linter.unusedVariables false
set_option linter.unusedSimpArgs false
set_option linter.unnecessarySimpa false
namespace Go.Proofs.YtnfelopknfdpfaaDoor
open Go.RowKit
set_option maxRecDepth 100000 in
set_option maxHeartbeats 1600000 in
theorem newChecker_any (w:World) (s0 s1 s2:Value) (h0:IsSlv s0) (h1:IsSlv s1) (h2:IsSlv s2) :
  Calls Tryd.prog 12 #[.agg #[s0,s1,s2]] w fun e w'=>∃ gc gm,e = .returned (.pointer (some ⟨gc,0,none⟩))∧Chk w.heap.size w'.heap.size gc gm s0 s1 s2 0 [] w'∧Nx w w':=by
 obtain ⟨A0,u0,c0,rfl⟩:=h0
 obtain ⟨A1,u1,c1,rfl⟩:=h1
 obtain ⟨A2,u2,c2,rfl⟩:=h2
 obtain ⟨g1,hg1⟩:∃ g,w.heap.size=g:=⟨_,rfl⟩
 obtain ⟨gm,hgm⟩:∃ g,g1+1=g:=⟨_,rfl⟩
 obtain ⟨gc,hgc⟩:∃ g,gm+1=g:=⟨_,rfl⟩
 obtain ⟨w1,hw1⟩:∃ x,w.alloc (.cells #[.slice A0 u0 c0,.slice A1 u1 c1,.slice A2 u2 c2] 32)=x:=⟨_,rfl⟩
 have hz1:w1.heap.size=gm:=by rw [← hw1];simp;omega
 obtain ⟨w2,hw2⟩:∃ x,w1.alloc (.map #[] 0)=x:=⟨_,rfl⟩
 have hz2:w2.heap.size=gc:=by rw [← hw2];simp;omega
 obtain ⟨w3,hw3⟩:∃ x,w2.alloc (.cells #[.slice A0 u0 c0,.slice A1 u1 c1,.slice A2 u2 c2,.map (some gm),.int .i64 0] 73)=x:=⟨_,rfl⟩
 have hz3:w3.heap.size=gc+1:=by rw [← hw3];simp;omega
 have hb1:Blk w1 g1 g1 #[.slice A0 u0 c0,.slice A1 u1 c1,.slice A2 u2 c2] 32:=by rw [← hw1,← hg1];exact Blk.new w _ _
 have hb3:Blk w3 gc gc #[.slice A0 u0 c0,.slice A1 u1 c1,.slice A2 u2 c2,.map (some gm),.int .i64 0] 73:=by rw [← hw3,← hz2];exact Blk.new w2 _ _
 have hn1:Nx w w1:=by rw [← hw1];exact nx0 _ _
 have hn2:Nx w1 w2:=by rw [← hw2];exact nx0 _ _
 have hn3:Nx w2 w3:=by rw [← hw3];exact nx0 _ _
 have hmp:MpG tv ptO okT w2 gm ([]:List (List UInt8×Option Nat)):=by rw [← hw2,← hz1];exact MpG.nil_ _ _ _ w1
 have HR:Hid (Chk w.heap.size w3.heap.size gc gm (.slice A0 u0 c0) (.slice A1 u1 c1) (.slice A2 u2 c2) 0 [] w3) :=
  ⟨by omega,by omega,by omega,by omega,by omega,Nat.le_refl _,hb3.less (by omega),hmp.nx hn3,fun x hx=>by cases hx⟩
 have HNX:=Lib.hid (hn1.trans (hn2.trans hn3))
 have a0:w1.cell? ⟨g1,0,none⟩=some (.slice A0 u0 c0):=hb1.cell 0
 have a1:w1.cell? ⟨g1,1,none⟩=some (.slice A1 u1 c1):=hb1.cell 1
 have a2:w1.cell? ⟨g1,2,none⟩=some (.slice A2 u2 c2):=hb1.cell 2
 have hmm:=@run_makeMap Tryd.prog
 clear hb1 hb3 hn1 hn2 hn3 hmp hz3
 go_enter Tryd.func12,Tryd.ntmps12
 go_wp2_with fail
 go_ret
 exact ⟨gc,gm,rfl,HR.out,HNX.out⟩
def plF:Nat→List Int→List (Int×Int)
 | _,[]=>[]
 | i,x :: r=>(x,(i:Int)) :: plF (i+1) r
theorem plF_app:∀ (i:Nat) (l:List Int) (x:Int),plF i (l++[x])=plF i l++[(x,((i+l.length:Nat):Int))]
 | i,[],x=>rfl
 | i,y :: r,x=>by
  show (y,(i:Int)) :: plF (i+1) (r++[x])=_
  rw [plF_app (i+1) r x,List.length_cons,show i+1+r.length=i+(r.length+1) by omega];rfl
theorem plF_keys:∀ (i:Nat) (l:List Int),(plF i l).map (·.1)=l
 | _,[]=>rfl
 | i,x :: r=>by show x :: (plF (i+1) r).map (·.1)=_;rw [plF_keys]
def RecS (w:World) (B gr:Nat) (K:Int) (nm:List UInt8) (fl:Value) (fs:List FldS):Prop :=
 ∃ gm,B≤gm∧gr≠gm∧Blk w B gr #[.int .i64 K,.string ⟨nm.toArray⟩,fl,.map (some gm)] 90∧MpG izV izV okZ w gm (plF 0 (fs.map (·.id)))
theorem RecS.nx {w w':World} {B gr:Nat} {K:Int} {nm:List UInt8} {fl:Value} {fs:List FldS} (h:RecS w B gr K nm fl fs) (hn:Nx w w'):RecS w' B gr K nm fl fs:=by
 obtain ⟨gm,h1,h2,h3,h4⟩:=h
 exact ⟨gm,h1,h2,h3.below hn,h4.nx hn⟩
theorem RecS.fr {W B:Nat} {w w':World} {gr:Nat} {K:Int} {nm:List UInt8} {fl:Value} {fs:List FldS} (h:RecS w B gr K nm fl fs) (hn:FrW W B w w'):RecS w' B gr K nm fl fs:=by
 obtain ⟨gm,h1,h2,h3,h4⟩:=h
 exact ⟨gm,h1,h2,hn.blk h3 h3.1,hn.mpb h4 h1⟩
set_option maxRecDepth 100000 in
set_option maxHeartbeats 6400000 in
theorem newRecord_any (w:World) (K:Int) (nm:List UInt8) (fl:Value) (fs:List FldS) (hf:RdFs w fl fs) (hid:∀ f ∈ fs,okZ f.id) :
  Calls Tryd.prog 17 #[.agg #[.int .i64 K,.string ⟨nm.toArray⟩,fl]] w fun e w'=>∃ gr,e = .returned (.pointer (some ⟨gr,0,none⟩))∧RecS w' w.heap.size gr K nm fl fs∧Nx w w':=by
 obtain ⟨⟨fA,fc,rfl,hf1,hf2,hf3⟩,hf4,hf5,hf6⟩:=hf
 obtain ⟨n,hn⟩:∃ n,fs.length=n:=⟨_,rfl⟩
 rw [hn] at hf1 hf4 ⊢
 have HN:=Lib.hid hn
 have HF:=Lib.hid hf3
 have HP:=Lib.hid hf5
 have HS:=Lib.hid hf6
 have HID:=Lib.hid hid
 obtain ⟨g1,hg1⟩:∃ g,w.heap.size=g:=⟨_,rfl⟩
 obtain ⟨gm,hgm⟩:∃ g,g1+1=g:=⟨_,rfl⟩
 obtain ⟨gr,hgr⟩:∃ g,gm+1=g:=⟨_,rfl⟩
 obtain ⟨w1,hw1⟩:∃ x,w.alloc (.cells #[.int .i64 K,.string ⟨nm.toArray⟩,.slice fA n fc] 48)=x:=⟨_,rfl⟩
 have hz1:w1.heap.size=gm:=by rw [← hw1];simp;omega
 obtain ⟨w2,hw2⟩:∃ x,w1.alloc (.map #[] 0)=x:=⟨_,rfl⟩
 have hz2:w2.heap.size=gr:=by rw [← hw2];simp;omega
 obtain ⟨w3,hw3⟩:∃ x,w2.alloc (.cells #[.int .i64 K,.string ⟨nm.toArray⟩,.slice fA n fc,.map (some gm)] 90)=x:=⟨_,rfl⟩
 have hb1:Blk w1 g1 g1 #[.int .i64 K,.string ⟨nm.toArray⟩,.slice fA n fc] 48:=by rw [← hw1,← hg1];exact Blk.new w _ _
 have hb3:Blk w3 gr gr #[.int .i64 K,.string ⟨nm.toArray⟩,.slice fA n fc,.map (some gm)] 90:=by rw [← hw3,← hz2];exact Blk.new w2 _ _
 have hn1:Nx w w1:=by rw [← hw1];exact nx0 _ _
 have hn2:Nx w1 w2:=by rw [← hw2];exact nx0 _ _
 have hn3:Nx w2 w3:=by rw [← hw3];exact nx0 _ _
 have hmp:MpG izV izV okZ w2 gm ([]:List (Int×Int)):=by rw [← hw2,← hz1];exact MpG.nil_ _ _ _ w1
 have HNX:=Lib.hid (hn1.trans (hn2.trans hn3))
 have HB3:Hid (Blk w3 w.heap.size gr #[.int .i64 K,.string ⟨nm.toArray⟩,.slice fA n fc,.map (some gm)] 90):=hb3.less (by omega)
 have HM3:=Lib.hid (hmp.nx hn3)
 have HG:Hid (w.heap.size≤gm∧gm<gr∧w.heap.size≤gr):=by unfold Hid;omega
 have a0:w1.cell? ⟨g1,0,none⟩=some (.int .i64 K):=hb1.cell 0
 have a1:w1.cell? ⟨g1,1,none⟩=some (.string ⟨nm.toArray⟩):=hb1.cell 1
 have a2:w1.cell? ⟨g1,2,none⟩=some (.slice fA n fc):=hb1.cell 2
 have a3:w3.cell? ⟨g1,2,none⟩=some (.slice fA n fc):=((hb1.below hn2).below hn3).cell 2
 have hmm:=@run_makeMap Tryd.prog
 clear hb1 hb3 hn1 hn2 hn3 hmp hf3 hf5 hf6 hid hn
 go_enter Tryd.func17,Tryd.ntmps17
 go_upto_region 2 with (fail)
 clear hw1 hw2 hw3 hg1 hgm hgr hz1 hz2 hmm a0 a1
 go_wp2_with fail
 clear a2 a3
 go_loopw [15] (fun v wr=>∃ i:Nat,v = .int .i64 (i:Int)∧i≤n∧Hid (Nx w wr)∧Hid (Blk wr w.heap.size gr #[.int .i64 K,.string ⟨nm.toArray⟩,.slice fA n fc,.map (some gm)] 90)∧Hid (MpG izV izV okZ wr gm (plF 0 ((fs.map (·.id)).take i)))) (fun v _=>(n - intOf v).toNat)
 case atStart=>exact ⟨0,rfl,Nat.zero_le _,HNX.out,HB3.out,HM3.out⟩
 case round =>
  clear HNX HB3 HM3
  obtain ⟨i,rfl,hi,HNX,HB,HM⟩:=hrel
  have hi9:(i:Int)≤20:=by omega
  by_cases hlt:i<n
  ·have q1:decide ((i:Int)<(n:Int))=true:=decide_eq_true (by omega)
   have q2:(i:Int)<(n:Int):=by omega
   have q3:(0:Int)≤(i:Int):=by omega
   have hif:i<fs.length:=by rw [HN.out];exact hlt
   obtain ⟨g,off,rfl,hg,hc⟩:=HF.out (by omega)
   obtain ⟨f,hfe⟩:∃ f,fs[i]=f:=⟨_,rfl⟩
   have hfm:f ∈ fs:=hfe ▸ List.getElem_mem hif
   obtain ⟨-,⟨lA,lu,lc,hl⟩,⟨dA,du,dc,hd⟩⟩:=HS.out f hfm
   have hok:=HID.out f hfm
   have hcc:∀ q,q<10→wr.cell? ⟨g,off+i * 10+q,none⟩=(fldA f)[q]?:=fun q hq=>by
    rw [← hfe,← hc i hif q hq]
    exact HNX.out.cell (p:=⟨g,off+i * 10+q,none⟩) hg
   have hnew:∀ x ∈ plF 0 ((fs.map (·.id)).take i),x.1≠f.id:=fun x hx e=>by
    have h1:x.1 ∈ (fs.map (·.id)).take i:=by rw [← plF_keys 0 ((fs.map (·.id)).take i)];exact List.mem_map.2 ⟨x,hx,rfl⟩
    obtain ⟨j,hj,hje⟩:=List.getElem_of_mem h1
    rw [List.length_take,List.length_map] at hj
    rw [List.getElem_take] at hje
    have h2:=List.pairwise_iff_getElem.1 HP.out j i (by rw [List.length_map];omega) (by rw [List.length_map];omega) (by omega)
    rw [hje,List.getElem_map,hfe] at h2
    omega
   have htake:(fs.map (·.id)).take (i+1)=(fs.map (·.id)).take i++[f.id]:=by
    rw [List.take_succ_eq_append_getElem (by rw [List.length_map];exact hif),List.getElem_map,hfe]
   have hlen:((fs.map (·.id)).take i).length=i:=by rw [List.length_take,List.length_map];omega
   have hput:putG (plF 0 ((fs.map (·.id)).take i)) f.id (i:Int)=plF 0 ((fs.map (·.id)).take (i+1)):=by
    rw [putG_none _ hnew,htake,plF_app,hlen,Nat.zero_add]
   obtain ⟨fid,fr,fty,fnm,fhi,⟨fk,fn,fss,fll,fii⟩⟩:=f
   dsimp only at hl hd hok hput hnew
   subst hl hd
   have c0:wr.cell? ⟨g,off+i * 10,none⟩=some (.int .i64 fid):=hcc 0 (by decide)
   have c1:wr.cell? ⟨g,off+i * 10+1,none⟩=some (.int .i64 fr):=hcc 1 (by decide)
   have c2:wr.cell? ⟨g,off+i * 10+2,none⟩=some (.string ⟨fty.toArray⟩):=hcc 2 (by decide)
   have c3:wr.cell? ⟨g,off+i * 10+3,none⟩=some (.string ⟨fnm.toArray⟩):=hcc 3 (by decide)
   have c4:wr.cell? ⟨g,off+i * 10+4,none⟩=some (.bool fhi):=hcc 4 (by decide)
   have c5:wr.cell? ⟨g,off+i * 10+5,none⟩=some (.int .i64 (fk:Int)):=hcc 5 (by decide)
   have c6:wr.cell? ⟨g,off+i * 10+6,none⟩=some (.int .i64 fn):=hcc 6 (by decide)
   have c7:wr.cell? ⟨g,off+i * 10+7,none⟩=some (.string ⟨fss.toArray⟩):=hcc 7 (by decide)
   have c8:wr.cell? ⟨g,off+i * 10+8,none⟩=some (.slice lA lu lc):=hcc 8 (by decide)
   have c9:wr.cell? ⟨g,off+i * 10+9,none⟩=some (.slice dA du dc):=hcc 9 (by decide)
   obtain ⟨gf,hgf⟩:∃ g,wr.heap.size=g:=⟨_,rfl⟩
   obtain ⟨w4,hw4⟩:∃ x,wr.alloc (.cells #[.int .i64 fid,.int .i64 fr,.string ⟨fty.toArray⟩,.string ⟨fnm.toArray⟩,.bool fhi,.int .i64 (fk:Int),.int .i64 fn,.string ⟨fss.toArray⟩,.slice lA lu lc,.slice dA du dc] 50)=x:=⟨_,rfl⟩
   have hb4:Blk w4 gf gf #[.int .i64 fid,.int .i64 fr,.string ⟨fty.toArray⟩,.string ⟨fnm.toArray⟩,.bool fhi,.int .i64 (fk:Int),.int .i64 fn,.string ⟨fss.toArray⟩,.slice lA lu lc,.slice dA du dc] 50:=by rw [← hw4,← hgf];exact Blk.new wr _ _
   have hn4:Nx wr w4:=by rw [← hw4];exact nx0 wr _
   have HB4:=Lib.hid hb4
   have HN4:=Lib.hid hn4
   have HBR:=Lib.hid (HB.out.below hn4)
   have HM4:=Lib.hid (HM.out.nx hn4)
   have HPUT:=Lib.hid hput
   have HOK:=Lib.hid hok
   have HLT:=Lib.hid hlt
   have d0:w4.cell? ⟨gf,0,none⟩=some (.int .i64 fid):=hb4.cell 0
   have r3:w4.cell? ⟨gr,3,none⟩=some (.map (some gm)):=HBR.out.cell 3
   obtain ⟨w5,hw5⟩:∃ x,w4.drew=x:=⟨_,rfl⟩
   have hn5:Nx w4 w5:=by rw [← hw5];exact Nx.drawn w4
   have hm5:MpG izV izV okZ w5 gm (plF 0 ((fs.map (·.id)).take i)):=HM4.out.nx hn5
   have hlk:(Instr.lookup 88 (.map (some gm)) (.int .i64 fid) true).run Tryd.prog w4.drew = .ok (.tuple #[.int .i64 0,.bool false]) w4.drew:=by
    have h:=(mapZ.look hm5 fid hok).2
    rw [getG_none hnew] at h
    rw [hw5]
    exact h
   obtain ⟨w6,hw6⟩:∃ x,w5.drew=x:=⟨_,rfl⟩
   have hn6:Nx w5 w6:=by rw [← hw6];exact Nx.drawn w5
   have hm6:MpG izV izV okZ w6 gm (plF 0 ((fs.map (·.id)).take i)):=hm5.nx hn6
   obtain ⟨o,hpr,hpm⟩:=mapZ.put hm6 fid (i:Int) hok
   rw [hput] at hpm
   have HO:Hid (Oth gm w6 (ChangeMaps.setBlock w6 gm o)):=setB_oth _ _ _
   obtain ⟨w7,hw7⟩:∃ x,ChangeMaps.setBlock w6 gm o=x:=⟨_,rfl⟩
   rw [hw7] at hpr hpm HO
   replace hpr:(Instr.mapUpdate 88 (.map (some gm)) (.int .i64 fid) (.int .i64 (i:Int))).run Tryd.prog w5.drew = .ok () w7:=by rw [hw6];exact hpr
   have HPM:=Lib.hid hpm
   have HN7:Hid (Nx w w7):=Oth.to HO.out (((HNX.out.trans hn4).trans hn5).trans hn6) HG.out.1
   have HB7:Hid (Blk w7 w.heap.size gr #[.int .i64 K,.string ⟨nm.toArray⟩,.slice (some ⟨g,off,none⟩) n fc,.map (some gm)] 90) :=
    HO.out.blk ((HBR.out.below hn5).below hn6) (by have:=HG.out;omega)
   have d05:w5.cell? ⟨gf,0,none⟩=some (.int .i64 fid):=(hb4.below hn5).cell 0
   have r35:w5.cell? ⟨gr,3,none⟩=some (.map (some gm)):=(HBR.out.below hn5).cell 3
   have HW5:=Lib.hid hw5
   clear hc hcc hg hif hfe hfm hb4 hn4 hnew htake hlen hput hok hlt hm5 hm6 hpm hw7 hn5 hn6 hw5 hw6
   go_upto_region 5 with (fail)
   try rw [hw4]
   clear hw4 hgf c0 c1 c2 c3 c4 c5 c6 c7 c8 c9
   go_region
   rw [HW5.out]
   clear d0 r3 hlk
   go_upto_region 7 with (fail)
   go_region
   go_wp2_with fail
   go_roundw
   case rel=>exact ⟨i+1,by go_num,HLT.out,HN7.out,HB7.out,HPM.out⟩
   case measure=>have:=HLT.out;simp [intOf];omega
  ·have q1:decide ((i:Int)<(n:Int))=false:=decide_eq_false (by omega)
   have q2:¬ (i:Int)<(n:Int):=by omega
   obtain rfl:i=n:=by omega
   have HM2:Hid (MpG izV izV okZ wr gm (plF 0 (fs.map (·.id)))):=by have h:=HM.out;rw [List.take_of_length_le (by rw [List.length_map,HN.out];exact Nat.le_refl _)] at h;exact h
   clear hlt HM
   go_wp2_with fail
   go_ret
   exact ⟨gr,rfl,⟨gm,HG.out.1,by have:=HG.out;omega,HB.out,HM2.out⟩,HNX.out⟩
end Go.Proofs.YtnfelopknfdpfaaDoor
