/- The contract of scope's hasMember. The contract of scope's findMember. -/
import Derived.Test.YtpfecpcgdfbekaaGreatDoorG33
set_option linter.unusedVariables false
set_option linter.unusedSimpArgs false
set_option linter.unnecessarySimpa false
namespace Go.Proofs.YtpfecpcgdfbekaaGreatDoor
open Go.RowKit
set_option maxRecDepth 100000 in
set_option maxHeartbeats 1600000 in
theorem hasM1_any (w:World) (x:Mem) (gq:Nat) (m:List UInt8) (hq:w.cell? ⟨gq,0,none⟩=some (.string ⟨m.toArray⟩)) (hl:gq<w.heap.size) :
  Calls Tryz.prog 67 #[.agg (memA x),.pointer (some ⟨gq,0,none⟩)] w fun e w'=>e = .returned (.bool (decide (x.nm=m)))∧Nx w w':=by
 obtain ⟨mn,mh,mi⟩:=x
 obtain ⟨B,hB⟩:∃ B,(mn == m)=B:=⟨_,rfl⟩
 have hB2:decide (mn=m)=B:=by rw [← hB,Bool.eq_iff_iff];simp
 obtain ⟨gx,hgx⟩:∃ g,w.heap.size=g:=⟨_,rfl⟩
 obtain ⟨w1,hw⟩:∃ w1,w.alloc (.cells #[.string ⟨mn.toArray⟩,.bool mh,.int .i64 mi] 153)=w1:=⟨_,rfl⟩
 have hbx:Blk w1 gx gx #[.string ⟨mn.toArray⟩,.bool mh,.int .i64 mi] 153:=by rw [← hw,← hgx];exact Blk.new w _ _
 have HN1:Hid (Nx w w1):=by unfold Hid;rw [← hw];exact nx0 w _
 have q0:w1.cell? ⟨gq,0,none⟩=some (.string ⟨m.toArray⟩):=(HN1.out.cell (p:=⟨gq,0,none⟩) hl).trans hq
 have x0:w1.cell? ⟨gx,0,none⟩=some (.string ⟨mn.toArray⟩):=hbx.cell 0
 show Calls _ _ #[.agg #[.string ⟨mn.toArray⟩,.bool mh,.int .i64 mi],.pointer (some ⟨gq,0,none⟩)] _ _
 dsimp only
 rw [hB2]
 clear hbx hq hl hB2
 go_enter Tryz.func67,Tryz.ntmps67
 go_wp2_with fail
 go_ret
 exact ⟨rfl,HN1.out⟩
def memN:List Mem→List UInt8→Option Nat
 | [],_=>none
 | x :: r,t=>if x.nm=t then some 0 else (memN r t).map (· + 1)
def memI (l:List Mem) (t:List UInt8):Int:=match memN l t with
 | none=>-1
 | some i=>(i:Int)
theorem memN_none:∀ {l:List Mem} {t:List UInt8},(∀ i (h:i<l.length),l[i].nm≠t)→memN l t=none
 | [],_,_=>rfl
 | x :: r,t,h=>by
  unfold memN
  have h0:x.nm≠t:=h 0 (by simp)
  rw [if_neg h0,memN_none fun i hi=>h (i+1) (by simpa using hi)];rfl
theorem memN_at:∀ {l:List Mem} {t:List UInt8} (i:Nat) (hi:i<l.length),l[i].nm=t→(∀ j (h:j<i),l[j].nm≠t)→memN l t=some i
 | x :: r,t,0,_,e,_=>if_pos e
 | x :: r,t,i+1,hi,e,h=>by
  unfold memN
  have h0:x.nm≠t:=h 0 (by omega)
  rw [if_neg h0,memN_at i (by simpa using hi) e fun j hj=>h (j+1) (by omega)];rfl
set_option maxRecDepth 100000 in
set_option maxHeartbeats 1600000 in
theorem midx_any (w:World) (A:Option Addr) (n c:Nat) (xs:List Mem) (hn:xs.length=n) (hrd:RdS memA 3 w A xs) (hn9:n≤1000) (gq:Nat) (l:List UInt8) (hq:w.cell? ⟨gq,0,none⟩=some (.string ⟨l.toArray⟩)) (hgq:gq<w.heap.size) :
  Calls Tryz.prog 92 #[.slice A n c,.func (.func 67) #[] #[.pointer (some ⟨gq,0,none⟩)]] w fun e w'=>e = .returned (.int .i64 (memI xs l))∧Nx w w':=by
 have HRD:=Lib.hid hrd
 have HN:=Lib.hid hn
 have HQ:=Lib.hid hq
 have HGQ:=Lib.hid hgq
 obtain ⟨I,hI⟩:∃ I,Hid (memI xs l=I):=⟨_,rfl⟩
 rw [hI.out]
 clear hrd hn hq hgq
 go_enter Tryz.func92,Tryz.ntmps92
 go_wp2_with fail
 go_loopw [8] (fun v wr=>∃ j:Nat,v = .int .i64 j∧j≤n∧Nx w wr∧Hid (∀ m (h:m<j) (hm:m<xs.length),xs[m].nm≠l)) (fun v _=>(n - intOf v).toNat)
 case atStart=>exact ⟨0,rfl,Nat.zero_le _,Nx.refl _,fun m h=>absurd h (by omega)⟩
 case round =>
  obtain ⟨j,rfl,hj,hnx,HNO⟩:=hrel
  have HNX:=Lib.hid hnx
  clear hnx
  have hj9:(j:Int)≤1000:=by omega
  by_cases hlt:j<n
  ·have q1:decide ((j:Int)<(n:Int))=true:=decide_eq_true (by omega)
   have q2:(j:Int)<(n:Int):=by omega
   have hjx:j<xs.length:=by rw [HN.out];exact hlt
   obtain ⟨g,rfl,hg,hc⟩:=HRD.out (by omega)
   obtain ⟨⟨mn,mh,mi⟩,hy⟩:∃ y,xs[j]=y:=⟨_,rfl⟩
   have hcell:∀ q,q<3→wr.cell? ⟨g,j * 3+q,none⟩=(memA ⟨mn,mh,mi⟩)[q]?:=fun q hq=>by
    rw [← hy,← hc j hjx q hq]
    exact HNX.out.cell (p:=⟨g,j * 3+q,none⟩) hg
   have e0:wr.cell? ⟨g,j * 3,none⟩=some (.string ⟨mn.toArray⟩):=hcell 0 (by decide)
   have e1:wr.cell? ⟨g,j * 3+1,none⟩=some (.bool mh):=hcell 1 (by decide)
   have e2:wr.cell? ⟨g,j * 3+2,none⟩=some (.int .i64 mi):=hcell 2 (by decide)
   have HLT:=Lib.hid hlt
   have HCA:=hasM1_any wr ⟨mn,mh,mi⟩ gq l ((HNX.out.cell (p:=⟨gq,0,none⟩) HGQ.out).trans HQ.out) (Nat.lt_of_lt_of_le HGQ.out HNX.out.size)
   rw [show memA ⟨mn,mh,mi⟩=#[.string ⟨mn.toArray⟩,.bool mh,.int .i64 mi] from rfl] at HCA
   dsimp only at HCA
   by_cases hyl:mn=l
   ·rw [decide_eq_true hyl] at HCA
    have HC2:=Lib.hid HCA
    have HX:Hid (I=(j:Int)):=by
     unfold Hid;rw [← hI.out];unfold memI
     rw [memN_at j hjx (by rw [hy];exact hyl) fun m hm=>HNO.out m hm (by omega)]
    clear hy hc hg hjx hyl hcell HCA
    go_wp2_with fail
    refine HC2.out.mono ?_;rintro e w4 ⟨rfl,hn4⟩
    go_wp2_with fail
    go_ret
    exact ⟨by rw [HX.out];rfl,HNX.out.trans hn4⟩
   ·rw [decide_eq_false hyl] at HCA
    have HC2:=Lib.hid HCA
    have HNO2:Hid (∀ m (h:m<j+1) (hm:m<xs.length),xs[m].nm≠l):=by
     intro m h hm
     rcases Nat.lt_or_ge m j with h2 | h2
     ·exact HNO.out m h2 hm
     ·obtain rfl:m=j:=by omega
      rw [hy];exact hyl
    clear hy hc hg hjx hyl hcell HCA
    go_wp2_with fail
    refine HC2.out.mono ?_;rintro e w4 ⟨rfl,hn4⟩
    have HN4:=Lib.hid (HNX.out.trans hn4)
    clear hn4
    go_wp2_with fail
    go_roundw
    case rel=>exact ⟨j+1,by go_num,HLT.out,HN4.out,HNO2⟩
    case measure=>have:=HLT.out;simp [intOf];omega
  ·have q1:decide ((j:Int)<(n:Int))=false:=decide_eq_false (by omega)
   have q2:¬ (j:Int)<(n:Int):=by omega
   have HX:Hid (I = -1):=by
    unfold Hid;rw [← hI.out];unfold memI
    rw [memN_none fun m hm=>HNO.out m (by have:=HN.out;omega) hm]
   clear hlt
   go_wp2_with fail
   go_ret
   exact ⟨by rw [HX.out];rfl,HNX.out⟩
set_option maxRecDepth 100000 in
set_option maxHeartbeats 1600000 in
theorem mcont_any (w:World) (A:Option Addr) (n c:Nat) (xs:List Mem) (hn:xs.length=n) (hrd:RdS memA 3 w A xs) (hn9:n≤1000) (gq:Nat) (l:List UInt8) (hq:w.cell? ⟨gq,0,none⟩=some (.string ⟨l.toArray⟩)) (hgq:gq<w.heap.size) :
  Calls Tryz.prog 66 #[.slice A n c,.func (.func 67) #[] #[.pointer (some ⟨gq,0,none⟩)]] w fun e w'=>e = .returned (.bool (memN xs l).isSome)∧Nx w w':=by
 have HC:=Lib.hid (midx_any w A n c xs hn hrd hn9 gq l hq hgq)
 have hb:decide ((0:Int)≤memI xs l)=(memN xs l).isSome:=by
  unfold memI
  cases memN xs l with
  | none=>rfl
  | some i=>exact decide_eq_true (by show (0:Int)≤(i:Int);omega)
 obtain ⟨I,hI⟩:∃ I,memI xs l=I:=⟨_,rfl⟩
 obtain ⟨B,hB⟩:∃ B,(memN xs l).isSome=B:=⟨_,rfl⟩
 rw [hI] at HC hb
 rw [hB] at hb ⊢
 clear hrd hI hB hn hn9 hq hgq
 go_enter Tryz.func66,Tryz.ntmps66
 go_wp2_with fail
 refine HC.out.mono ?_;rintro e w' ⟨rfl,hn⟩
 go_wp2_with fail
 go_ret
 exact ⟨rfl,hn⟩
def hasMP (d:Dfn) (m:List UInt8):Bool:=decide (d.k=2) && (memN d.mems m).isSome
set_option maxRecDepth 100000 in
set_option maxHeartbeats 3200000 in
theorem hasMember_any (w:World) (x:DfnS) (d:Dfn) (hx:RD w (Fm 0) x d) (hok:dfnB d=true) (m:List UInt8) :
  Calls Tryz.prog 48 #[.agg (dfnA x),.string ⟨m.toArray⟩] w fun e w'=>e = .returned (.bool (hasMP d m))∧Nx w w':=by
 have hml:d.mems.length≤1000:=by
  unfold dfnB at hok
  simp only [Bool.and_eq_true,decide_eq_true_eq] at hok
  exact hok.1.2
 obtain ⟨dk,dn,dt,⟨xk,xn,xd,s,xl⟩,xf,xm,de,xt⟩:=x
 obtain ⟨⟨zA,zu,zc,hxl⟩,⟨fA2,fu,fc2,hxf⟩,-,⟨tA,tu,tc,hxt⟩⟩:=rd_sl hx
 have hk:dk=d.k:=hx.1
 obtain ⟨mA,mc,ms,hxm,hmx,-,-,hrd,hall⟩:=hx.2.2.2.2.2.1.sl memA_size
 dsimp only at hxl hxf hxm hxt
 obtain rfl:ms=d.mems:=List.ext_getElem hmx (fun i h1 h2=>hall.at_ i h1 h2)
 obtain ⟨M,hM⟩:∃ M,d.mems.length=M:=⟨_,rfl⟩
 rw [hM] at hxm hml
 subst hxl hxf hxm hxt
 have HRD:=Lib.hid hrd
 have HM:=Lib.hid hM
 have HML:=Lib.hid hml
 obtain ⟨gx,hgx⟩:∃ g,w.heap.size=g:=⟨_,rfl⟩
 obtain ⟨gq,hgq⟩:∃ g,gx+1=g:=⟨_,rfl⟩
 obtain ⟨w1,hw⟩:∃ w1,(w.alloc (.cells #[.int .i64 (dk:Int),.string ⟨dn.toArray⟩,.string ⟨dt.toArray⟩,.int .i64 (xk:Int),.int .i64 xn,.int .u64 (xd:Int),.string ⟨s.toArray⟩,.slice zA zu zc,.slice fA2 fu fc2,.slice mA M mc,.string ⟨de.toArray⟩,.slice tA tu tc] 56)).alloc (.cells #[.string ⟨m.toArray⟩] 9)=w1:=⟨_,rfl⟩
 have HBX:Hid (Blk w1 gx gx #[.int .i64 (dk:Int),.string ⟨dn.toArray⟩,.string ⟨dt.toArray⟩,.int .i64 (xk:Int),.int .i64 xn,.int .u64 (xd:Int),.string ⟨s.toArray⟩,.slice zA zu zc,.slice fA2 fu fc2,.slice mA M mc,.string ⟨de.toArray⟩,.slice tA tu tc] 56):=by
  unfold Hid;rw [← hw,← hgx];exact (Blk.new w _ _).alloc _
 have HBQ:Hid (Blk w1 gx gq #[.string ⟨m.toArray⟩] 9):=by
  unfold Hid;rw [← hw,← hgq,← hgx,show w.heap.size+1=(w.alloc (.cells #[.int .i64 (dk:Int),.string ⟨dn.toArray⟩,.string ⟨dt.toArray⟩,.int .i64 (xk:Int),.int .i64 xn,.int .u64 (xd:Int),.string ⟨s.toArray⟩,.slice zA zu zc,.slice fA2 fu fc2,.slice mA M mc,.string ⟨de.toArray⟩,.slice tA tu tc] 56)).heap.size from by simp]
  exact (Blk.new (w.alloc (.cells #[.int .i64 (dk:Int),.string ⟨dn.toArray⟩,.string ⟨dt.toArray⟩,.int .i64 (xk:Int),.int .i64 xn,.int .u64 (xd:Int),.string ⟨s.toArray⟩,.slice zA zu zc,.slice fA2 fu fc2,.slice mA M mc,.string ⟨de.toArray⟩,.slice tA tu tc] 56)) _ _).less (by simp)
 have HN1:Hid (Nx w w1):=by unfold Hid;rw [← hw];exact Nx.al (nx0 w _) _
 have HCA:=Lib.hid (mcont_any w1 mA M mc d.mems HM.out (HRD.out.nx HN1.out) HML.out gq m (HBQ.out.cell 0) HBQ.out.lt)
 have x0:w1.cell? ⟨gx,0,none⟩=some (.int .i64 (dk:Int)):=HBX.out.cell 0
 have x9:w1.cell? ⟨gx,9,none⟩=some (.slice mA M mc):=HBX.out.cell 9
 obtain ⟨B,hB⟩:∃ B,(memN d.mems m).isSome=B:=⟨_,rfl⟩
 rw [hB] at HCA
 have HBE:=Lib.hid hB
 have HKE:=Lib.hid hk
 show Calls _ _ #[.agg #[.int .i64 (dk:Int),.string ⟨dn.toArray⟩,.string ⟨dt.toArray⟩,.int .i64 (xk:Int),.int .i64 xn,.int .u64 (xd:Int),.string ⟨s.toArray⟩,.slice zA zu zc,.slice fA2 fu fc2,.slice mA M mc,.string ⟨de.toArray⟩,.slice tA tu tc],.string ⟨m.toArray⟩] _ _
 clear hx hok hall hrd hmx hB hk hM hml
 by_cases h2:dk=2
 ·have b1:((dk:Int) == 2)=true:=by rw [beq_iff_eq];omega
  have HX:Hid (hasMP d m=B):=by unfold Hid hasMP;rw [← HKE.out,HBE.out,decide_eq_true h2];rfl
  rw [HX.out]
  clear h2
  go_enter Tryz.func48,Tryz.ntmps48
  go_wp2_with fail
  refine HCA.out.mono ?_;rintro e w' ⟨rfl,hn⟩
  go_wp2_with fail
  go_ret
  exact ⟨rfl,HN1.out.trans hn⟩
 ·have b1:((dk:Int) == 2)=false:=by rw [beq_eq_false_iff_ne];omega
  have HX:Hid (hasMP d m=false):=by unfold Hid hasMP;rw [← HKE.out,decide_eq_false h2];rfl
  rw [HX.out]
  clear h2
  go_enter Tryz.func48,Tryz.ntmps48
  go_wp2_with fail
  go_ret
  exact ⟨rfl,HN1.out⟩
end Go.Proofs.YtpfecpcgdfbekaaGreatDoor
namespace Go.Proofs.YtpfecpcgdfbekaaGreatDoor
open Go.RowKit
theorem results_c_t_t {P:Program} {fn:Func} {p a b:Tmp} {ty:TypeId} (h:fn.results=#[.cell p ty,.tmp a,.tmp b]) (tmps:Array Value) (w:World) (g:Nat) (t:TypeId) (cs:Array Value) (fr:Nat×Nat) (d:TypeDesc)
  (hp:tmps.getD p undef = .pointer (some ⟨g,0,none⟩)) (hg:w.heap[g]? = some (.cells cs t fr))
  (hu:P.underlying ty=some d) (hd:(match d with | .struct _ | .array _ _=>true | _=>false)=true) (hi:(P.info? ty).map (·.size)=some cs.size) :
  (results fn tmps).run P w = .ok (.tuple #[.agg cs,tmps.getD a undef,tmps.getD b undef]) w:=by
 have hp':tmps[p]?.getD undef = .pointer (some ⟨g,0,none⟩):=by simpa using hp
 simp [results,h,hp',asAddr,run_loadVar_row w g t ty cs fr d hg hu hd hi]
def defO (files:List Fil) (i:Int) (j:Nat):Option Dfn:=(files[i.toNat]?).bind fun f=>f.defs[j]?
theorem defO_at {files:List Fil} {k j:Nat} (hk:k<files.length) (hj:j<files[k].defs.length):defO files (k:Int) j=some files[k].defs[j]:=by
 unfold defO
 rw [Int.toNat_natCast,List.getElem?_eq_getElem hk]
 show files[k].defs[j]? = _
 rw [List.getElem?_eq_getElem hj]
def hasMO (o:Option Dfn) (m:List UInt8):Bool:=match o with
 | none=>false
 | some d=>hasMP d m
abbrev Mp3:=Option ((Int×Nat)×List UInt8)
def mbrP (files:List Fil) (P:Pl) (mb:List UInt8):Mp3:=match P with
 | none=>none
 | some (i,j)=>if mb=[] then none else if hasMO (defO files i j) mb then some ((i,j),mb) else none
def findMO (names:List (List UInt8)) (files:List Fil) (own ref:List UInt8):Option Nat→Mp3
 | none=>none
 | some p=>mbrP files (findP names files own (ref.take p)) (ref.drop (p+1))
def findMP (names:List (List UInt8)) (files:List Fil) (own ref:List UInt8):Mp3:=findMO names files own ref (lastD ref)
def mpV (o:Mp3):Value:=.tuple #[plV (o.map (·.1)),bt ((o.map (·.2)).getD []),.bool o.isSome]
section
variable {w:World} {nA fA:Option Addr} {n nc fc gm:Nat} {names:List (List UInt8)} {files:List Fil}
set_option maxRecDepth 100000 in
set_option maxHeartbeats 3200000 in
theorem findMember_any (h:Scp w nA fA n nc fc gm names files) (own ref:List UInt8) (hr:ref.length≤8000) (hm:MaxC w) :
  Calls Tryz.prog 29 #[.agg #[.slice nA n nc,.slice fA n fc,.string ⟨own.toArray⟩,.map (some gm)],.string ⟨ref.toArray⟩] w fun e w'=>e = .returned (mpV (findMP names files own ref))∧Nx w w':=by
 have HS:=Lib.hid h
 have HRL:=Lib.hid hr
 have HMX:=Lib.hid hm
 obtain ⟨O,hO⟩:∃ O,lastD ref=O:=⟨_,rfl⟩
 obtain ⟨R,hR⟩:∃ R,Hid (findMP names files own ref=R):=⟨_,rfl⟩
 rw [hR.out]
 obtain ⟨gx,hgx⟩:∃ g,w.heap.size=g:=⟨_,rfl⟩
 obtain ⟨gr,hgr⟩:∃ g,gx+1=g:=⟨_,rfl⟩
 obtain ⟨w1,hw⟩:∃ w1,(w.alloc (.cells #[.slice nA n nc,.slice fA n fc,.string ⟨own.toArray⟩,.map (some gm)] 88)).alloc (.cells #[.int .i64 0,.int .i64 0] 91)=w1:=⟨_,rfl⟩
 have HBX:Hid (Blk w1 gx gx #[.slice nA n nc,.slice fA n fc,.string ⟨own.toArray⟩,.map (some gm)] 88):=by
  unfold Hid;rw [← hw,← hgx];exact (Blk.new w _ _).alloc _
 have HBR:Hid (Blk w1 gx gr #[.int .i64 0,.int .i64 0] 91):=by
  unfold Hid;rw [← hw,← hgr,← hgx,show w.heap.size+1=(w.alloc (.cells #[.slice nA n nc,.slice fA n fc,.string ⟨own.toArray⟩,.map (some gm)] 88)).heap.size from by simp]
  exact (Blk.new (w.alloc (.cells #[.slice nA n nc,.slice fA n fc,.string ⟨own.toArray⟩,.map (some gm)] 88)) _ _).less (by simp)
 have HN1:Hid (Nx w w1):=by unfold Hid;rw [← hw];exact Nx.al (nx0 w _) _
 have hgw:Hid (w.heap.size≤gr):=by unfold Hid;omega
 have hla:=slast_any w1 ⟨ref.toArray⟩ ref (Tx.of _) (by omega)
 unfold lastI at hla
 rw [hO] at hla
 have HLA:=Lib.hid hla
 have HFE:Hid (R=findMO names files own ref O):=by
  unfold Hid;rw [← hR.out];unfold findMP;rw [hO]
 have HO:=Lib.hid hO
 clear h hm hr hla hR hO
 go_enter Tryz.func29,Tryz.ntmps29
 go_upto_region 1 with (fail)
 try rw [hw]
 clear hw hgx hgr
 go_wp2_with fail
 refine HLA.out.mono ?_;rintro e w2 ⟨rfl,hw2⟩;obtain rfl:=hw2.symm
 have y0:w1.cell? ⟨gr,0,none⟩=some (.int .i64 0):=HBR.out.cell 0
 have y1:w1.cell? ⟨gr,1,none⟩=some (.int .i64 0):=HBR.out.cell 1
 have r0:=HBR.out.free 0
 have r1:=HBR.out.free 1
 cases O with
 | none =>
  have HX:Hid (R=none):=HFE.out
  dsimp only
  go_wp2_with fail
  refine bodyPost_ret (results_c_t_t rfl _ _ gr _ _ _ _ rfl ((HBR.out.put 0 (.int .i64 0)).put 1 (.int .i64 0)).2 Tryz.underlying91 rfl (by kernel_rfl)) rfl ?_
  rw [HX.out]
  exact ⟨rfl,(HN1.out.put' hgw.out 0 _).put' hgw.out 1 _⟩
 | some p =>
  have hpl:p<ref.length:=lastD_lt HO.out
  dsimp only
  obtain ⟨P1,hP1⟩:∃ P1,p+1=P1:=⟨_,rfl⟩
  obtain ⟨MB,hMB⟩:∃ l,ref.drop P1=l:=⟨_,rfl⟩
  obtain ⟨PR,hPR⟩:∃ l,ref.take p=l:=⟨_,rfl⟩
  have HX0:Hid (R=mbrP files (findP names files own PR) MB):=by unfold Hid;rw [HFE.out,← hPR,← hMB,← hP1];rfl
  have hsz:(ByteArray.mk ref.toArray).size=ref.length:=by show ref.toArray.size=_;simp
  obtain ⟨u,hu,HU⟩:=(Tx.of ref).from_ P1
  have hue:u=⟨MB.toArray⟩:=by have:=HU.out.eq;rw [hMB] at this;exact this
  subst hue
  have hu2:(ByteArray.mk ref.toArray).extract P1 ref.length=⟨MB.toArray⟩:=by rw [← hsz];exact hu
  obtain ⟨v,hv,HV⟩:=(Tx.of ref).upto p
  have hve:v=⟨PR.toArray⟩:=by have:=HV.out.eq;rw [hPR] at this;exact this
  subst hve
  obtain ⟨L,hL⟩:∃ L,ref.length=L:=⟨_,rfl⟩
  have hLI:(ref.length:Int)=(L:Int):=by rw [hL]
  have hLN:P1≤ref.length:=by omega
  have hLM:p≤ref.length:=by omega
  have q0:(p:Int)+1=(P1:Int):=by omega
  have q1:IntKind.i64.wrap (P1:Int)=(P1:Int):=by have:=HRL.out;rw [IntKind.wrap_i64];omega
  have q2:decide ((p:Int)<0)=false:=decide_eq_false (by omega)
  have q3:¬ (p:Int)<0:=by omega
  have q4:(P1:Int)≤(L:Int):=by omega
  have q5:(p:Int)≤(L:Int):=by omega
  have q6:(0:Int)≤(P1:Int):=by omega
  have q7:(0:Int)≤(p:Int):=by omega
  have q8:(L:Int)≤8000:=by have:=HRL.out;omega
  have HPL8:Hid (PR.length≤8000):=by unfold Hid;rw [← hPR,List.length_take];have:=HRL.out;omega
  obtain ⟨G,hG⟩:∃ G,findP names files own PR=G:=⟨_,rfl⟩
  rw [hG] at HX0
  have HG:=Lib.hid hG
  obtain ⟨⟨gi,gj⟩,hgv⟩:∃ p,G.getD (0,0)=p:=⟨_,rfl⟩
  have HGV:Hid (plV G = .agg #[.int .i64 gi,.int .i64 (gj:Int)]):=by unfold Hid plV;rw [hgv]
  have HGD:=Lib.hid hgv
  clear hMB hPR hsz hL hu HU HV hG hgv hpl y0 y1 r0 r1 hP1
  go_upto_region 5 with (fail)
  have L0:∀ x:Gr w1,x.1.cell? ⟨gx,0,none⟩=some (.slice nA n nc):=fun x=>(HBX.out.below x.2).cell 0
  have L1:∀ x:Gr w1,x.1.cell? ⟨gx,1,none⟩=some (.slice fA n fc):=fun x=>(HBX.out.below x.2).cell 1
  have L2:∀ x:Gr w1,x.1.cell? ⟨gx,2,none⟩=some (.string ⟨own.toArray⟩):=fun x=>(HBX.out.below x.2).cell 2
  have L3:∀ x:Gr w1,x.1.cell? ⟨gx,3,none⟩=some (.map (some gm)):=fun x=>(HBX.out.below x.2).cell 3
  refine EH.wp_region_hyb [8] [(0,1),(1,1),(2,1),(3,1),(4,0),(5,2),(6,2),(7,2),(8,0),(9,2)] rfl (by kernel_rfl) ?_
  iterate 4 (refine EH.hyb_calm rfl (fun K hK=>?_);go_simp;refine hK _ ?_;clear hK K)
  clear L0 L1 L2 L3
  refine EH.hyb_alone rfl (fun w4 hn4 K hK=>?_)
  have hN4:Nx w w4:=HN1.out.trans hn4
  have hcall:=find_any (HS.out.nx hN4) own PR HPL8.out (HMX.out.nx hN4)
  rw [HG.out,HGV.out] at hcall
  go_simp
  refine hcall.mono ?_;rintro e w5 ⟨rfl,hn5⟩
  refine hK _ _ (.inr hn5) ?_
  clear hK K hcall
  iterate 3 (refine EH.hyb_pure rfl (fun K hK=>?_);go_simp;refine hK _ ?_;clear hK K)
  refine EH.hyb_alone rfl (fun w6 hn6 K hK=>?_)
  have HN6:=Lib.hid (hn4.trans (hn5.trans hn6))
  have hb6:=HBR.out.below HN6.out
  have HX6:=Lib.hid (HBX.out.below HN6.out)
  have y0:w6.cell? ⟨gr,0,none⟩=some (.int .i64 0):=hb6.cell 0
  have y1:w6.cell? ⟨gr,1,none⟩=some (.int .i64 0):=hb6.cell 1
  have r0:=hb6.free 0
  have r1:=hb6.free 1
  go_simp
  refine hK _ _ (.inl (by simp)) ?_
  clear hK K y0 y1 r0 r1
  have hne:gx≠gr:=by
   intro e
   have h1:=HBX.out.2
   have h2:=HBR.out.2
   rw [e] at h1
   rw [h1] at h2
   cases h2
  have HB7:=Lib.hid ((hb6.put 0 (.int .i64 gi)).put 1 (.int .i64 (gj:Int)))
  have HX7:=Lib.hid ((HX6.out.other (Ne.symm hne) 0 (.int .i64 gi)).other (Ne.symm hne) 1 (.int .i64 (gj:Int)))
  have HN7:Hid (Nx w ((w6.setCell ⟨gr,0,none⟩ (.int .i64 gi)).setCell ⟨gr,1,none⟩ (.int .i64 (gj:Int)))):=((HN1.out.trans HN6.out).put' hgw.out 0 _).put' hgw.out 1 _
  generalize World.setCell (World.setCell _ _ _) _ _=w7 at *
  refine EH.hyb_pure rfl (fun K hK=>?_);go_simp;refine hK _ ?_;clear hK K
  refine EH.hyb_nil (fun w8 hn8=>?_)
  have hb8:=HB7.out.below hn8
  have hx8:=HX7.out.below hn8
  have HB8:=Lib.hid hb8
  have HN8:=Lib.hid (HN7.out.trans hn8)
  have HS8:=Lib.hid (HS.out.nx HN8.out)
  clear hn4 hN4 hn5 hn6 hb6 hn8
  have y0:w8.cell? ⟨gr,0,none⟩=some (.int .i64 gi):=hb8.cell 0
  have y1:w8.cell? ⟨gr,1,none⟩=some (.int .i64 (gj:Int)):=hb8.cell 1
  have r0:=hb8.free 0
  have r1:=hb8.free 1
  have x0:w8.cell? ⟨gx,0,none⟩=some (.slice nA n nc):=hx8.cell 0
  have x1:w8.cell? ⟨gx,1,none⟩=some (.slice fA n fc):=hx8.cell 1
  have x2:w8.cell? ⟨gx,2,none⟩=some (.string ⟨own.toArray⟩):=hx8.cell 2
  have x3:w8.cell? ⟨gx,3,none⟩=some (.map (some gm)):=hx8.cell 3
  clear hb8 hx8
  cases G with
  | none =>
   have HX:Hid (R=none):=HX0.out
   go_wp2_with fail
   refine bodyPost_ret (results_c_t_t rfl _ _ gr _ _ _ _ rfl ((HB8.out.put 0 (.int .i64 0)).put 1 (.int .i64 0)).2 Tryz.underlying91 rfl (by kernel_rfl)) rfl ?_
   rw [HX.out]
   exact ⟨rfl,(HN8.out.put' hgw.out 0 _).put' hgw.out 1 _⟩
  | some P =>
   obtain ⟨pi,pj⟩:=P
   obtain ⟨rfl,rfl⟩:pi=gi∧pj=gj:=Prod.mk.inj HGD.out
   obtain ⟨k,hk,rfl,hj⟩:=findP_ok HG.out
   by_cases he:MB=[]
   ·have HX:Hid (R=none):=by unfold Hid;rw [HX0.out];exact if_pos he
    subst he
    clear hk hj
    go_wp2_with fail
    refine bodyPost_ret (results_c_t_t rfl _ _ gr _ _ _ _ rfl ((HB8.out.put 0 (.int .i64 0)).put 1 (.int .i64 0)).2 Tryz.underlying91 rfl (by kernel_rfl)) rfl ?_
    rw [HX.out]
    exact ⟨rfl,(HN8.out.put' hgw.out 0 _).put' hgw.out 1 _⟩
   ·have b1:(MB == [])=false:=by rw [beq_eq_false_iff_ne];exact he
    have hpl:PlOk files (k:Int) pj files[k].defs[pj]:=⟨k,hk,rfl,hj,rfl⟩
    have hdb:=(HS.out.ld.parts.2.2 _ (List.getElem_mem hk)).2.2 _ (List.getElem_mem hj)
    have hdo:=defO_at hk hj
    obtain ⟨d,hd⟩:∃ d,files[k].defs[pj]=d:=⟨_,rfl⟩
    rw [hd] at hpl hdb hdo
    obtain ⟨B,hB⟩:∃ B,hasMP d MB=B:=⟨_,rfl⟩
    have HX:Hid (R=if B then some (((k:Int),pj),MB) else none):=by
     unfold Hid;rw [HX0.out]
     show (if MB=[] then none else if hasMO (defO files (k:Int) pj) MB then _ else _)=_
     rw [if_neg he,hdo]
     show (if hasMP d MB then _ else _)=_
     rw [hB]
    have HSD:=Lib.hid (sdef_any HS8.out own (k:Int) pj d hpl)
    have HDB:=Lib.hid hdb
    have HB:=Lib.hid hB
    clear hk hj hpl hdb hdo hd hB he
    go_wp2_with fail
    refine HSD.out.mono ?_;rintro e w9 ⟨x,rfl,hx,hn9⟩
    have hcall:=hasMember_any w9 x d (RD.lasts (Mv.nx hn9 (Nat.le_refl _)) hx) HDB.out MB
    rw [HB.out] at hcall
    have HCA:=Lib.hid hcall
    obtain ⟨X,hX⟩:∃ X,dfnA x=X:=⟨_,rfl⟩
    rw [hX] at HCA ⊢
    have HB9:=Lib.hid (HB8.out.below hn9)
    have HN9:=Lib.hid (HN8.out.trans hn9)
    clear hx hn9 hX hcall y0 y1 r0 r1 x0 x1 x2 x3
    go_wp2_with fail
    refine HCA.out.mono ?_;rintro e wa ⟨rfl,hna⟩
    have hba:=HB9.out.below hna
    have HBA:=Lib.hid hba
    have HNA:=Lib.hid (HN9.out.trans hna)
    have y0:wa.cell? ⟨gr,0,none⟩=some (.int .i64 (k:Int)):=hba.cell 0
    have y1:wa.cell? ⟨gr,1,none⟩=some (.int .i64 (pj:Int)):=hba.cell 1
    have r0:=hba.free 0
    have r1:=hba.free 1
    clear hna hba
    cases B
    ·go_wp2_with fail
     refine bodyPost_ret (results_c_t_t rfl _ _ gr _ _ _ _ rfl ((HBA.out.put 0 (.int .i64 0)).put 1 (.int .i64 0)).2 Tryz.underlying91 rfl (by kernel_rfl)) rfl ?_
     rw [HX.out]
     exact ⟨rfl,(HNA.out.put' hgw.out 0 _).put' hgw.out 1 _⟩
    ·go_wp2_with fail
     refine bodyPost_ret (results_c_t_t rfl _ _ gr _ _ _ _ rfl ((HBA.out.put 0 (.int .i64 (k:Int))).put 1 (.int .i64 (pj:Int))).2 Tryz.underlying91 rfl (by kernel_rfl)) rfl ?_
     rw [HX.out]
     exact ⟨rfl,(HNA.out.put' hgw.out 0 _).put' hgw.out 1 _⟩
end
end Go.Proofs.YtpfecpcgdfbekaaGreatDoor
