/- The contract of parse.Parse. What a parse hands back; the package's beginning as the laws of parse ask for it. -/
import Derived.Test.YtbblfkdmkpkmcaaGreatDoorG17
import Derived.Test.YtbblfkdmkpkmcaaGreatDoorG27
import Derived.BigRegion
set_option linter.unusedVariables false
set_option linter.unusedSimpArgs false
set_option linter.unnecessarySimpa false
namespace Go.Proofs.YtbblfkdmkpkmcaaGreatDoor
open Go.RowKit
theorem first_t (l:List UInt8):(firstS l).2.1.t.length≤l.length:=by
 cases l with
 | nil=>exact Nat.le_refl _
 | cons c r =>
  have e:firstS (c :: r)=if isLetS c || decide (c.toNat=95) then nameS (c :: r)
   else if isDig c || decide (c.toNat=43) || decide (c.toNat=45) || decide (c.toNat=46) then numberS (c :: r)
   else if c.toNat=34∨c.toNat=39 then quotedS c r
   else if signsL.contains c then (0,⟨5,[c],0,0,0⟩,1) else (2,tok0,0):=rfl
  rw [e]
  split
  ·unfold nameS
   split
   ·exact Nat.zero_le _
   ·split
    ·exact Nat.zero_le _
    ·exact List.length_take_le' _ _
  ·split
   ·unfold numberS
    repeat' split
    all_goals exact Nat.zero_le _
   ·split
    ·unfold quotedS
     split
     ·exact Nat.zero_le _
     ·have:=List.length_take_le' (quoteN c r) r
      exact Nat.le_trans this (by simp)
    ·split
     ·simp
     ·exact Nat.zero_le _
theorem next_t (o:Nat) (l:List UInt8):(nextS o l).2.2.1.t.length≤l.length:=by
 unfold nextS
 split
 ·exact Nat.zero_le _
 ·split
  ·exact Nat.zero_le _
  ·dsimp only
   unfold wordS
   split
   ·exact Nat.zero_le _
   ·split
    ·exact Nat.zero_le _
    ·exact Nat.le_trans (first_t _) (by simp)
theorem lex_t:∀ (f o:Nat) (l:List UInt8),∀ x ∈ (lexF f o l).1,x.t.length≤l.length
 | 0,_,_=>fun x h=>by cases h
 | f+1,o,l=>by
  have ih:=lex_t f (o+(nextS o l).2.2.2) (l.drop (nextS o l).2.2.2)
  intro x hx
  unfold lexF at hx
  split at hx
  ·cases hx
  ·split at hx
   ·simp at hx;subst hx;exact next_t o l
   ·split at hx
    ·exact Nat.le_trans (ih x hx) (by simp)
    ·rcases List.mem_cons.1 hx with rfl | hx
     ·exact next_t o l
     ·exact Nat.le_trans (ih x hx) (by simp)
theorem good_len {L:List UInt8}:∀ {ts:List TokV} {o:Nat},Good L o ts→ts.length+o≤L.length+1∧0<ts.length
 | [],_,h=>h.elim
 | [x],o,h=>⟨by have:=h.2.1;have:=h.2.2;simp;omega,by simp⟩
 | x :: y :: r,o,h=>by
  have h1:=(good_len (ts:=y :: r) h.2.2.2.2).1
  have h2:=h.2.1
  simp at h1 ⊢
  omega
theorem lex_ends (l:List UInt8) (h:(lexS l).2.1=0):Ends (lexS l).1∧0<(lexS l).1.length:=by
 have hg:=(lex_places l).1 h
 have hl:l.length≤2000:=by
  unfold lexS at h
  split at h
  ·cases h
  ·omega
 have h1:=good_len hg
 refine ⟨⟨fun i hi hk=>?_,by omega,fun x hx=>?_⟩,h1.2⟩
 ·have:=(hg.at_ i hi).2.2.1
  rw [List.getD_eq_getElem?_getD,List.getElem?_eq_getElem hi] at hk
  simp at hk
  have hne:¬ i+1=(lexS l).1.length:=fun e=>hk (this.2 e)
  omega
 ·unfold lexS at hx
  split at hx
  ·cases hx
  ·exact Nat.le_trans (lex_t _ _ _ x hx) hl
theorem results_cell_tmp2_rowP {P:Program} {fn:Func} {p u1 u2:Tmp} {ty:TypeId} (h:fn.results=#[.cell p ty,.tmp u1,.tmp u2]) (tmps:Array Value) (w:World) (g:Nat) (t:TypeId) (cs:Array Value) (fr:Nat×Nat) (d:TypeDesc)
  (hp:tmps.getD p undef = .pointer (some ⟨g,0,none⟩)) (hg:w.heap[g]? = some (.cells cs t fr))
  (hu:P.underlying ty=some d) (hd:(match d with | .struct _ | .array _ _=>true | _=>false)=true) (hi:(P.info? ty).map (·.size)=some cs.size) :
  (results fn tmps).run P w = .ok (.tuple #[.agg cs,tmps.getD u1 undef,tmps.getD u2 undef]) w:=by
 have hp':tmps[p]?.getD undef = .pointer (some ⟨g,0,none⟩):=by simpa using hp
 simp [results,h,hp',asAddr,run_loadVar_row w g t ty cs fr d hg hu hd hi]
theorem rfile0 {w:World} {P:Nat→Prop}:RFile w P ⟨.slice none 0 0,.slice none 0 0,.slice none 0 0⟩ fil0:=⟨RepL.nil_,RepL.nil_,RepL.nil_⟩
set_option maxRecDepth 100000 in
set_option maxHeartbeats 12800000 in
theorem fparse_any (w:World) (s:ByteArray) (l:List UInt8) (hl:Tx s l) (hs:(l.length:Int)≤140737488355328) (ht:TabK w) (hm:MaxC w) (hkw:1 < w.heap.size) :
  Calls Tryz.prog 11 #[.string s] w fun e w'=>∃ x,e = .returned (.tuple #[.agg (filA x),.int .i64 ((parseF l).2.1:Nat),.int .i64 ((parseF l).2.2:Nat)])∧RFile w' (Fm w.heap.size) x (parseF l).1∧Nx w w':=by
 have hmw:0 < w.heap.size:=by
  obtain ⟨m,hm⟩:=hm
  have:=World.block_lt_of_cell? w _ hm
  simpa using this
 obtain ⟨g,hg⟩:∃ g,w.heap.size=g:=⟨_,rfl⟩
 have hB1:=Blk.new w #[.slice none 0 0,.slice none 0 0,.slice none 0 0] 27
 rw [hg] at hB1
 have hn1:Nx w (w.alloc (.cells #[.slice none 0 0,.slice none 0 0,.slice none 0 0] 27)):=nx0 _ _
 have HLX:=Lib.hid (lex_any s l (w.alloc (.cells #[.slice none 0 0,.slice none 0 0,.slice none 0 0] 27)) hl hs (hm.nx hn1))
 have HB1:=Lib.hid hB1
 have HN1:=Lib.hid hn1
 have HT:=Lib.hid ht
 have HM:=Lib.hid hm
 have HGG:Hid (w.heap.size≤g∧1 < g∧0 < g):=by unfold Hid;omega
 obtain ⟨⟨ws,le,la⟩,hL⟩:∃ L,Hid (lexS l=L):=⟨_,rfl⟩
 have HEND:Hid (le=0→Ends ws∧0<ws.length):=by
  have:=lex_ends l
  rw [hL.out] at this
  exact this
 rw [hL.out] at HLX
 obtain ⟨⟨y,pe,pa⟩,hP⟩:∃ r,Hid (parseF l=r):=⟨_,rfl⟩
 rw [hP.out]
 have HPP:Hid ((if le≠0 then (fil0,le,la) else if (fileP ws ⟨0,0⟩).2.e≠0 then (fil0,(fileP ws ⟨0,0⟩).2.e,(ws.getD (fileP ws ⟨0,0⟩).2.i tok0).p) else ((fileP ws ⟨0,0⟩).1,0,0))=(y,pe,pa)):=by
  unfold Hid;rw [← hP.out];unfold parseF;dsimp only;rw [hL.out]
 clear hl hs ht hm hB1 hn1 hkw hmw
 go_enter Tryz.func11,Tryz.ntmps11
 go_upto_region 1 with (fail)
 generalize World.alloc w _=w1 at *
 clear hg
 go_wp2_with fail
 refine HLX.out.mono ?_;rintro e w2 ⟨v2,rfl,ho2,hn2⟩
 obtain ⟨A,c,rfl,hle,hcm,hrd⟩:=ho2.sl
 have HB2:=Lib.hid (HB1.out.below hn2)
 have HN2:=Lib.hid (HN1.out.trans hn2)
 have HRD:=Lib.hid hrd
 have HC:=Lib.hid hle
 clear hrd hle hcm hn2
 by_cases he:le=0
 ·subst he
  obtain ⟨hend,hpos⟩:=HEND.out rfl
  have hx:=HPP.out
  rw [if_neg (by decide)] at hx
  obtain ⟨⟨y',s'⟩,hF⟩:∃ r,Hid (fileP ws ⟨0,0⟩=r):=⟨_,rfl⟩
  rw [hF.out] at hx
  dsimp only at hx
  have HX:=Lib.hid hx
  have HA:Hid (∀ g',A=some ⟨g',0,none⟩→g<g'∧g'<w2.heap.size):=by
   unfold Hid;rintro g' rfl
   have h1:=World.ownsRow.lt ho2 g' rfl
   have h2:=HB1.out.lt
   exact ⟨by have:=h1.1;omega,h1.2⟩
  obtain ⟨b,hb⟩:∃ b,w2.heap.size=b:=⟨_,rfl⟩
  have hBc:=Blk.new w2 #[.slice A ws.length c,.int .i64 0,.int .i64 0] 70
  rw [hb] at hBc
  have hn3:Nx w2 (w2.alloc (.cells #[.slice A ws.length c,.int .i64 0,.int .i64 0] 70)):=nx0 _ _
  have hgb:g<b:=by have:=HB2.out.lt;omega
  have HPC:Hid (PC (w2.alloc (.cells #[.slice A ws.length c,.int .i64 0,.int .i64 0] 70)) b A c ws ⟨0,0⟩) :=
   ⟨hBc.less (Nat.zero_le _),HRD.out.nx hn3,fun g' e=>by have:=(HA.out g' e).2;omega,HC.out,(HT.out.nx HN2.out).nx hn3,(HM.out.nx HN2.out).nx hn3,by have:=HGG.out;omega,by have:=HGG.out;omega,hend,hpos,Nat.zero_le _⟩
  have HB3:=Lib.hid (HB2.out.below hn3)
  have HN3:=Lib.hid (HN2.out.trans hn3)
  have HGB:=Lib.hid hgb
  have hb1:w.heap.size≤b:=by have:=HGG.out.1;omega
  have HBW:=Lib.hid hb1
  have hi:ws.length≤2001:=hend.few
  have hfi:∀ w',PC w' b A c ws s'→s'.i<ws.length:=fun w' h=>h.lt
  clear hend hpos hx ho2 hBc hn3 hgb hb1 HPP
  go_upto_region 5 with (fail)
  generalize World.alloc w2 _=w3 at *
  clear hb
  go_wp2_with fail
  refine (file_any HPC.out y' s' hF.out).mono ?_;rintro e w4 ⟨⟨xi,xs,xd⟩,rfl,hr4,hp4,ho4⟩
  obtain ⟨i1,i2,-,rfl,-,-,-,-,-⟩:=hr4.1.sl strA_size
  obtain ⟨j1,j2,-,rfl,-,-,-,-,-⟩:=hr4.2.1.sl spcA_size
  obtain ⟨k1,k2,-,rfl,-,-,-,-,-⟩:=hr4.2.2.sl dfnA_size
  rw [show filA ⟨.slice i1 y'.incs.length i2,.slice j1 y'.spaces.length j2,.slice k1 y'.defs.length k2⟩=#[.slice i1 y'.incs.length i2,.slice j1 y'.spaces.length j2,.slice k1 y'.defs.length k2] from rfl]
  have hg3:g<w3.heap.size:=HB3.out.lt
  have HB4:=Lib.hid (ho4.blk HB3.out (by have:=HGB.out;omega))
  have HN4:=Lib.hid (ho4.to HN3.out HBW.out)
  have HR4:Hid (RFile w4 (Fm (g+1)) ⟨.slice i1 y'.incs.length i2,.slice j1 y'.spaces.length j2,.slice k1 y'.defs.length k2⟩ y'):=RFile.lasts (Mv.less hg3) hr4
  have HP4:=Lib.hid hp4
  have hl4:=hp4.lt
  clear hr4 hp4 ho4 hfi hg3
  have d0:w4.cell? ⟨g,0,none⟩=some (.slice none 0 0):=HB4.out.cell 0
  have d1:w4.cell? ⟨g,1,none⟩=some (.slice none 0 0):=HB4.out.cell 1
  have d2:w4.cell? ⟨g,2,none⟩=some (.slice none 0 0):=HB4.out.cell 2
  have f0:=HB4.out.free 0
  have f1:=HB4.out.free 1
  have f2:=HB4.out.free 2
  go_upto_region 6 with (fail)
  obtain ⟨w5,hw5⟩:∃ w5,((w4.setCell ⟨g,0,none⟩ (.slice i1 y'.incs.length i2)).setCell ⟨g,1,none⟩ (.slice j1 y'.spaces.length j2)).setCell ⟨g,2,none⟩ (.slice k1 y'.defs.length k2)=w5:=⟨_,rfl⟩
  have HW5:Hid (Oth g w4 w5):=by unfold Hid;rw [← hw5];exact (((Oth.refl g w4).own).own).own
  have HB5:Hid (Blk w5 g g #[.slice i1 y'.incs.length i2,.slice j1 y'.spaces.length j2,.slice k1 y'.defs.length k2] 27):=by
   unfold Hid;rw [← hw5];exact ((HB4.out.put 0 _).put 1 _).put 2 _
  have HN5:Hid (Nx w w5):=HW5.out.to HN4.out HGG.out.1
  have HR5:=Lib.hid (RFile.lasts (Mv.oth HW5.out (Nat.le_refl _) (Nat.lt_succ_self _)) HR4.out)
  rw [hw5]
  have HBc5:=Lib.hid (HW5.out.blk HP4.out.cur (by have:=HGB.out;omega))
  clear hw5 d0 d1 d2 f0 f1 f2
  have e1:w5.cell? ⟨b,1,none⟩=some (.int .i64 (s'.i:Int)):=HBc5.out.cell 1
  have e2:w5.cell? ⟨b,2,none⟩=some (.int .i64 (s'.e:Int)):=HBc5.out.cell 2
  by_cases he:s'.e=0
  ·have b1:((s'.e:Int) != 0)=false:=by rw [he];rfl
   have hx:=HX.out
   rw [if_neg (by simpa using he)] at hx
   simp only [Prod.mk.injEq] at hx
   obtain ⟨rfl,rfl,rfl⟩:=hx
   have d0:w5.cell? ⟨g,0,none⟩=some (.slice i1 y'.incs.length i2):=HB5.out.cell 0
   have d1:w5.cell? ⟨g,1,none⟩=some (.slice j1 y'.spaces.length j2):=HB5.out.cell 1
   have d2:w5.cell? ⟨g,2,none⟩=some (.slice k1 y'.defs.length k2):=HB5.out.cell 2
   have f0:=HB5.out.free 0
   have f1:=HB5.out.free 1
   have f2:=HB5.out.free 2
   clear he
   go_wp2_with fail
   refine bodyPost_ret (results_cell_tmp2_rowP rfl _ _ g _ _ _ _ rfl (((HB5.out.put 0 (.slice i1 y'.incs.length i2)).put 1 (.slice j1 y'.spaces.length j2)).put 2 (.slice k1 y'.defs.length k2)).2 Tryz.underlying27 rfl (by kernel_rfl)) rfl ?_
   have HW:=(Oth.refl g w5).own (i:=0) (v:=.slice i1 y'.incs.length i2) |>.own (i:=1) (v:=.slice j1 y'.spaces.length j2) |>.own (i:=2) (v:=.slice k1 y'.defs.length k2)
   exact ⟨⟨.slice i1 y'.incs.length i2,.slice j1 y'.spaces.length j2,.slice k1 y'.defs.length k2⟩,rfl,RFile.lasts (Mv.oth HW (by have:=HGG.out.1;omega) (Nat.lt_succ_self _)) HR5.out,HW.to HN5.out HGG.out.1⟩
  ·have b1:((s'.e:Int) != 0)=true:=by rw [bne_iff_ne];omega
   have hx:=HX.out
   rw [if_pos he] at hx
   simp only [Prod.mk.injEq] at hx
   obtain ⟨rfl,rfl,hpa⟩:=hx
   obtain ⟨g',rfl,hg',hgg',hct⟩:=HP4.out.tok
   have hne:g'≠g:=by have:=(HA.out g' rfl).1;omega
   obtain ⟨⟨tk,tt,tn,td,tp⟩,hT⟩:∃ T,ws.getD s'.i tok0=T:=⟨_,rfl⟩
   have t4':=hct 4 (by decide)
   rw [hT] at t4' hpa
   obtain rfl:tp=pa:=hpa
   have t4:w5.cell? ⟨g',s'.i * 5+4,none⟩=some (.int .i64 (tp:Int)):=by
    rw [← show w4.cell? ⟨g',s'.i * 5+4,none⟩=some (.int .i64 (tp:Int)) from t4']
    unfold World.cell?
    simp only
    rw [HW5.out.block g' hg' hne]
   have hltI:(s'.i:Int)<(ws.length:Int):=by omega
   have hl3:(s'.i:Int)≤2001:=by omega
   have d0:w5.cell? ⟨g,0,none⟩=some (.slice i1 y'.incs.length i2):=HB5.out.cell 0
   have d1:w5.cell? ⟨g,1,none⟩=some (.slice j1 y'.spaces.length j2):=HB5.out.cell 1
   have d2:w5.cell? ⟨g,2,none⟩=some (.slice k1 y'.defs.length k2):=HB5.out.cell 2
   have f0:=HB5.out.free 0
   have f1:=HB5.out.free 1
   have f2:=HB5.out.free 2
   have hbg:b≠g:=by have:=HGB.out;omega
   have hbg2:g≠b:=hbg.symm
   have hne2:g≠g':=hne.symm
   clear he t4' hct hT hg' hgg'
   go_wp2_with fail
   go_region
   all_goals
    go_wp2_with fail
    refine bodyPost_ret (results_cell_tmp2_rowP rfl _ _ g _ _ _ _ rfl ((((HB5.out.put 0 (.slice none 0 0)).put 1 (.slice none 0 0)).put 2 (.slice none 0 0)).drew 1).2 Tryz.underlying27 rfl (by kernel_rfl)) rfl ?_
    have HW:=(Oth.refl g w5).own (i:=0) (v:=.slice none 0 0) |>.own (i:=1) (v:=.slice none 0 0) |>.own (i:=2) (v:=.slice none 0 0)
    exact ⟨⟨.slice none 0 0,.slice none 0 0,.slice none 0 0⟩,rfl,rfile0,(HW.to HN5.out HGG.out.1).dr 1⟩
 ·have b1:((le:Int) != 0)=true:=by rw [bne_iff_ne];omega
  have hx:=HPP.out
  rw [if_pos he] at hx
  simp only [Prod.mk.injEq] at hx
  obtain ⟨rfl,rfl,rfl⟩:=hx
  have c0:w2.cell? ⟨g,0,none⟩=some (.slice none 0 0):=HB2.out.cell 0
  have c1:w2.cell? ⟨g,1,none⟩=some (.slice none 0 0):=HB2.out.cell 1
  have c2:w2.cell? ⟨g,2,none⟩=some (.slice none 0 0):=HB2.out.cell 2
  have f0:=HB2.out.free 0
  have f1:=HB2.out.free 1
  have f2:=HB2.out.free 2
  clear he ho2
  go_wp2_with fail
  refine bodyPost_ret (results_cell_tmp2_rowP rfl _ _ g _ _ _ _ rfl (((HB2.out.put 0 (.slice none 0 0)).put 1 (.slice none 0 0)).put 2 (.slice none 0 0)).2 Tryz.underlying27 rfl (by kernel_rfl)) rfl ?_
  exact ⟨⟨.slice none 0 0,.slice none 0 0,.slice none 0 0⟩,rfl,rfile0,((HN2.out.put' HGG.out.1 0 _).put' HGG.out.1 1 _).put' HGG.out.1 2 _⟩
end Go.Proofs.YtbblfkdmkpkmcaaGreatDoor
namespace Go.Proofs.YtbblfkdmkpkmcaaGreatDoor
open Go.RowKit
theorem pf_b1:parseF [115,116,114,117,99,116,32,65,32,123,32,49,58,32,105,51,50,32,98,32,125]=(⟨[],[],[⟨4,[65],[],con0,[⟨true,1,0,[105,51,50],[98],false,con0⟩],[],[],[]⟩]⟩,0,0):=by rfl
theorem pf_b2:(parseF [115,116,114,117,99,116,32,65,32,40,32,125]).2=(2,9):=by decide +kernel
theorem pgen (w:World) (s:ByteArray) (l:List UInt8) (hl:Tx s l) (hs:(l.length:Int)≤140737488355328) (ht:TabK w) (hm:MaxC w) :
  Calls Tryz.prog 11 #[.string s] w fun e w'=>∃ (iA:Option Addr) (ic:Nat) (sA:Option Addr) (sc:Nat) (dA:Option Addr) (dc:Nat),e = .returned (.tuple #[.agg #[.slice iA (parseF l).1.incs.length ic,.slice sA (parseF l).1.spaces.length sc,.slice dA (parseF l).1.defs.length dc],.int .i64 ((parseF l).2.1:Nat),.int .i64 ((parseF l).2.2:Nat)]) ∧
   RFile w' (Fm w.heap.size) ⟨.slice iA (parseF l).1.incs.length ic,.slice sA (parseF l).1.spaces.length sc,.slice dA (parseF l).1.defs.length dc⟩ (parseF l).1∧Nx w w':=by
 have hk:1 < w.heap.size:=by
  obtain ⟨t,fr,h⟩:=ht
  exact (Array.getElem?_eq_some_iff.1 h).1
 refine (fparse_any w s l hl hs ht hm hk).mono ?_
 rintro e w' ⟨⟨xi,xs,xd⟩,rfl,hr,hn⟩
 obtain ⟨iA,ic,-,rfl,-,-,-,-,-⟩:=hr.1.sl strA_size
 obtain ⟨sA,sc,-,rfl,-,-,-,-,-⟩:=hr.2.1.sl spcA_size
 obtain ⟨dA,dc,-,rfl,-,-,-,-,-⟩:=hr.2.2.sl dfnA_size
 exact ⟨iA,ic,sA,sc,dA,dc,rfl,hr,hn⟩
theorem one_field {w:World} {P:Nat→Prop} {dA:Option Addr} {dc:Nat} {k:Nat} {nm ty:List UInt8} {ini:Con} {F:Fld} {ms:List Mem} {ex:List UInt8} {mt:List Met} (fk:Nat) (fn:Int) (fd:Nat) (fs:List UInt8) (fl:List Con) (hF:F.ini = .mk fk fn fd fs fl)
  (h:LD w P (.slice dA 1 dc) [⟨k,nm,ty,ini,[F],ms,ex,mt⟩]):∃ gd gf fc,dA=some ⟨gd,0,none⟩∧gd<w.heap.size∧gf<w.heap.size∧w.cell? ⟨gd,8,none⟩=some (.slice (some ⟨gf,0,none⟩) 1 fc)∧w.cell? ⟨gf,1,none⟩=some (.int .i64 F.id) ∧
   w.cell? ⟨gf,3,none⟩=some (.string ⟨F.ty.toArray⟩)∧w.cell? ⟨gf,7,none⟩=some (.int .i64 fn):=by
 obtain ⟨A,c,xs,hA,hx,-,-,hrd,hall⟩:=h.sl dfnA_size
 simp only [Value.slice.injEq] at hA
 obtain ⟨rfl,-,rfl⟩:=hA
 match xs,hx,hall with
 | [x],_,hall =>
  obtain ⟨hd,-⟩:=hall
  obtain ⟨gd,rfl,hgd,hcd⟩:=hrd (by simp)
  obtain ⟨-,-,-,-,hf,-⟩:=hd
  obtain ⟨fA,fc,ys,hfv,hy,-,-,hrf,hallf⟩:=hf.sl fldA_size
  match ys,hy,hallf with
  | [y],_,hallf =>
   obtain ⟨hyf,-⟩:=hallf
   obtain ⟨gf,rfl,hgf,hcf⟩:=hrf (by simp)
   obtain ⟨-,h2,-,h4,-,-,h7⟩:=hyf
   rw [hF] at h7
   obtain ⟨l',he,-⟩:=RC.of h7
   simp only [Con.mk.injEq] at he
   have e8:=hcd 0 (by simp) 8 (by decide)
   have e1:=hcf 0 (by simp) 1 (by decide)
   have e3:=hcf 0 (by simp) 3 (by decide)
   have e7:=hcf 0 (by simp) 7 (by decide)
   simp [dfnA] at e8
   simp [fldA] at e1 e3 e7
   rw [hfv] at e8
   refine ⟨gd,gf,fc,rfl,hgd,hgf,e8,?_,?_,?_⟩
   ·rw [e1,h2]
   ·rw [e3,h4];rfl
   ·rw [e7,← he.2.1]
set_option maxRecDepth 100000 in
set_option maxHeartbeats 6400000 in
theorem pbegun_any (w:World) (ht:TabK w) (hm:MaxC w) :
  Calls Tryz.prog 10 #[] w fun e w'=>e = .returned (.bool true)∧Nx w w':=by
 have H1:Hid (∀ w,TabK w→MaxC w→Calls Tryz.prog 11 #[.string ⟨#[115,116,114,117,99,116,32,65,32,123,32,49,58,32,105,51,50,32,98,32,125]⟩] w fun e w'=>∃ (iA:Option Addr) (ic:Nat) (sA:Option Addr) (sc:Nat) (gd gf fc dc:Nat),e = .returned (.tuple #[.agg #[.slice iA 0 ic,.slice sA 0 sc,.slice (some ⟨gd,0,none⟩) 1 dc],.int .i64 0,.int .i64 0]) ∧
   gd<w'.heap.size∧gf<w'.heap.size∧w'.cell? ⟨gd,8,none⟩=some (.slice (some ⟨gf,0,none⟩) 1 fc)∧w'.cell? ⟨gf,1,none⟩=some (.int .i64 1)∧Nx w w'):=by
  intro w ht hm
  have:=pgen w ⟨#[115,116,114,117,99,116,32,65,32,123,32,49,58,32,105,51,50,32,98,32,125]⟩ [115,116,114,117,99,116,32,65,32,123,32,49,58,32,105,51,50,32,98,32,125] rfl (by decide) ht hm
  rw [pf_b1] at this
  refine this.mono ?_
  rintro e w' ⟨iA,ic,sA,sc,dA,dc,rfl,hr,hn⟩
  obtain ⟨gd,gf,fc,rfl,h1,h2,h3,h4,-,-⟩:=one_field 0 0 0 [] [] rfl hr.2.2
  exact ⟨iA,ic,sA,sc,gd,gf,fc,dc,rfl,h1,h2,h3,h4,hn⟩
 have H2:Hid (∀ w,TabK w→MaxC w→Calls Tryz.prog 11 #[.string ⟨#[115,116,114,117,99,116,32,65,32,40,32,125]⟩] w fun e w'=>∃ (iA:Option Addr) (im ic:Nat) (sA:Option Addr) (sm sc:Nat) (dA:Option Addr) (dm dc:Nat),e = .returned (.tuple #[.agg #[.slice iA im ic,.slice sA sm sc,.slice dA dm dc],.int .i64 2,.int .i64 9])∧Nx w w'):=by
  intro w ht hm
  have:=pgen w ⟨#[115,116,114,117,99,116,32,65,32,40,32,125]⟩ [115,116,114,117,99,116,32,65,32,40,32,125] rfl (by decide) ht hm
  rw [pf_b2] at this
  refine this.mono ?_
  rintro e w' ⟨iA,ic,sA,sc,dA,dc,rfl,hr,hn⟩
  exact ⟨iA,_,ic,sA,_,sc,dA,_,dc,rfl,hn⟩
 have HT:=Lib.hid ht
 have HM:=Lib.hid hm
 clear ht hm
 go_enter Tryz.func10,Tryz.ntmps10
 go_wp2_with fail
 refine (H1.out w HT.out HM.out).mono ?_;rintro e w1 ⟨iA,ic,sA,sc,gd,gf,fc,dc,rfl,hgd,hgf,h8,h1,hn1⟩
 obtain ⟨g1,hg1⟩:∃ g,w1.heap.size=g:=⟨_,rfl⟩
 have hB1:=Blk.new w1 #[.slice iA 0 ic,.slice sA 0 sc,.slice (some ⟨gd,0,none⟩) 1 dc] 27
 rw [hg1] at hB1
 have hn2:Nx w1 _:=nx0 w1 (.cells #[.slice iA 0 ic,.slice sA 0 sc,.slice (some ⟨gd,0,none⟩) 1 dc] 27)
 have HB1:=Lib.hid hB1
 have HN2:=Lib.hid (Nx.trans hn1 hn2)
 have H8:=Lib.hid ((hn2.cell (p:=⟨gd,8,none⟩) hgd).trans h8)
 have H11:=Lib.hid ((hn2.cell (p:=⟨gf,1,none⟩) hgf).trans h1)
 have HGD:=Lib.hid (Nat.lt_of_lt_of_le hgd hn2.size)
 have HGF:=Lib.hid (Nat.lt_of_lt_of_le hgf hn2.size)
 clear hB1 hn1 hn2 h8 h1 hgd hgf
 go_upto_region 2 with (fail)
 generalize World.alloc w1 _=w2 at *
 clear hg1
 go_wp2_with fail
 refine (H2.out w2 (HT.out.nx HN2.out) (HM.out.nx HN2.out)).mono ?_;rintro e w3 ⟨iA',im',ic',sA',sm',sc',dA',dm',dc',rfl,hn3⟩
 have hn4:Nx w3 _:=nx0 w3 (.cells #[.slice iA' im' ic',.slice sA' sm' sc',.slice dA' dm' dc'] 27)
 have HN4:Hid (Nx w2 _):=Nx.trans hn3 hn4
 clear hn3 hn4
 go_upto_region 3 with (fail)
 generalize World.alloc w3 _=w4 at *
 have c2:w4.cell? ⟨g1,2,none⟩=some (.slice (some ⟨gd,0,none⟩) 1 dc):=(HB1.out.below HN4.out).cell 2
 have c8:w4.cell? ⟨gd,8,none⟩=some (.slice (some ⟨gf,0,none⟩) 1 fc):=(HN4.out.cell (p:=⟨gd,8,none⟩) HGD.out).trans H8.out
 have c1:w4.cell? ⟨gf,1,none⟩=some (.int .i64 1):=(HN4.out.cell (p:=⟨gf,1,none⟩) HGF.out).trans H11.out
 have HN5:=Lib.hid (HN2.out.trans HN4.out)
 go_wp2_with fail
 refine (reserved_any w4 _ [105,51,50] (Tx.of _) true (by decide)).mono ?_;rintro e w5 ⟨rfl,rfl⟩
 go_wp2_with fail
 refine (plain_any' w5 _ [120] (Tx.of _) true (by decide) (by decide) (HT.out.nx HN5.out) (HM.out.nx HN5.out)).mono ?_;rintro e w6 ⟨rfl,hn6⟩
 have HN6:=Lib.hid (HN5.out.trans hn6)
 clear hn6
 go_wp2_with fail
 refine (plain_any' w6 _ [97,46,98] (Tx.of _) false (by decide) (by decide) (HT.out.nx HN6.out) (HM.out.nx HN6.out)).mono ?_;rintro e w7 ⟨rfl,hn7⟩
 go_wp2_with fail
 go_ret
 exact ⟨rfl,HN6.out.trans hn7⟩
end Go.Proofs.YtbblfkdmkpkmcaaGreatDoor
