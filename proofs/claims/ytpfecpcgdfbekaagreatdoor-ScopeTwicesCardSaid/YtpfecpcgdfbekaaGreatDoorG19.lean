/- The contracts of the document's parser of structs, definitions. -/
import Derived.Test.YtpfecpcgdfbekaaGreatDoorG18
set_option linter.unusedVariables false
set_option linter.unusedSimpArgs false
set_option linter.unnecessarySimpa false
namespace Go.Proofs.YtpfecpcgdfbekaaGreatDoor
open Go.RowKit
set_option maxHeartbeats 3200000 in
theorem Blk.putD12 {w:World} {B g:Nat} {T:TypeId} {c0 c1 c2 c3 c4 c5 c6 c7 c8 c9 c10 c11 v0 v1 v2 v3 v4 v5 v6 v7 v8 v9 v10 v11:Value} (h:Blk w B g #[c0,c1,c2,c3,c4,c5,c6,c7,c8,c9,c10,c11] T) :
  Blk ((((((((((((w.setCell ⟨g,0,none⟩ v0).setCell ⟨g,1,none⟩ v1).setCell ⟨g,2,none⟩ v2).setCell ⟨g,3,none⟩ v3).setCell ⟨g,4,none⟩ v4).setCell ⟨g,5,none⟩ v5).setCell ⟨g,6,none⟩ v6).setCell ⟨g,7,none⟩ v7).setCell ⟨g,8,none⟩ v8).setCell ⟨g,9,none⟩ v9).setCell ⟨g,10,none⟩ v10).setCell ⟨g,11,none⟩ v11) B g #[v0,v1,v2,v3,v4,v5,v6,v7,v8,v9,v10,v11] T:=by
 have h0:Blk (w.setCell ⟨g,0,none⟩ v0) B g #[v0,c1,c2,c3,c4,c5,c6,c7,c8,c9,c10,c11] T:=h.put 0 v0
 have h1:Blk ((w.setCell ⟨g,0,none⟩ v0).setCell ⟨g,1,none⟩ v1) B g #[v0,v1,c2,c3,c4,c5,c6,c7,c8,c9,c10,c11] T:=h0.put 1 v1
 have h2:Blk (((w.setCell ⟨g,0,none⟩ v0).setCell ⟨g,1,none⟩ v1).setCell ⟨g,2,none⟩ v2) B g #[v0,v1,v2,c3,c4,c5,c6,c7,c8,c9,c10,c11] T:=h1.put 2 v2
 have h3:Blk ((((w.setCell ⟨g,0,none⟩ v0).setCell ⟨g,1,none⟩ v1).setCell ⟨g,2,none⟩ v2).setCell ⟨g,3,none⟩ v3) B g #[v0,v1,v2,v3,c4,c5,c6,c7,c8,c9,c10,c11] T:=h2.put 3 v3
 have h4:Blk (((((w.setCell ⟨g,0,none⟩ v0).setCell ⟨g,1,none⟩ v1).setCell ⟨g,2,none⟩ v2).setCell ⟨g,3,none⟩ v3).setCell ⟨g,4,none⟩ v4) B g #[v0,v1,v2,v3,v4,c5,c6,c7,c8,c9,c10,c11] T:=h3.put 4 v4
 have h5:Blk ((((((w.setCell ⟨g,0,none⟩ v0).setCell ⟨g,1,none⟩ v1).setCell ⟨g,2,none⟩ v2).setCell ⟨g,3,none⟩ v3).setCell ⟨g,4,none⟩ v4).setCell ⟨g,5,none⟩ v5) B g #[v0,v1,v2,v3,v4,v5,c6,c7,c8,c9,c10,c11] T:=h4.put 5 v5
 have h6:Blk (((((((w.setCell ⟨g,0,none⟩ v0).setCell ⟨g,1,none⟩ v1).setCell ⟨g,2,none⟩ v2).setCell ⟨g,3,none⟩ v3).setCell ⟨g,4,none⟩ v4).setCell ⟨g,5,none⟩ v5).setCell ⟨g,6,none⟩ v6) B g #[v0,v1,v2,v3,v4,v5,v6,c7,c8,c9,c10,c11] T:=h5.put 6 v6
 have h7:Blk ((((((((w.setCell ⟨g,0,none⟩ v0).setCell ⟨g,1,none⟩ v1).setCell ⟨g,2,none⟩ v2).setCell ⟨g,3,none⟩ v3).setCell ⟨g,4,none⟩ v4).setCell ⟨g,5,none⟩ v5).setCell ⟨g,6,none⟩ v6).setCell ⟨g,7,none⟩ v7) B g #[v0,v1,v2,v3,v4,v5,v6,v7,c8,c9,c10,c11] T:=h6.put 7 v7
 have h8:Blk (((((((((w.setCell ⟨g,0,none⟩ v0).setCell ⟨g,1,none⟩ v1).setCell ⟨g,2,none⟩ v2).setCell ⟨g,3,none⟩ v3).setCell ⟨g,4,none⟩ v4).setCell ⟨g,5,none⟩ v5).setCell ⟨g,6,none⟩ v6).setCell ⟨g,7,none⟩ v7).setCell ⟨g,8,none⟩ v8) B g #[v0,v1,v2,v3,v4,v5,v6,v7,v8,c9,c10,c11] T:=h7.put 8 v8
 have h9:Blk ((((((((((w.setCell ⟨g,0,none⟩ v0).setCell ⟨g,1,none⟩ v1).setCell ⟨g,2,none⟩ v2).setCell ⟨g,3,none⟩ v3).setCell ⟨g,4,none⟩ v4).setCell ⟨g,5,none⟩ v5).setCell ⟨g,6,none⟩ v6).setCell ⟨g,7,none⟩ v7).setCell ⟨g,8,none⟩ v8).setCell ⟨g,9,none⟩ v9) B g #[v0,v1,v2,v3,v4,v5,v6,v7,v8,v9,c10,c11] T:=h8.put 9 v9
 have h10:Blk (((((((((((w.setCell ⟨g,0,none⟩ v0).setCell ⟨g,1,none⟩ v1).setCell ⟨g,2,none⟩ v2).setCell ⟨g,3,none⟩ v3).setCell ⟨g,4,none⟩ v4).setCell ⟨g,5,none⟩ v5).setCell ⟨g,6,none⟩ v6).setCell ⟨g,7,none⟩ v7).setCell ⟨g,8,none⟩ v8).setCell ⟨g,9,none⟩ v9).setCell ⟨g,10,none⟩ v10) B g #[v0,v1,v2,v3,v4,v5,v6,v7,v8,v9,v10,c11] T:=h9.put 10 v10
 have h11:Blk ((((((((((((w.setCell ⟨g,0,none⟩ v0).setCell ⟨g,1,none⟩ v1).setCell ⟨g,2,none⟩ v2).setCell ⟨g,3,none⟩ v3).setCell ⟨g,4,none⟩ v4).setCell ⟨g,5,none⟩ v5).setCell ⟨g,6,none⟩ v6).setCell ⟨g,7,none⟩ v7).setCell ⟨g,8,none⟩ v8).setCell ⟨g,9,none⟩ v9).setCell ⟨g,10,none⟩ v10).setCell ⟨g,11,none⟩ v11) B g #[v0,v1,v2,v3,v4,v5,v6,v7,v8,v9,v10,v11] T:=h10.put 11 v11
 exact h11
theorem cellsD12 {w:World} {B g:Nat} {T:TypeId} {a0 a1 a2 a3 a4 a5 a6 a7 a8 a9 a10 a11:Value} (h:Blk w B g #[a0,a1,a2,a3,a4,a5,a6,a7,a8,a9,a10,a11] T) :
  w.cell? ⟨g,0,none⟩=some a0∧w.cell? ⟨g,1,none⟩=some a1∧w.cell? ⟨g,2,none⟩=some a2∧w.cell? ⟨g,3,none⟩=some a3∧w.cell? ⟨g,4,none⟩=some a4∧w.cell? ⟨g,5,none⟩=some a5∧w.cell? ⟨g,6,none⟩=some a6∧w.cell? ⟨g,7,none⟩=some a7∧w.cell? ⟨g,8,none⟩=some a8∧w.cell? ⟨g,9,none⟩=some a9∧w.cell? ⟨g,10,none⟩=some a10∧w.cell? ⟨g,11,none⟩=some a11∧w.frozen? ⟨g,0,none⟩=false∧w.frozen? ⟨g,1,none⟩=false∧w.frozen? ⟨g,2,none⟩=false∧w.frozen? ⟨g,3,none⟩=false∧w.frozen? ⟨g,4,none⟩=false∧w.frozen? ⟨g,5,none⟩=false∧w.frozen? ⟨g,6,none⟩=false∧w.frozen? ⟨g,7,none⟩=false∧w.frozen? ⟨g,8,none⟩=false∧w.frozen? ⟨g,9,none⟩=false∧w.frozen? ⟨g,10,none⟩=false∧w.frozen? ⟨g,11,none⟩=false:=⟨h.cell 0,h.cell 1,h.cell 2,h.cell 3,h.cell 4,h.cell 5,h.cell 6,h.cell 7,h.cell 8,h.cell 9,h.cell 10,h.cell 11,h.free 0,h.free 1,h.free 2,h.free 3,h.free 4,h.free 5,h.free 6,h.free 7,h.free 8,h.free 9,h.free 10,h.free 11⟩
theorem results_cell_tmp_rowD {P:Program} {fn:Func} {p u1:Tmp} {ty:TypeId} (h:fn.results=#[.cell p ty,.tmp u1]) (tmps:Array Value) (w:World) (g:Nat) (t:TypeId) (cs:Array Value) (fr:Nat×Nat) (d:TypeDesc)
  (hp:tmps.getD p undef = .pointer (some ⟨g,0,none⟩)) (hg:w.heap[g]? = some (.cells cs t fr))
  (hu:P.underlying ty=some d) (hd:(match d with | .struct _ | .array _ _=>true | _=>false)=true) (hi:(P.info? ty).map (·.size)=some cs.size) :
  (results fn tmps).run P w = .ok (.tuple #[.agg cs,tmps.getD u1 undef]) w:=by
 have hp':tmps[p]?.getD undef = .pointer (some ⟨g,0,none⟩):=by simpa using hp
 simp [results,h,hp',asAddr,run_loadVar_row w g t ty cs fr d hg hu hd hi]
section
variable {ws:List TokV} {s:PSt}
theorem def_none (hw:WOk ws) (h:atDefP ws s=false) (x:UInt8) (r:List UInt8) (hx:ltB x=true) (hd:defK (x :: r)≠0):isP ws (x :: r) s=false:=by
 rw [Bool.eq_false_iff]
 intro h1
 rw [is_word hw x r hx] at h1
 simp only [Bool.and_eq_true,decide_eq_true_eq] at h1
 unfold atDefP atNameP at h
 rw [h1.1,h1.2,decide_eq_true hd] at h
 cases h
theorem defK_one (l:List UInt8) (h:defK l≠0):l=[116,121,112,101,100,101,102]∨l=[99,111,110,115,116]∨l=[101,110,117,109]∨l=[115,116,114,117,99,116]∨l=[117,110,105,111,110]∨l=[101,120,99,101,112,116,105,111,110]∨l=[115,101,114,118,105,99,101]:=by
 unfold defK at h
 repeat' split at h
 all_goals first
  | (exact absurd rfl h)
  | simp_all
theorem dbody3 (nm ty:List UInt8) (s:PSt):bodyP ws 3 nm ty s=(⟨3,nm,ty,(conP ws 12 (needP ws [61] s)).1,[],[],[],[]⟩,(conP ws 12 (needP ws [61] s)).2):=by
 unfold bodyP;rw [if_pos rfl]
theorem dbody2 (nm ty:List UInt8) (s:PSt):bodyP ws 2 nm ty s=(⟨2,nm,ty,con0,[],(elemsP ws (atPlainP ws) 30 (memP ws) (ws.length+1) [] (needP ws [123] s)).1,[],[]⟩,needP ws [125] (elemsP ws (atPlainP ws) 30 (memP ws) (ws.length+1) [] (needP ws [123] s)).2):=by
 unfold bodyP;rw [if_neg (by decide),if_pos rfl]
theorem dbody4 (k:Nat) (hk:k=4∨k=5∨k=6) (nm ty:List UInt8) (s:PSt):bodyP ws k nm ty s=(⟨k,nm,ty,con0,(elemsP ws (atFieldP ws) 30 (fieldP ws) (ws.length+1) [] (needP ws [123] s)).1,[],[],[]⟩,needP ws [125] (elemsP ws (atFieldP ws) 30 (fieldP ws) (ws.length+1) [] (needP ws [123] s)).2):=by
 unfold bodyP;rw [if_neg (by omega),if_neg (by omega),if_pos hk];rfl
theorem dbody7 (nm ty:List UInt8) (s:PSt):bodyP ws 7 nm ty s =
    (let x:=if isP ws kExtends s then qualN ws (nextP s) else ([],s)
     let l:=elemsP ws (atMetP ws) 30 (metP ws) (ws.length+1) [] (needP ws [123] x.2)
     (⟨7,nm,ty,con0,[],[],x.1,l.1⟩,needP ws [125] l.2)):=by
  unfold bodyP;rw [if_neg (by decide),if_neg (by decide),if_neg (by decide),if_pos rfl]
theorem dbody1 (nm ty:List UInt8) (s:PSt):bodyP ws 1 nm ty s=(⟨1,nm,ty,con0,[],[],[],[]⟩,s):=by
 unfold bodyP;rw [if_neg (by decide),if_neg (by decide),if_neg (by decide),if_neg (by decide)]
end
def DDSt (b c:Nat) (A:Option Addr) (ws:List TokV) (g:Nat) (w:World) (s:PSt) (y:Dfn) (wx:World):Prop :=
 ∃ (dk:Nat) (ln lt:List UInt8) (xk:Nat) (xn:Int) (xd:Nat) (xs:List UInt8) (xA:Option Addr) (xm xc:Nat) (fA:Option Addr) (fm fc:Nat) (mA:Option Addr) (mm mc:Nat) (le:List UInt8) (sA:Option Addr) (sm sc:Nat) (y':Dfn),
  SD b c A ws g 56 w s #[.int .i64 (dk:Int),.string ⟨ln.toArray⟩,.string ⟨lt.toArray⟩,.int .i64 (xk:Int),.int .i64 xn,.int .u64 (xd:Int),.string ⟨xs.toArray⟩,.slice xA xm xc,.slice fA fm fc,.slice mA mm mc,.string ⟨le.toArray⟩,.slice sA sm sc] wx ∧
  RD wx (Fm (g+1)) ⟨dk,ln,lt,⟨xk,xn,xd,xs,.slice xA xm xc⟩,.slice fA fm fc,.slice mA mm mc,le,.slice sA sm sc⟩ y'∧(s.e=0→y'=y)
def DDefR (b c:Nat) (A:Option Addr) (ws:List TokV) (w:World) (B:Bool) (s s1:PSt) (y:Dfn) (e:Ending) (w':World):Prop :=
 ∃ x y',e = .returned (.tuple #[.agg (dfnA x),.bool B])∧(B=true→s1.e=0→y'=y)∧RD w' (Fm w.heap.size) x y'∧PB w' b A c ws (if B then sepP ws s1 else s)∧Oth b w w'
section
variable {w:World} {b c:Nat} {A:Option Addr} {ws:List TokV} {s:PSt}
set_option maxRecDepth 100000 in
set_option maxHeartbeats 6400000 in
theorem dstrukt_any (h0:PB w b A c ws s) (k:Nat) (ln:List UInt8) (sa:PSt) (h1:plainN ws s=(ln,sa)) (lf:List Fld) (sd:PSt) (h2:elemsP ws (atFieldP ws) 30 (fieldP ws) (ws.length+1) [] (needP ws [123] sa)=(lf,sd)) (s':PSt) (h3:needP ws [125] sd=s') :
  Calls Tryz.prog 80 #[.pointer (some ⟨b,0,none⟩),.int .i64 (k:Int)] w fun e w'=>∃ fA fc Lf,e = .returned (.agg #[.int .i64 (k:Int),.string ⟨ln.toArray⟩,.string ⟨#[]⟩,.int .i64 0,.int .i64 0,.int .u64 0,.string ⟨#[]⟩,.slice none 0 0,.slice fA Lf.length fc,.slice none 0 0,.string ⟨#[]⟩,.slice none 0 0])∧(s'.e=0→Lf=lf)∧LF w' (Fm w.heap.size) (.slice fA Lf.length fc) Lf∧PB w' b A c ws s'∧Oth b w w':=by
 have H:=Lib.hid h0
 have H1:=Lib.hid h1
 have H2:=Lib.hid h2
 have H3:=Lib.hid h3
 obtain ⟨g4,hg4⟩:∃ g,w.heap.size=g:=⟨_,rfl⟩
 have hB4:=Blk.new w #[.int .i64 0,.string ⟨#[]⟩,.string ⟨#[]⟩,.int .i64 0,.int .i64 0,.int .u64 0,.string ⟨#[]⟩,.slice none 0 0,.slice none 0 0,.slice none 0 0,.string ⟨#[]⟩,.slice none 0 0] 56
 rw [hg4] at hB4
 have hN4:Nx w (w.alloc (.cells #[.int .i64 0,.string ⟨#[]⟩,.string ⟨#[]⟩,.int .i64 0,.int .i64 0,.int .u64 0,.string ⟨#[]⟩,.slice none 0 0,.slice none 0 0,.slice none 0 0,.string ⟨#[]⟩,.slice none 0 0] 56)):=nx0 _ _
 have HB4:=Lib.hid hB4
 have HN4:=Lib.hid hN4
 have HG4:Hid (w.heap.size≤g4):=Nat.le_of_eq hg4
 have HBG:Hid (b<g4):=by have:=h0.bw;unfold Hid;omega
 clear h0 h1 h2 h3 hB4 hN4
 go_enter Tryz.func80,Tryz.ntmps80
 go_upto_region 1 with (fail)
 generalize World.alloc w _=w1 at *
 clear hg4
 go_wp2_with fail
 refine (dplain_any (H.out.nx HN4.out) ln sa H1.out).mono ?_;rintro e w2 ⟨rfl,hp2,ho2⟩
 obtain ⟨g5,hg5⟩:∃ g,w2.heap.size=g:=⟨_,rfl⟩
 have HS1:Hid (SD b c A ws g5 56 w2 sa #[.int .i64 (k:Int),.string ⟨ln.toArray⟩,.string ⟨#[]⟩,.int .i64 0,.int .i64 0,.int .u64 0,.string ⟨#[]⟩,.slice none 0 0,.slice none 0 0,.slice none 0 0,.string ⟨#[]⟩,.slice none 0 0] (w2.alloc (.cells #[.int .i64 (k:Int),.string ⟨ln.toArray⟩,.string ⟨#[]⟩,.int .i64 0,.int .i64 0,.int .u64 0,.string ⟨#[]⟩,.slice none 0 0,.slice none 0 0,.slice none 0 0,.string ⟨#[]⟩,.slice none 0 0] 56))):=SD.new hp2 hg5
 have HB2:=Lib.hid (ho2.blk HB4.out (by have:=HBG.out;omega))
 have HO2:=Lib.hid ((Oth.nx HN4.out).trans ho2)
 clear hp2 ho2
 go_upto_region 2 with (fail)
 generalize World.alloc w2 _=w3 at *
 clear hg5
 go_wp2_with fail
 refine (dneed_any HS1.out.pc _ 123 (Tx.of [123]) (by decide) _ rfl).mono ?_;rintro e w4 ⟨rfl,hp4,ho4⟩
 have HS4:=Lib.hid (HS1.out.step hp4 ho4)
 clear hp4 ho4 HS1
 go_wp2_with fail
 refine (dfields_any HS4.out.pc _ 125 (Tx.of [125]) (by decide) lf sd H2.out s' H3.out).mono ?_;rintro e w5 ⟨v5,Lf,rfl,hlf,hll,hp5,ho5⟩
 obtain ⟨fA,fc,-,rfl,-,-,-,-,-⟩:=hll.sl fldA_size
 have hs5:=HS4.out.step hp5 ho5
 have HLF:=Lib.hid hlf
 have HL5:Hid (LF w5 (Fm (g5+1)) (.slice fA Lf.length fc) Lf):=LF.lasts (Mv.less (by have:=HS4.out.bl.lt;omega)) hll
 have c8:w5.cell? ⟨g5,8,none⟩=some (.slice none 0 0):=hs5.ce 8
 have f8:=hs5.fr 8
 have HS5:Hid (SD b c A ws g5 56 w2 s' #[.int .i64 (k:Int),.string ⟨ln.toArray⟩,.string ⟨#[]⟩,.int .i64 0,.int .i64 0,.int .u64 0,.string ⟨#[]⟩,.slice none 0 0,.slice fA Lf.length fc,.slice none 0 0,.string ⟨#[]⟩,.slice none 0 0] (w5.setCell ⟨g5,8,none⟩ (.slice fA Lf.length fc))):=hs5.put 8 _ rfl
 have HL6:Hid (LF (w5.setCell ⟨g5,8,none⟩ (.slice fA Lf.length fc)) (Fm (g5+1)) (.slice fA Lf.length fc) Lf):=LF.lasts (Mv.oth (Oth.set _ _ _ _) (Nat.le_refl _) (Nat.lt_succ_self _)) HL5.out
 clear hs5 hp5 ho5 hlf hll HL5 HS4
 go_upto_region 4 with (fail)
 generalize World.setCell w5 _ _=w6 at *
 clear c8 f8
 have HR6:=Lib.hid (HS5.out.ot.blk HB2.out (by have:=HBG.out;omega))
 have hg45:g4<g5:=by have:=HB2.out.lt;have:=HS5.out.hg;omega
 have HG45:=Lib.hid hg45
 have HO6:=Lib.hid (HO2.out.trans HS5.out.ot)
 obtain ⟨d0,d1,d2,d3,d4,d5,d6,d7,d8,d9,d10,d11,-⟩:=cellsD12 HS5.out.bl
 obtain ⟨r0,r1,r2,r3,r4,r5,r6,r7,r8,r9,r10,r11,f0,f1,f2,f3,f4,f5,f6,f7,f8,f9,f10,f11⟩:=cellsD12 HR6.out
 clear hg45
 go_wp2_with fail
 refine bodyPost_ret (results_cell_row rfl _ _ g4 _ _ _ _ rfl (HR6.out.putD12).2 Tryz.underlying56 rfl (by kernel_rfl)) rfl ?_
 have HW:=(Oth.refl g4 w6) |>.own (i:=0) (v:=.int .i64 (k:Int)) |>.own (i:=1) (v:=.string ⟨ln.toArray⟩) |>.own (i:=2) (v:=.string ⟨#[]⟩) |>.own (i:=3) (v:=.int .i64 0) |>.own (i:=4) (v:=.int .i64 0) |>.own (i:=5) (v:=.int .u64 0) |>.own (i:=6) (v:=.string ⟨#[]⟩) |>.own (i:=7) (v:=.slice none 0 0) |>.own (i:=8) (v:=.slice fA Lf.length fc) |>.own (i:=9) (v:=.slice none 0 0) |>.own (i:=10) (v:=.string ⟨#[]⟩) |>.own (i:=11) (v:=.slice none 0 0)
 exact ⟨fA,fc,Lf,rfl,HLF.out,LF.lasts (Mv.oth HW (by have:=HG4.out;have:=HG45.out;omega) (by have:=HG45.out;omega)) HL6.out,HS5.out.pc.apart HW HBG.out,HO6.out.apartD HW HG4.out⟩
set_option maxRecDepth 100000 in
set_option maxHeartbeats 25600000 in
theorem ddef_any (h0:PB w b A c ws s) (he:s.e=0) (B:Bool) (hB:atDefP ws s=B) (y:Dfn) (s1:PSt) (hr:defP ws s=(y,s1)) :
  Calls Tryz.prog 55 #[.pointer (some ⟨b,0,none⟩)] w fun e w'=>DDefR b c A ws w B s s1 y e w':=by
 have H:=Lib.hid h0
 have HR:=Lib.hid hr
 have HTY:Hid (∀ (w:World) (s:PSt),PB w b A c ws s→∀ (l:List UInt8) (s':PSt),typeP ws 12 s=(l,s') →
   Calls Tryz.prog 75 #[.pointer (some ⟨b,0,none⟩),.int .i64 1] w fun e w'=>e = .returned (.string ⟨l.toArray⟩)∧PB w' b A c ws s'∧Oth b w w'):=fun w s h l s' hr=>dtyp_any h l s' hr
 have HCO:Hid (∀ (w:World) (s:PSt),PB w b A c ws s→∀ (y:Con) (s':PSt),conP ws 12 s=(y,s') →
   Calls Tryz.prog 78 #[.pointer (some ⟨b,0,none⟩),.int .i64 1] w fun e w'=>∃ x y',e = .returned (.agg (conA x))∧(s'.e=0→y'=y)∧RC 13 w' (Fm w.heap.size) x y'∧PB w' b A c ws s'∧Oth b w w'):=fun w s h y s' hr=>dcon_any h y s' hr
 obtain ⟨g2,hg2⟩:∃ g,w.heap.size=g:=⟨_,rfl⟩
 have hB2:=Blk.new w #[.int .i64 0,.string ⟨#[]⟩,.string ⟨#[]⟩,.int .i64 0,.int .i64 0,.int .u64 0,.string ⟨#[]⟩,.slice none 0 0,.slice none 0 0,.slice none 0 0,.string ⟨#[]⟩,.slice none 0 0] 56
 rw [hg2] at hB2
 have hN2:Nx w (w.alloc (.cells #[.int .i64 0,.string ⟨#[]⟩,.string ⟨#[]⟩,.int .i64 0,.int .i64 0,.int .u64 0,.string ⟨#[]⟩,.slice none 0 0,.slice none 0 0,.slice none 0 0,.string ⟨#[]⟩,.slice none 0 0] 56)):=nx0 _ _
 have HB2:=Lib.hid hB2
 have HN2:=Lib.hid hN2
 have HG2:Hid (w.heap.size≤g2):=Nat.le_of_eq hg2
 have HBG:Hid (b<g2):=by have:=h0.bw;unfold Hid;omega
 have hw:=now_word (ws:=ws) he
 obtain ⟨⟨tk,tt,tn,td,tp⟩,hT⟩:∃ T,Hid (nowP ws s=T):=⟨_,rfl⟩
 rw [hT.out] at hw
 have HBD:Hid ((decide (tk=1) && decide (defK tt≠0))=B):=by unfold Hid;rw [← hB];unfold atDefP atNameP;rw [hw]
 have HAD:=Lib.hid hB
 have HOK:Hid (WOk ws):=h0.ok
 have HW0:=Lib.hid hw
 clear h0 hr hB2 hN2 hw hB
 go_enter Tryz.func55,Tryz.ntmps55
 go_upto_region 1 with (fail)
 generalize World.alloc w _=w1 at *
 clear hg2
 obtain ⟨g,hg⟩:∃ g,w1.heap.size=g:=⟨_,rfl⟩
 have HS1:Hid (SD b c A ws g 56 w1 s #[.int .i64 0,.string ⟨#[]⟩,.string ⟨#[]⟩,.int .i64 0,.int .i64 0,.int .u64 0,.string ⟨#[]⟩,.slice none 0 0,.slice none 0 0,.slice none 0 0,.string ⟨#[]⟩,.slice none 0 0] (w1.alloc (.cells #[.int .i64 0,.string ⟨#[]⟩,.string ⟨#[]⟩,.int .i64 0,.int .i64 0,.int .u64 0,.string ⟨#[]⟩,.slice none 0 0,.slice none 0 0,.slice none 0 0,.string ⟨#[]⟩,.slice none 0 0] 56))):=SD.new (H.out.nx HN2.out) hg
 have HG2G:Hid (g2<g):=by have:=HB2.out.lt;unfold Hid;omega
 go_upto_block 0 with (fail)
 generalize World.alloc w1 _=w2 at *
 clear hg he
 go_cut [] (fun wx=>Hid (B=true)∧DDSt b c A ws g w1 s1 y wx)
 case first =>
  cases B
  ·have hno:=HAD.out
   have hF1:Hid (isP ws [116,121,112,101,100,101,102] s=false):=def_none HOK.out hno 116 [121,112,101,100,101,102] (by decide) (by decide)
   have hF3:Hid (isP ws [99,111,110,115,116] s=false):=def_none HOK.out hno 99 [111,110,115,116] (by decide) (by decide)
   have hF2:Hid (isP ws [101,110,117,109] s=false):=def_none HOK.out hno 101 [110,117,109] (by decide) (by decide)
   have hF4:Hid (isP ws [115,116,114,117,99,116] s=false):=def_none HOK.out hno 115 [116,114,117,99,116] (by decide) (by decide)
   have hF5:Hid (isP ws [117,110,105,111,110] s=false):=def_none HOK.out hno 117 [110,105,111,110] (by decide) (by decide)
   have hF6:Hid (isP ws [101,120,99,101,112,116,105,111,110] s=false):=def_none HOK.out hno 101 [120,99,101,112,116,105,111,110] (by decide) (by decide)
   have hF7:Hid (isP ws [115,101,114,118,105,99,101] s=false):=def_none HOK.out hno 115 [101,114,118,105,99,101] (by decide) (by decide)
   clear HR hno
   go_wp2_with fail
   refine (dtook_any HS1.out.pc _ 116 [121,112,101,100,101,102] (Tx.of [116,121,112,101,100,101,102]) (by decide) false hF1.out).mono ?_;rintro e w10 ⟨rfl,hp10,ho10⟩
   have HS10:Hid (SD b c A ws g 56 w1 s #[.int .i64 0,.string ⟨#[]⟩,.string ⟨#[]⟩,.int .i64 0,.int .i64 0,.int .u64 0,.string ⟨#[]⟩,.slice none 0 0,.slice none 0 0,.slice none 0 0,.string ⟨#[]⟩,.slice none 0 0] w10):=Lib.hid (HS1.out.step hp10 ho10)
   clear hp10 ho10 HS1
   go_wp2_with fail
   refine (dtook_any HS10.out.pc _ 99 [111,110,115,116] (Tx.of [99,111,110,115,116]) (by decide) false hF3.out).mono ?_;rintro e w11 ⟨rfl,hp11,ho11⟩
   have HS11:Hid (SD b c A ws g 56 w1 s #[.int .i64 0,.string ⟨#[]⟩,.string ⟨#[]⟩,.int .i64 0,.int .i64 0,.int .u64 0,.string ⟨#[]⟩,.slice none 0 0,.slice none 0 0,.slice none 0 0,.string ⟨#[]⟩,.slice none 0 0] w11):=Lib.hid (HS10.out.step hp11 ho11)
   clear hp11 ho11 HS10
   go_wp2_with fail
   refine (dtook_any HS11.out.pc _ 101 [110,117,109] (Tx.of [101,110,117,109]) (by decide) false hF2.out).mono ?_;rintro e w12 ⟨rfl,hp12,ho12⟩
   have HS12:Hid (SD b c A ws g 56 w1 s #[.int .i64 0,.string ⟨#[]⟩,.string ⟨#[]⟩,.int .i64 0,.int .i64 0,.int .u64 0,.string ⟨#[]⟩,.slice none 0 0,.slice none 0 0,.slice none 0 0,.string ⟨#[]⟩,.slice none 0 0] w12):=Lib.hid (HS11.out.step hp12 ho12)
   clear hp12 ho12 HS11
   go_wp2_with fail
   refine (dtook_any HS12.out.pc _ 115 [116,114,117,99,116] (Tx.of [115,116,114,117,99,116]) (by decide) false hF4.out).mono ?_;rintro e w13 ⟨rfl,hp13,ho13⟩
   have HS13:Hid (SD b c A ws g 56 w1 s #[.int .i64 0,.string ⟨#[]⟩,.string ⟨#[]⟩,.int .i64 0,.int .i64 0,.int .u64 0,.string ⟨#[]⟩,.slice none 0 0,.slice none 0 0,.slice none 0 0,.string ⟨#[]⟩,.slice none 0 0] w13):=Lib.hid (HS12.out.step hp13 ho13)
   clear hp13 ho13 HS12
   go_wp2_with fail
   refine (dtook_any HS13.out.pc _ 117 [110,105,111,110] (Tx.of [117,110,105,111,110]) (by decide) false hF5.out).mono ?_;rintro e w14 ⟨rfl,hp14,ho14⟩
   have HS14:Hid (SD b c A ws g 56 w1 s #[.int .i64 0,.string ⟨#[]⟩,.string ⟨#[]⟩,.int .i64 0,.int .i64 0,.int .u64 0,.string ⟨#[]⟩,.slice none 0 0,.slice none 0 0,.slice none 0 0,.string ⟨#[]⟩,.slice none 0 0] w14):=Lib.hid (HS13.out.step hp14 ho14)
   clear hp14 ho14 HS13
   go_wp2_with fail
   refine (dtook_any HS14.out.pc _ 101 [120,99,101,112,116,105,111,110] (Tx.of [101,120,99,101,112,116,105,111,110]) (by decide) false hF6.out).mono ?_;rintro e w15 ⟨rfl,hp15,ho15⟩
   have HS15:Hid (SD b c A ws g 56 w1 s #[.int .i64 0,.string ⟨#[]⟩,.string ⟨#[]⟩,.int .i64 0,.int .i64 0,.int .u64 0,.string ⟨#[]⟩,.slice none 0 0,.slice none 0 0,.slice none 0 0,.string ⟨#[]⟩,.slice none 0 0] w15):=Lib.hid (HS14.out.step hp15 ho15)
   clear hp15 ho15 HS14
   go_wp2_with fail
   refine (dtook_any HS15.out.pc _ 115 [101,114,118,105,99,101] (Tx.of [115,101,114,118,105,99,101]) (by decide) false hF7.out).mono ?_;rintro e w16 ⟨rfl,hp16,ho16⟩
   have HS16:Hid (SD b c A ws g 56 w1 s #[.int .i64 0,.string ⟨#[]⟩,.string ⟨#[]⟩,.int .i64 0,.int .i64 0,.int .u64 0,.string ⟨#[]⟩,.slice none 0 0,.slice none 0 0,.slice none 0 0,.string ⟨#[]⟩,.slice none 0 0] w16):=Lib.hid (HS15.out.step hp16 ho16)
   clear hp16 ho16 HS15
   obtain ⟨d0,d1,d2,d3,d4,d5,d6,d7,d8,d9,d10,d11,-⟩:=cellsD12 HS16.out.bl
   have HR6:=Lib.hid (HS16.out.ot.blk HB2.out (by have:=HBG.out;omega))
   obtain ⟨r0,r1,r2,r3,r4,r5,r6,r7,r8,r9,r10,r11,f0,f1,f2,f3,f4,f5,f6,f7,f8,f9,f10,f11⟩:=cellsD12 HR6.out
   go_wp2_with fail
   refine bodyPost_ret (results_cell_tmp_rowD rfl _ _ g2 _ _ _ _ rfl (HR6.out.putD12).2 Tryz.underlying56 rfl (by kernel_rfl)) rfl ?_
   have HW:=(Oth.refl g2 w16) |>.own (i:=0) (v:=.int .i64 0) |>.own (i:=1) (v:=.string ⟨#[]⟩) |>.own (i:=2) (v:=.string ⟨#[]⟩) |>.own (i:=3) (v:=.int .i64 0) |>.own (i:=4) (v:=.int .i64 0) |>.own (i:=5) (v:=.int .u64 0) |>.own (i:=6) (v:=.string ⟨#[]⟩) |>.own (i:=7) (v:=.slice none 0 0) |>.own (i:=8) (v:=.slice none 0 0) |>.own (i:=9) (v:=.slice none 0 0) |>.own (i:=10) (v:=.string ⟨#[]⟩) |>.own (i:=11) (v:=.slice none 0 0)
   exact ⟨⟨0,[],[],⟨0,0,0,[],.slice none 0 0⟩,.slice none 0 0,.slice none 0 0,[],.slice none 0 0⟩,dfn0,rfl,fun h=>(by cases h),⟨rfl,rfl,rfl,rc_con0,RepL.nil_,RepL.nil_,rfl,RepL.nil_⟩,HS16.out.pc.apart HW HBG.out,((Oth.nx HN2.out).trans HS16.out.ot).apartD HW HG2.out⟩
  ·have hbd:=HBD.out
   simp only [Bool.and_eq_true,decide_eq_true_eq] at hbd
   obtain ⟨rfl,hk⟩:=hbd
   have hone:=defK_one tt hk
   have HW:=HW0
   clear hk HBD HW0 HAD
   rcases hone with rfl | rfl | rfl | rfl | rfl | rfl | rfl
   ·
    have HW2:Hid (wordP ws s=⟨1,[116,121,112,101,100,101,102],tn,td,tp⟩):=HW.out
    have hTT:Hid (isP ws [116,121,112,101,100,101,102] s=true):=by unfold Hid;rw [is_name HW2.out];decide
    have hx:=HR.out
    unfold defP at hx
    dsimp only at hx
    rw [HW2.out] at hx
    dsimp only at hx
    rw [show defK [116,121,112,101,100,101,102]=1 by decide] at hx
    rw [if_pos (by decide)] at hx
    obtain ⟨⟨lt,s2⟩,h2⟩:∃ r,Hid (typeP ws 12 (nextP s)=r):=⟨_,rfl⟩
    rw [h2.out] at hx
    dsimp only at hx
    obtain ⟨⟨ln,s3⟩,h3⟩:∃ r,Hid (plainN ws s2=r):=⟨_,rfl⟩
    rw [h3.out] at hx
    dsimp only at hx
    rw [dbody1] at hx
    simp only [Prod.mk.injEq] at hx
    obtain ⟨rfl,rfl⟩:=hx
    clear HR
    go_wp2_with fail
    refine (dtook_any HS1.out.pc _ 116 [121,112,101,100,101,102] (Tx.of [116,121,112,101,100,101,102]) (by decide) true hTT.out).mono ?_;rintro e w10 ⟨rfl,hp10,ho10⟩
    have HS10:Hid (SD b c A ws g 56 w1 (nextP s) #[.int .i64 0,.string ⟨#[]⟩,.string ⟨#[]⟩,.int .i64 0,.int .i64 0,.int .u64 0,.string ⟨#[]⟩,.slice none 0 0,.slice none 0 0,.slice none 0 0,.string ⟨#[]⟩,.slice none 0 0] w10):=Lib.hid (HS1.out.step hp10 ho10)
    clear hp10 ho10 HS1
    go_wp2_with fail
    refine (HTY.out _ _ HS10.out.pc lt s2 h2.out).mono ?_;rintro e w30 ⟨rfl,hp30,ho30⟩
    have hs30:=HS10.out.step hp30 ho30
    have c0:w30.cell? ⟨g,0,none⟩=some (.int .i64 0):=hs30.ce 0
    have c2:w30.cell? ⟨g,2,none⟩=some (.string ⟨#[]⟩):=hs30.ce 2
    have f0:=hs30.fr 0
    have f2:=hs30.fr 2
    have HS31:Hid (SD b c A ws g 56 w1 s2 #[.int .i64 1,.string ⟨#[]⟩,.string ⟨lt.toArray⟩,.int .i64 0,.int .i64 0,.int .u64 0,.string ⟨#[]⟩,.slice none 0 0,.slice none 0 0,.slice none 0 0,.string ⟨#[]⟩,.slice none 0 0] ((w30.setCell ⟨g,0,none⟩ (.int .i64 1)).setCell ⟨g,2,none⟩ (.string ⟨lt.toArray⟩))):=((hs30.put 0 _ rfl).put 2 _ rfl)
    clear hp30 ho30 hs30
    go_upto_region 5 with (fail)
    generalize World.setCell (World.setCell w30 _ _) _ _=w31 at *
    clear c0 c2 f0 f2
    go_wp2_with fail
    refine (dplain_any HS31.out.pc ln s3 h3.out).mono ?_;rintro e w32 ⟨rfl,hp32,ho32⟩
    have hs32:=HS31.out.step hp32 ho32
    have c1:w32.cell? ⟨g,1,none⟩=some (.string ⟨#[]⟩):=hs32.ce 1
    have f1:=hs32.fr 1
    have HS33:Hid (SD b c A ws g 56 w1 s3 #[.int .i64 1,.string ⟨ln.toArray⟩,.string ⟨lt.toArray⟩,.int .i64 0,.int .i64 0,.int .u64 0,.string ⟨#[]⟩,.slice none 0 0,.slice none 0 0,.slice none 0 0,.string ⟨#[]⟩,.slice none 0 0] (w32.setCell ⟨g,1,none⟩ (.string ⟨ln.toArray⟩))):=(hs32.put 1 _ rfl)
    clear hp32 ho32 hs32
    go_wp2_with fail
    go_meet
    case rel=>exact ⟨(by first | exact trivial | exact rfl),1,ln,lt,0,0,0,[],none,0,0,none,0,0,none,0,0,[],none,0,0,⟨1,ln,lt,con0,[],[],[],[]⟩,HS33.out,⟨rfl,rfl,rfl,rc_con0,RepL.nil_,RepL.nil_,rfl,RepL.nil_⟩,fun _=>rfl⟩
   ·
    have HW2:Hid (wordP ws s=⟨1,[99,111,110,115,116],tn,td,tp⟩):=HW.out
    have hTT:Hid (isP ws [99,111,110,115,116] s=true):=by unfold Hid;rw [is_name HW2.out];decide
    have hF1:Hid (isP ws [116,121,112,101,100,101,102] s=false):=by unfold Hid;rw [is_name HW2.out];decide
    have hx:=HR.out
    unfold defP at hx
    dsimp only at hx
    rw [HW2.out] at hx
    dsimp only at hx
    rw [show defK [99,111,110,115,116]=3 by decide] at hx
    rw [if_pos (by decide)] at hx
    obtain ⟨⟨lt,s2⟩,h2⟩:∃ r,Hid (typeP ws 12 (nextP s)=r):=⟨_,rfl⟩
    rw [h2.out] at hx
    dsimp only at hx
    obtain ⟨⟨ln,s3⟩,h3⟩:∃ r,Hid (plainN ws s2=r):=⟨_,rfl⟩
    rw [h3.out] at hx
    dsimp only at hx
    obtain ⟨⟨yc,s4⟩,h4⟩:∃ r,Hid (conP ws 12 (needP ws [61] s3)=r):=⟨_,rfl⟩
    rw [dbody3,h4.out] at hx
    simp only [Prod.mk.injEq] at hx
    obtain ⟨rfl,rfl⟩:=hx
    clear HR
    go_wp2_with fail
    refine (dtook_any HS1.out.pc _ 116 [121,112,101,100,101,102] (Tx.of [116,121,112,101,100,101,102]) (by decide) false hF1.out).mono ?_;rintro e w10 ⟨rfl,hp10,ho10⟩
    have HS10:Hid (SD b c A ws g 56 w1 s #[.int .i64 0,.string ⟨#[]⟩,.string ⟨#[]⟩,.int .i64 0,.int .i64 0,.int .u64 0,.string ⟨#[]⟩,.slice none 0 0,.slice none 0 0,.slice none 0 0,.string ⟨#[]⟩,.slice none 0 0] w10):=Lib.hid (HS1.out.step hp10 ho10)
    clear hp10 ho10 HS1
    go_wp2_with fail
    refine (dtook_any HS10.out.pc _ 99 [111,110,115,116] (Tx.of [99,111,110,115,116]) (by decide) true hTT.out).mono ?_;rintro e w11 ⟨rfl,hp11,ho11⟩
    have HS11:Hid (SD b c A ws g 56 w1 (nextP s) #[.int .i64 0,.string ⟨#[]⟩,.string ⟨#[]⟩,.int .i64 0,.int .i64 0,.int .u64 0,.string ⟨#[]⟩,.slice none 0 0,.slice none 0 0,.slice none 0 0,.string ⟨#[]⟩,.slice none 0 0] w11):=Lib.hid (HS10.out.step hp11 ho11)
    clear hp11 ho11 HS10
    go_wp2_with fail
    refine (HTY.out _ _ HS11.out.pc lt s2 h2.out).mono ?_;rintro e w30 ⟨rfl,hp30,ho30⟩
    have hs30:=HS11.out.step hp30 ho30
    have c0:w30.cell? ⟨g,0,none⟩=some (.int .i64 0):=hs30.ce 0
    have c2:w30.cell? ⟨g,2,none⟩=some (.string ⟨#[]⟩):=hs30.ce 2
    have f0:=hs30.fr 0
    have f2:=hs30.fr 2
    have HS31:Hid (SD b c A ws g 56 w1 s2 #[.int .i64 3,.string ⟨#[]⟩,.string ⟨lt.toArray⟩,.int .i64 0,.int .i64 0,.int .u64 0,.string ⟨#[]⟩,.slice none 0 0,.slice none 0 0,.slice none 0 0,.string ⟨#[]⟩,.slice none 0 0] ((w30.setCell ⟨g,0,none⟩ (.int .i64 3)).setCell ⟨g,2,none⟩ (.string ⟨lt.toArray⟩))):=((hs30.put 0 _ rfl).put 2 _ rfl)
    clear hp30 ho30 hs30
    go_upto_region 8 with (fail)
    generalize World.setCell (World.setCell w30 _ _) _ _=w31 at *
    clear c0 c2 f0 f2
    go_wp2_with fail
    refine (dplain_any HS31.out.pc ln s3 h3.out).mono ?_;rintro e w32 ⟨rfl,hp32,ho32⟩
    have hs32:=HS31.out.step hp32 ho32
    have c1:w32.cell? ⟨g,1,none⟩=some (.string ⟨#[]⟩):=hs32.ce 1
    have f1:=hs32.fr 1
    have HS33:Hid (SD b c A ws g 56 w1 s3 #[.int .i64 3,.string ⟨ln.toArray⟩,.string ⟨lt.toArray⟩,.int .i64 0,.int .i64 0,.int .u64 0,.string ⟨#[]⟩,.slice none 0 0,.slice none 0 0,.slice none 0 0,.string ⟨#[]⟩,.slice none 0 0] (w32.setCell ⟨g,1,none⟩ (.string ⟨ln.toArray⟩))):=(hs32.put 1 _ rfl)
    clear hp32 ho32 hs32
    go_upto_region 9 with (fail)
    generalize World.setCell w32 _ _=w33 at *
    clear c1 f1
    go_wp2_with fail
    refine (dneed_any HS33.out.pc _ 61 (Tx.of [61]) (by decide) _ rfl).mono ?_;rintro e w34 ⟨rfl,hp34,ho34⟩
    have HS34:=Lib.hid (HS33.out.step hp34 ho34)
    clear hp34 ho34
    go_wp2_with fail
    refine (HCO.out _ _ HS34.out.pc yc s4 h4.out).mono ?_;rintro e w35 ⟨⟨xk,xn,xd,xs,xl⟩,yc',rfl,hyc,hr35,hp35,ho35⟩
    have HYC:=Lib.hid hyc
    obtain ⟨xy,-,xh⟩:=RC.of hr35
    obtain ⟨xA,xc,-,rfl,-,-,-,-,-⟩:=xh.sl conA_size
    clear xh hyc
    rw [show conA ⟨xk,xn,xd,xs,.slice xA xy.length xc⟩=#[.int .i64 (xk:Int),.int .i64 xn,.int .u64 (xd:Int),.string ⟨xs.toArray⟩,.slice xA xy.length xc] from rfl]
    have hs35:=HS34.out.step hp35 ho35
    have c3:w35.cell? ⟨g,3,none⟩=some (.int .i64 0):=hs35.ce 3
    have c4:w35.cell? ⟨g,4,none⟩=some (.int .i64 0):=hs35.ce 4
    have c5:w35.cell? ⟨g,5,none⟩=some (.int .u64 0):=hs35.ce 5
    have c6:w35.cell? ⟨g,6,none⟩=some (.string ⟨#[]⟩):=hs35.ce 6
    have c7:w35.cell? ⟨g,7,none⟩=some (.slice none 0 0):=hs35.ce 7
    have f3:=hs35.fr 3
    have f4:=hs35.fr 4
    have f5:=hs35.fr 5
    have f6:=hs35.fr 6
    have f7:=hs35.fr 7
    have HS35:=Lib.hid hs35
    have HR35:Hid (RC 13 w35 (Fm (g+1)) ⟨xk,xn,xd,xs,.slice xA xy.length xc⟩ yc'):=RC.lasts _ (Mv.less (by have:=HS34.out.bl.lt;omega)) hr35
    clear hs35 hp35 ho35 hr35
    go_wp2_with fail
    go_meet
    case rel =>
     have hfin_0:SD b c A ws g 56 w1 s4 #[.int .i64 3,.string ⟨ln.toArray⟩,.string ⟨lt.toArray⟩,.int .i64 (xk:Int),.int .i64 0,.int .u64 0,.string ⟨#[]⟩,.slice none 0 0,.slice none 0 0,.slice none 0 0,.string ⟨#[]⟩,.slice none 0 0] _:=HS35.out.put 3 (.int .i64 (xk:Int)) rfl
     have hfin_1:SD b c A ws g 56 w1 s4 #[.int .i64 3,.string ⟨ln.toArray⟩,.string ⟨lt.toArray⟩,.int .i64 (xk:Int),.int .i64 xn,.int .u64 0,.string ⟨#[]⟩,.slice none 0 0,.slice none 0 0,.slice none 0 0,.string ⟨#[]⟩,.slice none 0 0] _:=hfin_0.put 4 (.int .i64 xn) rfl
     have hfin_2:SD b c A ws g 56 w1 s4 #[.int .i64 3,.string ⟨ln.toArray⟩,.string ⟨lt.toArray⟩,.int .i64 (xk:Int),.int .i64 xn,.int .u64 (xd:Int),.string ⟨#[]⟩,.slice none 0 0,.slice none 0 0,.slice none 0 0,.string ⟨#[]⟩,.slice none 0 0] _:=hfin_1.put 5 (.int .u64 (xd:Int)) rfl
     have hfin_3:SD b c A ws g 56 w1 s4 #[.int .i64 3,.string ⟨ln.toArray⟩,.string ⟨lt.toArray⟩,.int .i64 (xk:Int),.int .i64 xn,.int .u64 (xd:Int),.string ⟨xs.toArray⟩,.slice none 0 0,.slice none 0 0,.slice none 0 0,.string ⟨#[]⟩,.slice none 0 0] _:=hfin_2.put 6 (.string ⟨xs.toArray⟩) rfl
     have hfin:SD b c A ws g 56 w1 s4 #[.int .i64 3,.string ⟨ln.toArray⟩,.string ⟨lt.toArray⟩,.int .i64 (xk:Int),.int .i64 xn,.int .u64 (xd:Int),.string ⟨xs.toArray⟩,.slice xA xy.length xc,.slice none 0 0,.slice none 0 0,.string ⟨#[]⟩,.slice none 0 0] _:=hfin_3.put 7 (.slice xA xy.length xc) rfl
     have HW:=(Oth.refl g w35) |>.own (i:=3) (v:=.int .i64 (xk:Int)) |>.own (i:=4) (v:=.int .i64 xn) |>.own (i:=5) (v:=.int .u64 (xd:Int)) |>.own (i:=6) (v:=.string ⟨xs.toArray⟩) |>.own (i:=7) (v:=.slice xA xy.length xc)
     exact ⟨(by first | exact trivial | exact rfl),3,ln,lt,xk,xn,xd,xs,xA,xy.length,xc,none,0,0,none,0,0,[],none,0,0,⟨3,ln,lt,yc',[],[],[],[]⟩,hfin,⟨rfl,rfl,rfl,RC.lasts _ (Mv.oth HW (Nat.le_refl _) (Nat.lt_succ_self _)) HR35.out,RepL.nil_,RepL.nil_,rfl,RepL.nil_⟩,fun h=>by rw [HYC.out h]⟩
   ·
    have HW2:Hid (wordP ws s=⟨1,[101,110,117,109],tn,td,tp⟩):=HW.out
    have hTT:Hid (isP ws [101,110,117,109] s=true):=by unfold Hid;rw [is_name HW2.out];decide
    have hF1:Hid (isP ws [116,121,112,101,100,101,102] s=false):=by unfold Hid;rw [is_name HW2.out];decide
    have hF3:Hid (isP ws [99,111,110,115,116] s=false):=by unfold Hid;rw [is_name HW2.out];decide
    have hx:=HR.out
    unfold defP at hx
    dsimp only at hx
    rw [HW2.out] at hx
    dsimp only at hx
    rw [show defK [101,110,117,109]=2 by decide] at hx
    rw [if_neg (by decide)] at hx
    dsimp only at hx
    obtain ⟨⟨ln,s3⟩,h3⟩:∃ r,Hid (plainN ws (nextP s)=r):=⟨_,rfl⟩
    rw [h3.out] at hx
    dsimp only at hx
    obtain ⟨⟨lm,s4⟩,h4⟩:∃ r,Hid (elemsP ws (atPlainP ws) 30 (memP ws) (ws.length+1) [] (needP ws [123] s3)=r):=⟨_,rfl⟩
    rw [dbody2,h4.out] at hx
    simp only [Prod.mk.injEq] at hx
    obtain ⟨rfl,hs5⟩:=hx
    have HS5E:=Lib.hid hs5
    clear HR hs5
    go_wp2_with fail
    refine (dtook_any HS1.out.pc _ 116 [121,112,101,100,101,102] (Tx.of [116,121,112,101,100,101,102]) (by decide) false hF1.out).mono ?_;rintro e w10 ⟨rfl,hp10,ho10⟩
    have HS10:Hid (SD b c A ws g 56 w1 s #[.int .i64 0,.string ⟨#[]⟩,.string ⟨#[]⟩,.int .i64 0,.int .i64 0,.int .u64 0,.string ⟨#[]⟩,.slice none 0 0,.slice none 0 0,.slice none 0 0,.string ⟨#[]⟩,.slice none 0 0] w10):=Lib.hid (HS1.out.step hp10 ho10)
    clear hp10 ho10 HS1
    go_wp2_with fail
    refine (dtook_any HS10.out.pc _ 99 [111,110,115,116] (Tx.of [99,111,110,115,116]) (by decide) false hF3.out).mono ?_;rintro e w11 ⟨rfl,hp11,ho11⟩
    have HS11:Hid (SD b c A ws g 56 w1 s #[.int .i64 0,.string ⟨#[]⟩,.string ⟨#[]⟩,.int .i64 0,.int .i64 0,.int .u64 0,.string ⟨#[]⟩,.slice none 0 0,.slice none 0 0,.slice none 0 0,.string ⟨#[]⟩,.slice none 0 0] w11):=Lib.hid (HS10.out.step hp11 ho11)
    clear hp11 ho11 HS10
    go_wp2_with fail
    refine (dtook_any HS11.out.pc _ 101 [110,117,109] (Tx.of [101,110,117,109]) (by decide) true hTT.out).mono ?_;rintro e w12 ⟨rfl,hp12,ho12⟩
    have HS12:Hid (SD b c A ws g 56 w1 (nextP s) #[.int .i64 0,.string ⟨#[]⟩,.string ⟨#[]⟩,.int .i64 0,.int .i64 0,.int .u64 0,.string ⟨#[]⟩,.slice none 0 0,.slice none 0 0,.slice none 0 0,.string ⟨#[]⟩,.slice none 0 0] w12):=Lib.hid (HS11.out.step hp12 ho12)
    clear hp12 ho12 HS11
    go_wp2_with fail
    refine (dplain_any HS12.out.pc ln s3 h3.out).mono ?_;rintro e w30 ⟨rfl,hp30,ho30⟩
    have hs30:=HS12.out.step hp30 ho30
    have c0:w30.cell? ⟨g,0,none⟩=some (.int .i64 0):=hs30.ce 0
    have c1:w30.cell? ⟨g,1,none⟩=some (.string ⟨#[]⟩):=hs30.ce 1
    have f0:=hs30.fr 0
    have f1:=hs30.fr 1
    have HS31:Hid (SD b c A ws g 56 w1 s3 #[.int .i64 2,.string ⟨ln.toArray⟩,.string ⟨#[]⟩,.int .i64 0,.int .i64 0,.int .u64 0,.string ⟨#[]⟩,.slice none 0 0,.slice none 0 0,.slice none 0 0,.string ⟨#[]⟩,.slice none 0 0] ((w30.setCell ⟨g,0,none⟩ (.int .i64 2)).setCell ⟨g,1,none⟩ (.string ⟨ln.toArray⟩))):=((hs30.put 0 _ rfl).put 1 _ rfl)
    clear hp30 ho30 hs30
    go_upto_region 13 with (fail)
    generalize World.setCell (World.setCell w30 _ _) _ _=w31 at *
    clear c0 c1 f0 f1
    go_wp2_with fail
    refine (dneed_any HS31.out.pc _ 123 (Tx.of [123]) (by decide) _ rfl).mono ?_;rintro e w34 ⟨rfl,hp34,ho34⟩
    have HS34:=Lib.hid (HS31.out.step hp34 ho34)
    clear hp34 ho34
    go_wp2_with fail
    refine (dmembers_any HS34.out.pc lm s4 h4.out s1 HS5E.out).mono ?_;rintro e w35 ⟨v35,Lm,rfl,hlm,hll,hp35,ho35⟩
    obtain ⟨mA,mc,-,rfl,-,-,-,-,-⟩:=hll.sl memA_size
    have hs35:=HS34.out.step hp35 ho35
    have HLM:=Lib.hid hlm
    have HL35:Hid (LMm w35 (Fm (g+1)) (.slice mA Lm.length mc) Lm):=LMm.lasts (Mv.less (by have:=HS34.out.bl.lt;omega)) hll
    have c9:w35.cell? ⟨g,9,none⟩=some (.slice none 0 0):=hs35.ce 9
    have f9:=hs35.fr 9
    have HS35:=Lib.hid hs35
    clear hs35 hp35 ho35 hlm hll
    go_wp2_with fail
    go_meet
    case rel =>
     have hfin:SD b c A ws g 56 w1 s1 #[.int .i64 2,.string ⟨ln.toArray⟩,.string ⟨#[]⟩,.int .i64 0,.int .i64 0,.int .u64 0,.string ⟨#[]⟩,.slice none 0 0,.slice none 0 0,.slice mA Lm.length mc,.string ⟨#[]⟩,.slice none 0 0] _:=HS35.out.put 9 (.slice mA Lm.length mc) rfl
     exact ⟨(by first | exact trivial | exact rfl),2,ln,[],0,0,0,[],none,0,0,none,0,0,mA,Lm.length,mc,[],none,0,0,⟨2,ln,[],con0,[],Lm,[],[]⟩,hfin,⟨rfl,rfl,rfl,rc_con0,RepL.nil_,LMm.lasts (Mv.oth (Oth.set w35 g 9 _) (Nat.le_refl _) (Nat.lt_succ_self _)) HL35.out,rfl,RepL.nil_⟩,fun h=>by rw [HLM.out h]⟩
   ·
    have HW2:Hid (wordP ws s=⟨1,[115,116,114,117,99,116],tn,td,tp⟩):=HW.out
    have hTT:Hid (isP ws [115,116,114,117,99,116] s=true):=by unfold Hid;rw [is_name HW2.out];decide
    have hF1:Hid (isP ws [116,121,112,101,100,101,102] s=false):=by unfold Hid;rw [is_name HW2.out];decide
    have hF3:Hid (isP ws [99,111,110,115,116] s=false):=by unfold Hid;rw [is_name HW2.out];decide
    have hF2:Hid (isP ws [101,110,117,109] s=false):=by unfold Hid;rw [is_name HW2.out];decide
    have hx:=HR.out
    unfold defP at hx
    dsimp only at hx
    rw [HW2.out] at hx
    dsimp only at hx
    rw [show defK [115,116,114,117,99,116]=4 by decide] at hx
    rw [if_neg (by decide)] at hx
    dsimp only at hx
    obtain ⟨⟨ln,s3⟩,h3⟩:∃ r,Hid (plainN ws (nextP s)=r):=⟨_,rfl⟩
    rw [h3.out] at hx
    dsimp only at hx
    obtain ⟨⟨lf,s4⟩,h4⟩:∃ r,Hid (elemsP ws (atFieldP ws) 30 (fieldP ws) (ws.length+1) [] (needP ws [123] s3)=r):=⟨_,rfl⟩
    rw [dbody4 4 (by decide),h4.out] at hx
    simp only [Prod.mk.injEq] at hx
    obtain ⟨rfl,hs5⟩:=hx
    have HS5E:=Lib.hid hs5
    clear HR hs5
    go_wp2_with fail
    refine (dtook_any HS1.out.pc _ 116 [121,112,101,100,101,102] (Tx.of [116,121,112,101,100,101,102]) (by decide) false hF1.out).mono ?_;rintro e w10 ⟨rfl,hp10,ho10⟩
    have HS10:Hid (SD b c A ws g 56 w1 s #[.int .i64 0,.string ⟨#[]⟩,.string ⟨#[]⟩,.int .i64 0,.int .i64 0,.int .u64 0,.string ⟨#[]⟩,.slice none 0 0,.slice none 0 0,.slice none 0 0,.string ⟨#[]⟩,.slice none 0 0] w10):=Lib.hid (HS1.out.step hp10 ho10)
    clear hp10 ho10 HS1
    go_wp2_with fail
    refine (dtook_any HS10.out.pc _ 99 [111,110,115,116] (Tx.of [99,111,110,115,116]) (by decide) false hF3.out).mono ?_;rintro e w11 ⟨rfl,hp11,ho11⟩
    have HS11:Hid (SD b c A ws g 56 w1 s #[.int .i64 0,.string ⟨#[]⟩,.string ⟨#[]⟩,.int .i64 0,.int .i64 0,.int .u64 0,.string ⟨#[]⟩,.slice none 0 0,.slice none 0 0,.slice none 0 0,.string ⟨#[]⟩,.slice none 0 0] w11):=Lib.hid (HS10.out.step hp11 ho11)
    clear hp11 ho11 HS10
    go_wp2_with fail
    refine (dtook_any HS11.out.pc _ 101 [110,117,109] (Tx.of [101,110,117,109]) (by decide) false hF2.out).mono ?_;rintro e w12 ⟨rfl,hp12,ho12⟩
    have HS12:Hid (SD b c A ws g 56 w1 s #[.int .i64 0,.string ⟨#[]⟩,.string ⟨#[]⟩,.int .i64 0,.int .i64 0,.int .u64 0,.string ⟨#[]⟩,.slice none 0 0,.slice none 0 0,.slice none 0 0,.string ⟨#[]⟩,.slice none 0 0] w12):=Lib.hid (HS11.out.step hp12 ho12)
    clear hp12 ho12 HS11
    go_wp2_with fail
    refine (dtook_any HS12.out.pc _ 115 [116,114,117,99,116] (Tx.of [115,116,114,117,99,116]) (by decide) true hTT.out).mono ?_;rintro e w13 ⟨rfl,hp13,ho13⟩
    have HS13:Hid (SD b c A ws g 56 w1 (nextP s) #[.int .i64 0,.string ⟨#[]⟩,.string ⟨#[]⟩,.int .i64 0,.int .i64 0,.int .u64 0,.string ⟨#[]⟩,.slice none 0 0,.slice none 0 0,.slice none 0 0,.string ⟨#[]⟩,.slice none 0 0] w13):=Lib.hid (HS12.out.step hp13 ho13)
    clear hp13 ho13 HS12
    go_wp2_with fail
    refine (dstrukt_any HS13.out.pc 4 ln s3 h3.out lf s4 h4.out s1 HS5E.out).mono ?_;rintro e w30 ⟨fA,fc,Lf,rfl,hlf,hll,hp30,ho30⟩
    have hs30:=HS13.out.step hp30 ho30
    have HLF:=Lib.hid hlf
    have HL30:Hid (LF w30 (Fm (g+1)) (.slice fA Lf.length fc) Lf):=LF.lasts (Mv.less (by have:=HS13.out.bl.lt;omega)) hll
    obtain ⟨r0,r1,r2,r3,r4,r5,r6,r7,r8,r9,r10,r11,f0,f1,f2,f3,f4,f5,f6,f7,f8,f9,f10,f11⟩:=cellsD12 hs30.bl
    have HS30:=Lib.hid hs30
    clear hs30 hp30 ho30 hlf hll
    go_wp2_with fail
    go_meet
    case rel =>
     have hfin_0:SD b c A ws g 56 w1 s1 #[.int .i64 4,.string ⟨#[]⟩,.string ⟨#[]⟩,.int .i64 0,.int .i64 0,.int .u64 0,.string ⟨#[]⟩,.slice none 0 0,.slice none 0 0,.slice none 0 0,.string ⟨#[]⟩,.slice none 0 0] _:=HS30.out.put 0 (.int .i64 4) rfl
     have hfin_1:SD b c A ws g 56 w1 s1 #[.int .i64 4,.string ⟨ln.toArray⟩,.string ⟨#[]⟩,.int .i64 0,.int .i64 0,.int .u64 0,.string ⟨#[]⟩,.slice none 0 0,.slice none 0 0,.slice none 0 0,.string ⟨#[]⟩,.slice none 0 0] _:=hfin_0.put 1 (.string ⟨ln.toArray⟩) rfl
     have hfin_2:SD b c A ws g 56 w1 s1 #[.int .i64 4,.string ⟨ln.toArray⟩,.string ⟨#[]⟩,.int .i64 0,.int .i64 0,.int .u64 0,.string ⟨#[]⟩,.slice none 0 0,.slice none 0 0,.slice none 0 0,.string ⟨#[]⟩,.slice none 0 0] _:=hfin_1.put 2 (.string ⟨#[]⟩) rfl
     have hfin_3:SD b c A ws g 56 w1 s1 #[.int .i64 4,.string ⟨ln.toArray⟩,.string ⟨#[]⟩,.int .i64 0,.int .i64 0,.int .u64 0,.string ⟨#[]⟩,.slice none 0 0,.slice none 0 0,.slice none 0 0,.string ⟨#[]⟩,.slice none 0 0] _:=hfin_2.put 3 (.int .i64 0) rfl
     have hfin_4:SD b c A ws g 56 w1 s1 #[.int .i64 4,.string ⟨ln.toArray⟩,.string ⟨#[]⟩,.int .i64 0,.int .i64 0,.int .u64 0,.string ⟨#[]⟩,.slice none 0 0,.slice none 0 0,.slice none 0 0,.string ⟨#[]⟩,.slice none 0 0] _:=hfin_3.put 4 (.int .i64 0) rfl
     have hfin_5:SD b c A ws g 56 w1 s1 #[.int .i64 4,.string ⟨ln.toArray⟩,.string ⟨#[]⟩,.int .i64 0,.int .i64 0,.int .u64 0,.string ⟨#[]⟩,.slice none 0 0,.slice none 0 0,.slice none 0 0,.string ⟨#[]⟩,.slice none 0 0] _:=hfin_4.put 5 (.int .u64 0) rfl
     have hfin_6:SD b c A ws g 56 w1 s1 #[.int .i64 4,.string ⟨ln.toArray⟩,.string ⟨#[]⟩,.int .i64 0,.int .i64 0,.int .u64 0,.string ⟨#[]⟩,.slice none 0 0,.slice none 0 0,.slice none 0 0,.string ⟨#[]⟩,.slice none 0 0] _:=hfin_5.put 6 (.string ⟨#[]⟩) rfl
     have hfin_7:SD b c A ws g 56 w1 s1 #[.int .i64 4,.string ⟨ln.toArray⟩,.string ⟨#[]⟩,.int .i64 0,.int .i64 0,.int .u64 0,.string ⟨#[]⟩,.slice none 0 0,.slice none 0 0,.slice none 0 0,.string ⟨#[]⟩,.slice none 0 0] _:=hfin_6.put 7 (.slice none 0 0) rfl
     have hfin_8:SD b c A ws g 56 w1 s1 #[.int .i64 4,.string ⟨ln.toArray⟩,.string ⟨#[]⟩,.int .i64 0,.int .i64 0,.int .u64 0,.string ⟨#[]⟩,.slice none 0 0,.slice fA Lf.length fc,.slice none 0 0,.string ⟨#[]⟩,.slice none 0 0] _:=hfin_7.put 8 (.slice fA Lf.length fc) rfl
     have hfin_9:SD b c A ws g 56 w1 s1 #[.int .i64 4,.string ⟨ln.toArray⟩,.string ⟨#[]⟩,.int .i64 0,.int .i64 0,.int .u64 0,.string ⟨#[]⟩,.slice none 0 0,.slice fA Lf.length fc,.slice none 0 0,.string ⟨#[]⟩,.slice none 0 0] _:=hfin_8.put 9 (.slice none 0 0) rfl
     have hfin_10:SD b c A ws g 56 w1 s1 #[.int .i64 4,.string ⟨ln.toArray⟩,.string ⟨#[]⟩,.int .i64 0,.int .i64 0,.int .u64 0,.string ⟨#[]⟩,.slice none 0 0,.slice fA Lf.length fc,.slice none 0 0,.string ⟨#[]⟩,.slice none 0 0] _:=hfin_9.put 10 (.string ⟨#[]⟩) rfl
     have hfin:SD b c A ws g 56 w1 s1 #[.int .i64 4,.string ⟨ln.toArray⟩,.string ⟨#[]⟩,.int .i64 0,.int .i64 0,.int .u64 0,.string ⟨#[]⟩,.slice none 0 0,.slice fA Lf.length fc,.slice none 0 0,.string ⟨#[]⟩,.slice none 0 0] _:=hfin_10.put 11 (.slice none 0 0) rfl
     have HW:=(Oth.refl g w30) |>.own (i:=0) (v:=.int .i64 4) |>.own (i:=1) (v:=.string ⟨ln.toArray⟩) |>.own (i:=2) (v:=.string ⟨#[]⟩) |>.own (i:=3) (v:=.int .i64 0) |>.own (i:=4) (v:=.int .i64 0) |>.own (i:=5) (v:=.int .u64 0) |>.own (i:=6) (v:=.string ⟨#[]⟩) |>.own (i:=7) (v:=.slice none 0 0) |>.own (i:=8) (v:=.slice fA Lf.length fc) |>.own (i:=9) (v:=.slice none 0 0) |>.own (i:=10) (v:=.string ⟨#[]⟩) |>.own (i:=11) (v:=.slice none 0 0)
     exact ⟨(by first | exact trivial | exact rfl),4,ln,[],0,0,0,[],none,0,0,fA,Lf.length,fc,none,0,0,[],none,0,0,⟨4,ln,[],con0,Lf,[],[],[]⟩,hfin,⟨rfl,rfl,rfl,rc_con0,LF.lasts (Mv.oth HW (Nat.le_refl _) (Nat.lt_succ_self _)) HL30.out,RepL.nil_,rfl,RepL.nil_⟩,fun h=>by rw [HLF.out h]⟩
   ·
    have HW2:Hid (wordP ws s=⟨1,[117,110,105,111,110],tn,td,tp⟩):=HW.out
    have hTT:Hid (isP ws [117,110,105,111,110] s=true):=by unfold Hid;rw [is_name HW2.out];decide
    have hF1:Hid (isP ws [116,121,112,101,100,101,102] s=false):=by unfold Hid;rw [is_name HW2.out];decide
    have hF3:Hid (isP ws [99,111,110,115,116] s=false):=by unfold Hid;rw [is_name HW2.out];decide
    have hF2:Hid (isP ws [101,110,117,109] s=false):=by unfold Hid;rw [is_name HW2.out];decide
    have hF4:Hid (isP ws [115,116,114,117,99,116] s=false):=by unfold Hid;rw [is_name HW2.out];decide
    have hx:=HR.out
    unfold defP at hx
    dsimp only at hx
    rw [HW2.out] at hx
    dsimp only at hx
    rw [show defK [117,110,105,111,110]=5 by decide] at hx
    rw [if_neg (by decide)] at hx
    dsimp only at hx
    obtain ⟨⟨ln,s3⟩,h3⟩:∃ r,Hid (plainN ws (nextP s)=r):=⟨_,rfl⟩
    rw [h3.out] at hx
    dsimp only at hx
    obtain ⟨⟨lf,s4⟩,h4⟩:∃ r,Hid (elemsP ws (atFieldP ws) 30 (fieldP ws) (ws.length+1) [] (needP ws [123] s3)=r):=⟨_,rfl⟩
    rw [dbody4 5 (by decide),h4.out] at hx
    simp only [Prod.mk.injEq] at hx
    obtain ⟨rfl,hs5⟩:=hx
    have HS5E:=Lib.hid hs5
    clear HR hs5
    go_wp2_with fail
    refine (dtook_any HS1.out.pc _ 116 [121,112,101,100,101,102] (Tx.of [116,121,112,101,100,101,102]) (by decide) false hF1.out).mono ?_;rintro e w10 ⟨rfl,hp10,ho10⟩
    have HS10:Hid (SD b c A ws g 56 w1 s #[.int .i64 0,.string ⟨#[]⟩,.string ⟨#[]⟩,.int .i64 0,.int .i64 0,.int .u64 0,.string ⟨#[]⟩,.slice none 0 0,.slice none 0 0,.slice none 0 0,.string ⟨#[]⟩,.slice none 0 0] w10):=Lib.hid (HS1.out.step hp10 ho10)
    clear hp10 ho10 HS1
    go_wp2_with fail
    refine (dtook_any HS10.out.pc _ 99 [111,110,115,116] (Tx.of [99,111,110,115,116]) (by decide) false hF3.out).mono ?_;rintro e w11 ⟨rfl,hp11,ho11⟩
    have HS11:Hid (SD b c A ws g 56 w1 s #[.int .i64 0,.string ⟨#[]⟩,.string ⟨#[]⟩,.int .i64 0,.int .i64 0,.int .u64 0,.string ⟨#[]⟩,.slice none 0 0,.slice none 0 0,.slice none 0 0,.string ⟨#[]⟩,.slice none 0 0] w11):=Lib.hid (HS10.out.step hp11 ho11)
    clear hp11 ho11 HS10
    go_wp2_with fail
    refine (dtook_any HS11.out.pc _ 101 [110,117,109] (Tx.of [101,110,117,109]) (by decide) false hF2.out).mono ?_;rintro e w12 ⟨rfl,hp12,ho12⟩
    have HS12:Hid (SD b c A ws g 56 w1 s #[.int .i64 0,.string ⟨#[]⟩,.string ⟨#[]⟩,.int .i64 0,.int .i64 0,.int .u64 0,.string ⟨#[]⟩,.slice none 0 0,.slice none 0 0,.slice none 0 0,.string ⟨#[]⟩,.slice none 0 0] w12):=Lib.hid (HS11.out.step hp12 ho12)
    clear hp12 ho12 HS11
    go_wp2_with fail
    refine (dtook_any HS12.out.pc _ 115 [116,114,117,99,116] (Tx.of [115,116,114,117,99,116]) (by decide) false hF4.out).mono ?_;rintro e w13 ⟨rfl,hp13,ho13⟩
    have HS13:Hid (SD b c A ws g 56 w1 s #[.int .i64 0,.string ⟨#[]⟩,.string ⟨#[]⟩,.int .i64 0,.int .i64 0,.int .u64 0,.string ⟨#[]⟩,.slice none 0 0,.slice none 0 0,.slice none 0 0,.string ⟨#[]⟩,.slice none 0 0] w13):=Lib.hid (HS12.out.step hp13 ho13)
    clear hp13 ho13 HS12
    go_wp2_with fail
    refine (dtook_any HS13.out.pc _ 117 [110,105,111,110] (Tx.of [117,110,105,111,110]) (by decide) true hTT.out).mono ?_;rintro e w14 ⟨rfl,hp14,ho14⟩
    have HS14:Hid (SD b c A ws g 56 w1 (nextP s) #[.int .i64 0,.string ⟨#[]⟩,.string ⟨#[]⟩,.int .i64 0,.int .i64 0,.int .u64 0,.string ⟨#[]⟩,.slice none 0 0,.slice none 0 0,.slice none 0 0,.string ⟨#[]⟩,.slice none 0 0] w14):=Lib.hid (HS13.out.step hp14 ho14)
    clear hp14 ho14 HS13
    go_wp2_with fail
    refine (dstrukt_any HS14.out.pc 5 ln s3 h3.out lf s4 h4.out s1 HS5E.out).mono ?_;rintro e w30 ⟨fA,fc,Lf,rfl,hlf,hll,hp30,ho30⟩
    have hs30:=HS14.out.step hp30 ho30
    have HLF:=Lib.hid hlf
    have HL30:Hid (LF w30 (Fm (g+1)) (.slice fA Lf.length fc) Lf):=LF.lasts (Mv.less (by have:=HS14.out.bl.lt;omega)) hll
    obtain ⟨r0,r1,r2,r3,r4,r5,r6,r7,r8,r9,r10,r11,f0,f1,f2,f3,f4,f5,f6,f7,f8,f9,f10,f11⟩:=cellsD12 hs30.bl
    have HS30:=Lib.hid hs30
    clear hs30 hp30 ho30 hlf hll
    go_wp2_with fail
    go_meet
    case rel =>
     have hfin_0:SD b c A ws g 56 w1 s1 #[.int .i64 5,.string ⟨#[]⟩,.string ⟨#[]⟩,.int .i64 0,.int .i64 0,.int .u64 0,.string ⟨#[]⟩,.slice none 0 0,.slice none 0 0,.slice none 0 0,.string ⟨#[]⟩,.slice none 0 0] _:=HS30.out.put 0 (.int .i64 5) rfl
     have hfin_1:SD b c A ws g 56 w1 s1 #[.int .i64 5,.string ⟨ln.toArray⟩,.string ⟨#[]⟩,.int .i64 0,.int .i64 0,.int .u64 0,.string ⟨#[]⟩,.slice none 0 0,.slice none 0 0,.slice none 0 0,.string ⟨#[]⟩,.slice none 0 0] _:=hfin_0.put 1 (.string ⟨ln.toArray⟩) rfl
     have hfin_2:SD b c A ws g 56 w1 s1 #[.int .i64 5,.string ⟨ln.toArray⟩,.string ⟨#[]⟩,.int .i64 0,.int .i64 0,.int .u64 0,.string ⟨#[]⟩,.slice none 0 0,.slice none 0 0,.slice none 0 0,.string ⟨#[]⟩,.slice none 0 0] _:=hfin_1.put 2 (.string ⟨#[]⟩) rfl
     have hfin_3:SD b c A ws g 56 w1 s1 #[.int .i64 5,.string ⟨ln.toArray⟩,.string ⟨#[]⟩,.int .i64 0,.int .i64 0,.int .u64 0,.string ⟨#[]⟩,.slice none 0 0,.slice none 0 0,.slice none 0 0,.string ⟨#[]⟩,.slice none 0 0] _:=hfin_2.put 3 (.int .i64 0) rfl
     have hfin_4:SD b c A ws g 56 w1 s1 #[.int .i64 5,.string ⟨ln.toArray⟩,.string ⟨#[]⟩,.int .i64 0,.int .i64 0,.int .u64 0,.string ⟨#[]⟩,.slice none 0 0,.slice none 0 0,.slice none 0 0,.string ⟨#[]⟩,.slice none 0 0] _:=hfin_3.put 4 (.int .i64 0) rfl
     have hfin_5:SD b c A ws g 56 w1 s1 #[.int .i64 5,.string ⟨ln.toArray⟩,.string ⟨#[]⟩,.int .i64 0,.int .i64 0,.int .u64 0,.string ⟨#[]⟩,.slice none 0 0,.slice none 0 0,.slice none 0 0,.string ⟨#[]⟩,.slice none 0 0] _:=hfin_4.put 5 (.int .u64 0) rfl
     have hfin_6:SD b c A ws g 56 w1 s1 #[.int .i64 5,.string ⟨ln.toArray⟩,.string ⟨#[]⟩,.int .i64 0,.int .i64 0,.int .u64 0,.string ⟨#[]⟩,.slice none 0 0,.slice none 0 0,.slice none 0 0,.string ⟨#[]⟩,.slice none 0 0] _:=hfin_5.put 6 (.string ⟨#[]⟩) rfl
     have hfin_7:SD b c A ws g 56 w1 s1 #[.int .i64 5,.string ⟨ln.toArray⟩,.string ⟨#[]⟩,.int .i64 0,.int .i64 0,.int .u64 0,.string ⟨#[]⟩,.slice none 0 0,.slice none 0 0,.slice none 0 0,.string ⟨#[]⟩,.slice none 0 0] _:=hfin_6.put 7 (.slice none 0 0) rfl
     have hfin_8:SD b c A ws g 56 w1 s1 #[.int .i64 5,.string ⟨ln.toArray⟩,.string ⟨#[]⟩,.int .i64 0,.int .i64 0,.int .u64 0,.string ⟨#[]⟩,.slice none 0 0,.slice fA Lf.length fc,.slice none 0 0,.string ⟨#[]⟩,.slice none 0 0] _:=hfin_7.put 8 (.slice fA Lf.length fc) rfl
     have hfin_9:SD b c A ws g 56 w1 s1 #[.int .i64 5,.string ⟨ln.toArray⟩,.string ⟨#[]⟩,.int .i64 0,.int .i64 0,.int .u64 0,.string ⟨#[]⟩,.slice none 0 0,.slice fA Lf.length fc,.slice none 0 0,.string ⟨#[]⟩,.slice none 0 0] _:=hfin_8.put 9 (.slice none 0 0) rfl
     have hfin_10:SD b c A ws g 56 w1 s1 #[.int .i64 5,.string ⟨ln.toArray⟩,.string ⟨#[]⟩,.int .i64 0,.int .i64 0,.int .u64 0,.string ⟨#[]⟩,.slice none 0 0,.slice fA Lf.length fc,.slice none 0 0,.string ⟨#[]⟩,.slice none 0 0] _:=hfin_9.put 10 (.string ⟨#[]⟩) rfl
     have hfin:SD b c A ws g 56 w1 s1 #[.int .i64 5,.string ⟨ln.toArray⟩,.string ⟨#[]⟩,.int .i64 0,.int .i64 0,.int .u64 0,.string ⟨#[]⟩,.slice none 0 0,.slice fA Lf.length fc,.slice none 0 0,.string ⟨#[]⟩,.slice none 0 0] _:=hfin_10.put 11 (.slice none 0 0) rfl
     have HW:=(Oth.refl g w30) |>.own (i:=0) (v:=.int .i64 5) |>.own (i:=1) (v:=.string ⟨ln.toArray⟩) |>.own (i:=2) (v:=.string ⟨#[]⟩) |>.own (i:=3) (v:=.int .i64 0) |>.own (i:=4) (v:=.int .i64 0) |>.own (i:=5) (v:=.int .u64 0) |>.own (i:=6) (v:=.string ⟨#[]⟩) |>.own (i:=7) (v:=.slice none 0 0) |>.own (i:=8) (v:=.slice fA Lf.length fc) |>.own (i:=9) (v:=.slice none 0 0) |>.own (i:=10) (v:=.string ⟨#[]⟩) |>.own (i:=11) (v:=.slice none 0 0)
     exact ⟨(by first | exact trivial | exact rfl),5,ln,[],0,0,0,[],none,0,0,fA,Lf.length,fc,none,0,0,[],none,0,0,⟨5,ln,[],con0,Lf,[],[],[]⟩,hfin,⟨rfl,rfl,rfl,rc_con0,LF.lasts (Mv.oth HW (Nat.le_refl _) (Nat.lt_succ_self _)) HL30.out,RepL.nil_,rfl,RepL.nil_⟩,fun h=>by rw [HLF.out h]⟩
   ·
    have HW2:Hid (wordP ws s=⟨1,[101,120,99,101,112,116,105,111,110],tn,td,tp⟩):=HW.out
    have hTT:Hid (isP ws [101,120,99,101,112,116,105,111,110] s=true):=by unfold Hid;rw [is_name HW2.out];decide
    have hF1:Hid (isP ws [116,121,112,101,100,101,102] s=false):=by unfold Hid;rw [is_name HW2.out];decide
    have hF3:Hid (isP ws [99,111,110,115,116] s=false):=by unfold Hid;rw [is_name HW2.out];decide
    have hF2:Hid (isP ws [101,110,117,109] s=false):=by unfold Hid;rw [is_name HW2.out];decide
    have hF4:Hid (isP ws [115,116,114,117,99,116] s=false):=by unfold Hid;rw [is_name HW2.out];decide
    have hF5:Hid (isP ws [117,110,105,111,110] s=false):=by unfold Hid;rw [is_name HW2.out];decide
    have hx:=HR.out
    unfold defP at hx
    dsimp only at hx
    rw [HW2.out] at hx
    dsimp only at hx
    rw [show defK [101,120,99,101,112,116,105,111,110]=6 by decide] at hx
    rw [if_neg (by decide)] at hx
    dsimp only at hx
    obtain ⟨⟨ln,s3⟩,h3⟩:∃ r,Hid (plainN ws (nextP s)=r):=⟨_,rfl⟩
    rw [h3.out] at hx
    dsimp only at hx
    obtain ⟨⟨lf,s4⟩,h4⟩:∃ r,Hid (elemsP ws (atFieldP ws) 30 (fieldP ws) (ws.length+1) [] (needP ws [123] s3)=r):=⟨_,rfl⟩
    rw [dbody4 6 (by decide),h4.out] at hx
    simp only [Prod.mk.injEq] at hx
    obtain ⟨rfl,hs5⟩:=hx
    have HS5E:=Lib.hid hs5
    clear HR hs5
    go_wp2_with fail
    refine (dtook_any HS1.out.pc _ 116 [121,112,101,100,101,102] (Tx.of [116,121,112,101,100,101,102]) (by decide) false hF1.out).mono ?_;rintro e w10 ⟨rfl,hp10,ho10⟩
    have HS10:Hid (SD b c A ws g 56 w1 s #[.int .i64 0,.string ⟨#[]⟩,.string ⟨#[]⟩,.int .i64 0,.int .i64 0,.int .u64 0,.string ⟨#[]⟩,.slice none 0 0,.slice none 0 0,.slice none 0 0,.string ⟨#[]⟩,.slice none 0 0] w10):=Lib.hid (HS1.out.step hp10 ho10)
    clear hp10 ho10 HS1
    go_wp2_with fail
    refine (dtook_any HS10.out.pc _ 99 [111,110,115,116] (Tx.of [99,111,110,115,116]) (by decide) false hF3.out).mono ?_;rintro e w11 ⟨rfl,hp11,ho11⟩
    have HS11:Hid (SD b c A ws g 56 w1 s #[.int .i64 0,.string ⟨#[]⟩,.string ⟨#[]⟩,.int .i64 0,.int .i64 0,.int .u64 0,.string ⟨#[]⟩,.slice none 0 0,.slice none 0 0,.slice none 0 0,.string ⟨#[]⟩,.slice none 0 0] w11):=Lib.hid (HS10.out.step hp11 ho11)
    clear hp11 ho11 HS10
    go_wp2_with fail
    refine (dtook_any HS11.out.pc _ 101 [110,117,109] (Tx.of [101,110,117,109]) (by decide) false hF2.out).mono ?_;rintro e w12 ⟨rfl,hp12,ho12⟩
    have HS12:Hid (SD b c A ws g 56 w1 s #[.int .i64 0,.string ⟨#[]⟩,.string ⟨#[]⟩,.int .i64 0,.int .i64 0,.int .u64 0,.string ⟨#[]⟩,.slice none 0 0,.slice none 0 0,.slice none 0 0,.string ⟨#[]⟩,.slice none 0 0] w12):=Lib.hid (HS11.out.step hp12 ho12)
    clear hp12 ho12 HS11
    go_wp2_with fail
    refine (dtook_any HS12.out.pc _ 115 [116,114,117,99,116] (Tx.of [115,116,114,117,99,116]) (by decide) false hF4.out).mono ?_;rintro e w13 ⟨rfl,hp13,ho13⟩
    have HS13:Hid (SD b c A ws g 56 w1 s #[.int .i64 0,.string ⟨#[]⟩,.string ⟨#[]⟩,.int .i64 0,.int .i64 0,.int .u64 0,.string ⟨#[]⟩,.slice none 0 0,.slice none 0 0,.slice none 0 0,.string ⟨#[]⟩,.slice none 0 0] w13):=Lib.hid (HS12.out.step hp13 ho13)
    clear hp13 ho13 HS12
    go_wp2_with fail
    refine (dtook_any HS13.out.pc _ 117 [110,105,111,110] (Tx.of [117,110,105,111,110]) (by decide) false hF5.out).mono ?_;rintro e w14 ⟨rfl,hp14,ho14⟩
    have HS14:Hid (SD b c A ws g 56 w1 s #[.int .i64 0,.string ⟨#[]⟩,.string ⟨#[]⟩,.int .i64 0,.int .i64 0,.int .u64 0,.string ⟨#[]⟩,.slice none 0 0,.slice none 0 0,.slice none 0 0,.string ⟨#[]⟩,.slice none 0 0] w14):=Lib.hid (HS13.out.step hp14 ho14)
    clear hp14 ho14 HS13
    go_wp2_with fail
    refine (dtook_any HS14.out.pc _ 101 [120,99,101,112,116,105,111,110] (Tx.of [101,120,99,101,112,116,105,111,110]) (by decide) true hTT.out).mono ?_;rintro e w15 ⟨rfl,hp15,ho15⟩
    have HS15:Hid (SD b c A ws g 56 w1 (nextP s) #[.int .i64 0,.string ⟨#[]⟩,.string ⟨#[]⟩,.int .i64 0,.int .i64 0,.int .u64 0,.string ⟨#[]⟩,.slice none 0 0,.slice none 0 0,.slice none 0 0,.string ⟨#[]⟩,.slice none 0 0] w15):=Lib.hid (HS14.out.step hp15 ho15)
    clear hp15 ho15 HS14
    go_wp2_with fail
    refine (dstrukt_any HS15.out.pc 6 ln s3 h3.out lf s4 h4.out s1 HS5E.out).mono ?_;rintro e w30 ⟨fA,fc,Lf,rfl,hlf,hll,hp30,ho30⟩
    have hs30:=HS15.out.step hp30 ho30
    have HLF:=Lib.hid hlf
    have HL30:Hid (LF w30 (Fm (g+1)) (.slice fA Lf.length fc) Lf):=LF.lasts (Mv.less (by have:=HS15.out.bl.lt;omega)) hll
    obtain ⟨r0,r1,r2,r3,r4,r5,r6,r7,r8,r9,r10,r11,f0,f1,f2,f3,f4,f5,f6,f7,f8,f9,f10,f11⟩:=cellsD12 hs30.bl
    have HS30:=Lib.hid hs30
    clear hs30 hp30 ho30 hlf hll
    go_wp2_with fail
    go_meet
    case rel =>
     have hfin_0:SD b c A ws g 56 w1 s1 #[.int .i64 6,.string ⟨#[]⟩,.string ⟨#[]⟩,.int .i64 0,.int .i64 0,.int .u64 0,.string ⟨#[]⟩,.slice none 0 0,.slice none 0 0,.slice none 0 0,.string ⟨#[]⟩,.slice none 0 0] _:=HS30.out.put 0 (.int .i64 6) rfl
     have hfin_1:SD b c A ws g 56 w1 s1 #[.int .i64 6,.string ⟨ln.toArray⟩,.string ⟨#[]⟩,.int .i64 0,.int .i64 0,.int .u64 0,.string ⟨#[]⟩,.slice none 0 0,.slice none 0 0,.slice none 0 0,.string ⟨#[]⟩,.slice none 0 0] _:=hfin_0.put 1 (.string ⟨ln.toArray⟩) rfl
     have hfin_2:SD b c A ws g 56 w1 s1 #[.int .i64 6,.string ⟨ln.toArray⟩,.string ⟨#[]⟩,.int .i64 0,.int .i64 0,.int .u64 0,.string ⟨#[]⟩,.slice none 0 0,.slice none 0 0,.slice none 0 0,.string ⟨#[]⟩,.slice none 0 0] _:=hfin_1.put 2 (.string ⟨#[]⟩) rfl
     have hfin_3:SD b c A ws g 56 w1 s1 #[.int .i64 6,.string ⟨ln.toArray⟩,.string ⟨#[]⟩,.int .i64 0,.int .i64 0,.int .u64 0,.string ⟨#[]⟩,.slice none 0 0,.slice none 0 0,.slice none 0 0,.string ⟨#[]⟩,.slice none 0 0] _:=hfin_2.put 3 (.int .i64 0) rfl
     have hfin_4:SD b c A ws g 56 w1 s1 #[.int .i64 6,.string ⟨ln.toArray⟩,.string ⟨#[]⟩,.int .i64 0,.int .i64 0,.int .u64 0,.string ⟨#[]⟩,.slice none 0 0,.slice none 0 0,.slice none 0 0,.string ⟨#[]⟩,.slice none 0 0] _:=hfin_3.put 4 (.int .i64 0) rfl
     have hfin_5:SD b c A ws g 56 w1 s1 #[.int .i64 6,.string ⟨ln.toArray⟩,.string ⟨#[]⟩,.int .i64 0,.int .i64 0,.int .u64 0,.string ⟨#[]⟩,.slice none 0 0,.slice none 0 0,.slice none 0 0,.string ⟨#[]⟩,.slice none 0 0] _:=hfin_4.put 5 (.int .u64 0) rfl
     have hfin_6:SD b c A ws g 56 w1 s1 #[.int .i64 6,.string ⟨ln.toArray⟩,.string ⟨#[]⟩,.int .i64 0,.int .i64 0,.int .u64 0,.string ⟨#[]⟩,.slice none 0 0,.slice none 0 0,.slice none 0 0,.string ⟨#[]⟩,.slice none 0 0] _:=hfin_5.put 6 (.string ⟨#[]⟩) rfl
     have hfin_7:SD b c A ws g 56 w1 s1 #[.int .i64 6,.string ⟨ln.toArray⟩,.string ⟨#[]⟩,.int .i64 0,.int .i64 0,.int .u64 0,.string ⟨#[]⟩,.slice none 0 0,.slice none 0 0,.slice none 0 0,.string ⟨#[]⟩,.slice none 0 0] _:=hfin_6.put 7 (.slice none 0 0) rfl
     have hfin_8:SD b c A ws g 56 w1 s1 #[.int .i64 6,.string ⟨ln.toArray⟩,.string ⟨#[]⟩,.int .i64 0,.int .i64 0,.int .u64 0,.string ⟨#[]⟩,.slice none 0 0,.slice fA Lf.length fc,.slice none 0 0,.string ⟨#[]⟩,.slice none 0 0] _:=hfin_7.put 8 (.slice fA Lf.length fc) rfl
     have hfin_9:SD b c A ws g 56 w1 s1 #[.int .i64 6,.string ⟨ln.toArray⟩,.string ⟨#[]⟩,.int .i64 0,.int .i64 0,.int .u64 0,.string ⟨#[]⟩,.slice none 0 0,.slice fA Lf.length fc,.slice none 0 0,.string ⟨#[]⟩,.slice none 0 0] _:=hfin_8.put 9 (.slice none 0 0) rfl
     have hfin_10:SD b c A ws g 56 w1 s1 #[.int .i64 6,.string ⟨ln.toArray⟩,.string ⟨#[]⟩,.int .i64 0,.int .i64 0,.int .u64 0,.string ⟨#[]⟩,.slice none 0 0,.slice fA Lf.length fc,.slice none 0 0,.string ⟨#[]⟩,.slice none 0 0] _:=hfin_9.put 10 (.string ⟨#[]⟩) rfl
     have hfin:SD b c A ws g 56 w1 s1 #[.int .i64 6,.string ⟨ln.toArray⟩,.string ⟨#[]⟩,.int .i64 0,.int .i64 0,.int .u64 0,.string ⟨#[]⟩,.slice none 0 0,.slice fA Lf.length fc,.slice none 0 0,.string ⟨#[]⟩,.slice none 0 0] _:=hfin_10.put 11 (.slice none 0 0) rfl
     have HW:=(Oth.refl g w30) |>.own (i:=0) (v:=.int .i64 6) |>.own (i:=1) (v:=.string ⟨ln.toArray⟩) |>.own (i:=2) (v:=.string ⟨#[]⟩) |>.own (i:=3) (v:=.int .i64 0) |>.own (i:=4) (v:=.int .i64 0) |>.own (i:=5) (v:=.int .u64 0) |>.own (i:=6) (v:=.string ⟨#[]⟩) |>.own (i:=7) (v:=.slice none 0 0) |>.own (i:=8) (v:=.slice fA Lf.length fc) |>.own (i:=9) (v:=.slice none 0 0) |>.own (i:=10) (v:=.string ⟨#[]⟩) |>.own (i:=11) (v:=.slice none 0 0)
     exact ⟨(by first | exact trivial | exact rfl),6,ln,[],0,0,0,[],none,0,0,fA,Lf.length,fc,none,0,0,[],none,0,0,⟨6,ln,[],con0,Lf,[],[],[]⟩,hfin,⟨rfl,rfl,rfl,rc_con0,LF.lasts (Mv.oth HW (Nat.le_refl _) (Nat.lt_succ_self _)) HL30.out,RepL.nil_,rfl,RepL.nil_⟩,fun h=>by rw [HLF.out h]⟩
   ·
    have HW2:Hid (wordP ws s=⟨1,[115,101,114,118,105,99,101],tn,td,tp⟩):=HW.out
    have hTT:Hid (isP ws [115,101,114,118,105,99,101] s=true):=by unfold Hid;rw [is_name HW2.out];decide
    have hF1:Hid (isP ws [116,121,112,101,100,101,102] s=false):=by unfold Hid;rw [is_name HW2.out];decide
    have hF3:Hid (isP ws [99,111,110,115,116] s=false):=by unfold Hid;rw [is_name HW2.out];decide
    have hF2:Hid (isP ws [101,110,117,109] s=false):=by unfold Hid;rw [is_name HW2.out];decide
    have hF4:Hid (isP ws [115,116,114,117,99,116] s=false):=by unfold Hid;rw [is_name HW2.out];decide
    have hF5:Hid (isP ws [117,110,105,111,110] s=false):=by unfold Hid;rw [is_name HW2.out];decide
    have hF6:Hid (isP ws [101,120,99,101,112,116,105,111,110] s=false):=by unfold Hid;rw [is_name HW2.out];decide
    have hx:=HR.out
    unfold defP at hx
    dsimp only at hx
    rw [HW2.out] at hx
    dsimp only at hx
    rw [show defK [115,101,114,118,105,99,101]=7 by decide] at hx
    rw [if_neg (by decide)] at hx
    dsimp only at hx
    obtain ⟨⟨ln,s3⟩,h3⟩:∃ r,Hid (plainN ws (nextP s)=r):=⟨_,rfl⟩
    rw [h3.out] at hx
    dsimp only at hx
    obtain ⟨B1,hB1⟩:∃ B,Hid (isP ws kExtends s3=B):=⟨_,rfl⟩
    obtain ⟨⟨le,s4⟩,h4⟩:∃ r,Hid ((if B1 then qualN ws (nextP s3) else ([],s3))=r):=⟨_,rfl⟩
    obtain ⟨⟨lm,s5⟩,h5⟩:∃ r,Hid (elemsP ws (atMetP ws) 30 (metP ws) (ws.length+1) [] (needP ws [123] s4)=r):=⟨_,rfl⟩
    rw [dbody7] at hx
    dsimp only at hx
    rw [hB1.out,h4.out] at hx
    dsimp only at hx
    rw [h5.out] at hx
    simp only [Prod.mk.injEq] at hx
    obtain ⟨rfl,hs5⟩:=hx
    have HS5E:=Lib.hid hs5
    clear HR hs5
    go_wp2_with fail
    refine (dtook_any HS1.out.pc _ 116 [121,112,101,100,101,102] (Tx.of [116,121,112,101,100,101,102]) (by decide) false hF1.out).mono ?_;rintro e w10 ⟨rfl,hp10,ho10⟩
    have HS10:Hid (SD b c A ws g 56 w1 s #[.int .i64 0,.string ⟨#[]⟩,.string ⟨#[]⟩,.int .i64 0,.int .i64 0,.int .u64 0,.string ⟨#[]⟩,.slice none 0 0,.slice none 0 0,.slice none 0 0,.string ⟨#[]⟩,.slice none 0 0] w10):=Lib.hid (HS1.out.step hp10 ho10)
    clear hp10 ho10 HS1
    go_wp2_with fail
    refine (dtook_any HS10.out.pc _ 99 [111,110,115,116] (Tx.of [99,111,110,115,116]) (by decide) false hF3.out).mono ?_;rintro e w11 ⟨rfl,hp11,ho11⟩
    have HS11:Hid (SD b c A ws g 56 w1 s #[.int .i64 0,.string ⟨#[]⟩,.string ⟨#[]⟩,.int .i64 0,.int .i64 0,.int .u64 0,.string ⟨#[]⟩,.slice none 0 0,.slice none 0 0,.slice none 0 0,.string ⟨#[]⟩,.slice none 0 0] w11):=Lib.hid (HS10.out.step hp11 ho11)
    clear hp11 ho11 HS10
    go_wp2_with fail
    refine (dtook_any HS11.out.pc _ 101 [110,117,109] (Tx.of [101,110,117,109]) (by decide) false hF2.out).mono ?_;rintro e w12 ⟨rfl,hp12,ho12⟩
    have HS12:Hid (SD b c A ws g 56 w1 s #[.int .i64 0,.string ⟨#[]⟩,.string ⟨#[]⟩,.int .i64 0,.int .i64 0,.int .u64 0,.string ⟨#[]⟩,.slice none 0 0,.slice none 0 0,.slice none 0 0,.string ⟨#[]⟩,.slice none 0 0] w12):=Lib.hid (HS11.out.step hp12 ho12)
    clear hp12 ho12 HS11
    go_wp2_with fail
    refine (dtook_any HS12.out.pc _ 115 [116,114,117,99,116] (Tx.of [115,116,114,117,99,116]) (by decide) false hF4.out).mono ?_;rintro e w13 ⟨rfl,hp13,ho13⟩
    have HS13:Hid (SD b c A ws g 56 w1 s #[.int .i64 0,.string ⟨#[]⟩,.string ⟨#[]⟩,.int .i64 0,.int .i64 0,.int .u64 0,.string ⟨#[]⟩,.slice none 0 0,.slice none 0 0,.slice none 0 0,.string ⟨#[]⟩,.slice none 0 0] w13):=Lib.hid (HS12.out.step hp13 ho13)
    clear hp13 ho13 HS12
    go_wp2_with fail
    refine (dtook_any HS13.out.pc _ 117 [110,105,111,110] (Tx.of [117,110,105,111,110]) (by decide) false hF5.out).mono ?_;rintro e w14 ⟨rfl,hp14,ho14⟩
    have HS14:Hid (SD b c A ws g 56 w1 s #[.int .i64 0,.string ⟨#[]⟩,.string ⟨#[]⟩,.int .i64 0,.int .i64 0,.int .u64 0,.string ⟨#[]⟩,.slice none 0 0,.slice none 0 0,.slice none 0 0,.string ⟨#[]⟩,.slice none 0 0] w14):=Lib.hid (HS13.out.step hp14 ho14)
    clear hp14 ho14 HS13
    go_wp2_with fail
    refine (dtook_any HS14.out.pc _ 101 [120,99,101,112,116,105,111,110] (Tx.of [101,120,99,101,112,116,105,111,110]) (by decide) false hF6.out).mono ?_;rintro e w15 ⟨rfl,hp15,ho15⟩
    have HS15:Hid (SD b c A ws g 56 w1 s #[.int .i64 0,.string ⟨#[]⟩,.string ⟨#[]⟩,.int .i64 0,.int .i64 0,.int .u64 0,.string ⟨#[]⟩,.slice none 0 0,.slice none 0 0,.slice none 0 0,.string ⟨#[]⟩,.slice none 0 0] w15):=Lib.hid (HS14.out.step hp15 ho15)
    clear hp15 ho15 HS14
    go_wp2_with fail
    refine (dtook_any HS15.out.pc _ 115 [101,114,118,105,99,101] (Tx.of [115,101,114,118,105,99,101]) (by decide) true hTT.out).mono ?_;rintro e w16 ⟨rfl,hp16,ho16⟩
    have HS16:Hid (SD b c A ws g 56 w1 (nextP s) #[.int .i64 0,.string ⟨#[]⟩,.string ⟨#[]⟩,.int .i64 0,.int .i64 0,.int .u64 0,.string ⟨#[]⟩,.slice none 0 0,.slice none 0 0,.slice none 0 0,.string ⟨#[]⟩,.slice none 0 0] w16):=Lib.hid (HS15.out.step hp16 ho16)
    clear hp16 ho16 HS15
    go_wp2_with fail
    refine (dplain_any HS16.out.pc ln s3 h3.out).mono ?_;rintro e w30 ⟨rfl,hp30,ho30⟩
    have hs30:=HS16.out.step hp30 ho30
    have c0:w30.cell? ⟨g,0,none⟩=some (.int .i64 0):=hs30.ce 0
    have c1:w30.cell? ⟨g,1,none⟩=some (.string ⟨#[]⟩):=hs30.ce 1
    have f0:=hs30.fr 0
    have f1:=hs30.fr 1
    have HS31:Hid (SD b c A ws g 56 w1 s3 #[.int .i64 7,.string ⟨ln.toArray⟩,.string ⟨#[]⟩,.int .i64 0,.int .i64 0,.int .u64 0,.string ⟨#[]⟩,.slice none 0 0,.slice none 0 0,.slice none 0 0,.string ⟨#[]⟩,.slice none 0 0] ((w30.setCell ⟨g,0,none⟩ (.int .i64 7)).setCell ⟨g,1,none⟩ (.string ⟨ln.toArray⟩))):=((hs30.put 0 _ rfl).put 1 _ rfl)
    clear hp30 ho30 hs30
    go_upto_region 23 with (fail)
    generalize World.setCell (World.setCell w30 _ _) _ _=w31 at *
    clear c0 c1 f0 f1
    go_wp2_with fail
    refine (dtook_any HS31.out.pc _ 101 [120,116,101,110,100,115] (Tx.of kExtends) (by decide) B1 hB1.out).mono ?_;rintro e w32 ⟨rfl,hp32,ho32⟩
    have HS32:=Lib.hid (HS31.out.step hp32 ho32)
    clear hp32 ho32
    go_upto_if 67 with (fail)
    go_cut [] (fun wx=>SD b c A ws g 56 w1 s4 #[.int .i64 7,.string ⟨ln.toArray⟩,.string ⟨#[]⟩,.int .i64 0,.int .i64 0,.int .u64 0,.string ⟨#[]⟩,.slice none 0 0,.slice none 0 0,.slice none 0 0,.string ⟨le.toArray⟩,.slice none 0 0] wx)
    case first =>
     cases B1
     ·have hx:=h4.out
      rw [if_neg (by decide)] at hx
      simp only [Prod.mk.injEq] at hx
      obtain ⟨rfl,rfl⟩:=hx
      go_wp2_with fail
      go_meet
      case rel=>exact HS32.out
     ·have HQE:Hid (qualN ws (nextP s3)=(le,s4)):=h4.out
      have HS33:Hid (SD b c A ws g 56 w1 (nextP s3) #[.int .i64 7,.string ⟨ln.toArray⟩,.string ⟨#[]⟩,.int .i64 0,.int .i64 0,.int .u64 0,.string ⟨#[]⟩,.slice none 0 0,.slice none 0 0,.slice none 0 0,.string ⟨#[]⟩,.slice none 0 0] w32):=HS32.out
      go_wp2_with fail
      refine (dfar_any HS33.out.pc le s4 HQE.out).mono ?_;rintro e w33 ⟨rfl,hp33,ho33⟩
      have HS34:=Lib.hid (HS33.out.step hp33 ho33)
      clear hp33 ho33
      have c10:w33.cell? ⟨g,10,none⟩=some (.string ⟨#[]⟩):=HS34.out.ce 10
      have f10:=HS34.out.fr 10
      go_wp2_with fail
      go_meet
      case rel=>exact HS34.out.put 10 _ rfl
    case rest =>
    have HS36:=Lib.hid hcut
    clear hcut HS31 HS32
    go_wp2_with fail
    refine (dneed_any HS36.out.pc _ 123 (Tx.of [123]) (by decide) _ rfl).mono ?_;rintro e w37 ⟨rfl,hp37,ho37⟩
    have HS37:=Lib.hid (HS36.out.step hp37 ho37)
    clear hp37 ho37
    go_wp2_with fail
    refine (dmethods_any HS37.out.pc lm s5 h5.out s1 HS5E.out).mono ?_;rintro e w38 ⟨v38,Lm,rfl,hlm,hll,hp38,ho38⟩
    obtain ⟨mA,mc,-,rfl,-,-,-,-,-⟩:=hll.sl metA_size
    have hs38:=HS37.out.step hp38 ho38
    have HLM:=Lib.hid hlm
    have HL38:Hid (LM w38 (Fm (g+1)) (.slice mA Lm.length mc) Lm):=LM.lasts (Mv.less (by have:=HS37.out.bl.lt;omega)) hll
    have c11:w38.cell? ⟨g,11,none⟩=some (.slice none 0 0):=hs38.ce 11
    have f11:=hs38.fr 11
    have HS38:=Lib.hid hs38
    clear hs38 hp38 ho38 hlm hll
    go_wp2_with fail
    go_meet
    case rel =>
     have hfin:SD b c A ws g 56 w1 s1 #[.int .i64 7,.string ⟨ln.toArray⟩,.string ⟨#[]⟩,.int .i64 0,.int .i64 0,.int .u64 0,.string ⟨#[]⟩,.slice none 0 0,.slice none 0 0,.slice none 0 0,.string ⟨le.toArray⟩,.slice mA Lm.length mc] _:=HS38.out.put 11 (.slice mA Lm.length mc) rfl
     exact ⟨(by first | exact trivial | exact rfl),7,ln,[],0,0,0,[],none,0,0,none,0,0,none,0,0,le,mA,Lm.length,mc,⟨7,ln,[],con0,[],[],le,Lm⟩,hfin,⟨rfl,rfl,rfl,rc_con0,RepL.nil_,RepL.nil_,rfl,LM.lasts (Mv.oth (Oth.set w38 g 11 _) (Nat.le_refl _) (Nat.lt_succ_self _)) HL38.out⟩,fun h=>by rw [HLM.out h]⟩
 case rest =>
 obtain ⟨hBt,dk,ln,lt,xk,xn,xd,xs,xA,xm,xc,fA,fm,fc,mA,mm,mc,le,sA,sm,sc,y',hs9,hrd9,hyy⟩:=hcut
 obtain rfl:=hBt.out
 have HYY:=Lib.hid hyy
 have HRD:=Lib.hid hrd9
 have HS9:=Lib.hid hs9
 clear hs9 hrd9 hyy HS1 HR
 go_wp2_with fail
 refine (dpart_any HS9.out.pc _ rfl).mono ?_;rintro e w5 ⟨rfl,hp5,ho5⟩
 have HS5:=Lib.hid (HS9.out.step hp5 ho5)
 have HRD5:=Lib.hid (RD.lasts (Mv.oth ho5 (Nat.le_refl _) (show b<g+1 by have:=HS9.out.hb;omega)) HRD.out)
 have HR6:=Lib.hid (HS5.out.ot.blk HB2.out (by have:=HBG.out;omega))
 obtain ⟨d0,d1,d2,d3,d4,d5,d6,d7,d8,d9,d10,d11,-⟩:=cellsD12 HS5.out.bl
 obtain ⟨r0,r1,r2,r3,r4,r5,r6,r7,r8,r9,r10,r11,f0,f1,f2,f3,f4,f5,f6,f7,f8,f9,f10,f11⟩:=cellsD12 HR6.out
 clear hp5 ho5 HS9 HRD
 go_wp2_with fail
 refine bodyPost_ret (results_cell_tmp_rowD rfl _ _ g2 _ _ _ _ rfl (HR6.out.putD12).2 Tryz.underlying56 rfl (by kernel_rfl)) rfl ?_
 have HW:=(Oth.refl g2 w5) |>.own (i:=0) (v:=.int .i64 (dk:Int)) |>.own (i:=1) (v:=.string ⟨ln.toArray⟩) |>.own (i:=2) (v:=.string ⟨lt.toArray⟩) |>.own (i:=3) (v:=.int .i64 (xk:Int)) |>.own (i:=4) (v:=.int .i64 xn) |>.own (i:=5) (v:=.int .u64 (xd:Int)) |>.own (i:=6) (v:=.string ⟨xs.toArray⟩) |>.own (i:=7) (v:=.slice xA xm xc) |>.own (i:=8) (v:=.slice fA fm fc) |>.own (i:=9) (v:=.slice mA mm mc) |>.own (i:=10) (v:=.string ⟨le.toArray⟩) |>.own (i:=11) (v:=.slice sA sm sc)
 exact ⟨⟨dk,ln,lt,⟨xk,xn,xd,xs,.slice xA xm xc⟩,.slice fA fm fc,.slice mA mm mc,le,.slice sA sm sc⟩,y',rfl,fun _ h=>HYY.out h,RD.lasts (Mv.oth HW (show w.heap.size≤g+1 by have:=HG2.out;have:=HG2G.out;omega) (show g2<g+1 by have:=HG2G.out;omega)) HRD5.out,HS5.out.pc.apart HW HBG.out,((Oth.nx HN2.out).trans HS5.out.ot).apartD HW HG2.out⟩
end
end Go.Proofs.YtpfecpcgdfbekaaGreatDoor
