/- The document's play: definitions that others stand on. -/
import Derived.Test.YteclejplbphkpaaGreatG22
set_option linter.unusedVariables false
set_option linter.unusedSimpArgs false
set_option linter.unnecessarySimpa false
namespace Go.Proofs.YteclejplbphkpaaGreat
open Go.RowKit
def PMem (i:Nat) (m:Mem):Prop:=if i=0 then m=⟨[65],false,0⟩ else m.nm=[(65+i).toUInt8]∧((m.has=false∧m.n=0)∨(m.has=true∧∃ k:Nat,k<9∧m.n=5+10 * ((i:Int) - 1)+(k:Int)))
def PCon (ty:List UInt8) (c:Con):Prop :=
 (ty=[105,51,50]∧∃ k:Nat,k<99∧c = .mk 1 (k:Int) 0 [] [])∨(ty=[108,105,115,116,60,69,62]∧c = .mk 5 0 0 [] [.mk 4 0 0 [69,46,65] [],.mk 1 0 0 [] []]) ∨
 (ty=[115,116,114,105,110,103]∧c = .mk 3 0 0 [99] [])∨(ty=[109,97,112,60,115,116,114,105,110,103,44,105,54,52,62]∧c = .mk 5 0 0 [] [])
structure PBase (ds:List Dfn):Prop where
 is:∃ ms ty c fs fu,ds=[⟨2,[69],[],con0,[],ms,[],[]⟩,⟨1,[84],ty,con0,[],[],[],[]⟩,⟨3,[67],[84],c,[],[],[],[]⟩,dfnF 4 [80] fs,dfnF 5 [85] fu] ∧
  AllI PMem ms∧0<ms.length∧ms.length≤3∧PCon ty c∧AllI (PFld [] false) fs∧fs.length≤21∧AllI (PFld [] true) fu∧fu.length≤21∧0<fu.length
def PBaseR (b:Nat) (w:World) (B:Nat) (v:Value) (w':World):Prop :=
 ∃ (ds:List Dfn) (r':List UInt8),LD w' (Fm B) v ds∧PBase ds∧Pk w' b r'∧Oth b w w'
structure ESt (b B0 ge:Nat) (w0 w:World) (mv:Value) (ms:List Mem) (r:List UInt8):Prop where
 be:Blk w ge ge (dfnA ⟨2,[69],[],conZ,nilV,mv,[],nilV⟩) 57
 lm:LMm w (Fm B0) mv ms
 pk:Pk w b r
 oth:Oth b w0 w
theorem ESt.step {b B0 ge:Nat} {w0 w w':World} {mv:Value} {ms:List Mem} {r r':List UInt8} (h:ESt b B0 ge w0 w mv ms r) (hb:b<B0) (h1:B0≤ge) (ho:Oth b w w') (hp:Pk w' b r'):ESt b B0 ge w0 w' mv ms r' :=
 ⟨ho.blk h.be (by omega),h.lm.oth REq.lasts ho hb,hp,h.oth.trans ho⟩
theorem ESt.ne {b B0 ge:Nat} {w0 w:World} {mv:Value} {ms:List Mem} {r:List UInt8} (h:ESt b B0 ge w0 w mv ms r):mv.ownBlock≠some ge:=by
 obtain ⟨xs,h1,-⟩:=h.lm
 exact ply_ne h1.1 h.be.2 (by decide)
theorem RC.keep {n:Nat} {P Q:Nat→Prop} {w w':World} {x:ConS} {c:Con} (h:RC n w P x c) (hk:∀ g,P g→g<w.heap.size→w'.heap[g]? = w.heap[g]?) (hq:∀ g,P g→g<w.heap.size→Q g):RC n w' Q x c:=RC.lasts n ⟨hk,hq⟩ h
theorem base_fin {b B0 gu:Nat} {w W2:World} {mv fsv fuv:Value} {ms:List Mem} {ini:ConS} {cn:Con} {ty:List UInt8} {fs fu:List Fld} {r:List UInt8}
  (hlm:LMm W2 (InB B0 gu) mv ms) (hrc:RC 13 W2 (InB B0 gu) ini cn) (hls:LF W2 (InB B0 gu) fsv fs) (hlu:LF W2 (InB B0 gu) fuv fu) (hs2:W2.heap.size=gu+1) (hBu:B0≤gu) (hpk:Pk W2 b r) (hoth:Oth b w W2)
  (h1:AllI PMem ms) (h2:0<ms.length) (h3:ms.length≤3) (h4:PCon ty cn) (h5:AllI (PFld [] false) fs) (h6:fs.length≤21) (h7:AllI (PFld [] true) fu) (h8:fu.length≤21) (h9:0<fu.length)
  (cs:Array Value) (hcs:cs.toList=rowL dfnA [⟨2,[69],[],conZ,nilV,mv,[],nilV⟩,⟨1,[84],ty,conZ,nilV,nilV,[],nilV⟩,⟨3,[67],[84],ini,nilV,nilV,[],nilV⟩,⟨4,[80],[],conZ,fsv,nilV,[],nilV⟩,⟨5,[85],[],conZ,fuv,nilV,[],nilV⟩]) :
  PBaseR b w B0 (.slice (some ⟨gu+1,0,none⟩) 5 5) (W2.alloc (.cells cs 57)):=by
 have n3:Nx W2 (W2.alloc (.cells cs 57)):=nx0 _ _
 have kk:∀ g,InB B0 gu g→(W2.alloc (.cells cs 57)).heap[g]? = W2.heap[g]?:=fun g hg=>n3.block g (by have:=hg.2;omega)
 have hnew:=heap_alloc_new W2 (.cells cs 57)
 rw [hs2] at hnew
 have tq:∀ g,InB B0 gu g→But (Fm B0) (.slice (some ⟨gu+1,0,none⟩) 5 5) g:=fun g hg=>⟨hg.1,fun e=>by have:=hg.2;simp only [Value.ownBlock,Option.some.injEq] at e;omega⟩
 have hlm3:=RepL.mv REq.lasts ⟨fun g hg _=>kk g hg,fun g hg _=>tq g hg⟩ hlm
 have hrc3:=hrc.keep (fun g hg _=>kk g hg) (fun g hg _=>tq g hg)
 have hls3:=RepL.mv RF.lasts ⟨fun g hg _=>kk g hg,fun g hg _=>tq g hg⟩ hls
 have hlu3:=RepL.mv RF.lasts ⟨fun g hg _=>kk g hg,fun g hg _=>tq g hg⟩ hlu
 have hpk3:=hpk.nx n3
 have hoth3:=hoth.trans (Oth.nx n3)
 clear hlm hrc hls hlu kk tq n3
 generalize W2.alloc (.cells cs 57)=W3 at *
 have hall:All2 (RD W3 (But (Fm B0) (.slice (some ⟨gu+1,0,none⟩) 5 5))) [⟨2,[69],[],conZ,nilV,mv,[],nilV⟩,⟨1,[84],ty,conZ,nilV,nilV,[],nilV⟩,⟨3,[67],[84],ini,nilV,nilV,[],nilV⟩,⟨4,[80],[],conZ,fsv,nilV,[],nilV⟩,⟨5,[85],[],conZ,fuv,nilV,[],nilV⟩]
   [⟨2,[69],[],con0,[],ms,[],[]⟩,⟨1,[84],ty,con0,[],[],[],[]⟩,⟨3,[67],[84],cn,[],[],[],[]⟩,dfnF 4 [80] fs,dfnF 5 [85] fu] :=
  ⟨⟨rfl,rfl,rfl,rc_con0,RepL.nil_,hlm3,rfl,RepL.nil_⟩,⟨rfl,rfl,rfl,rc_con0,RepL.nil_,RepL.nil_,rfl,RepL.nil_⟩,⟨rfl,rfl,rfl,hrc3,RepL.nil_,RepL.nil_,rfl,RepL.nil_⟩,⟨rfl,rfl,rfl,rc_con0,hls3,RepL.nil_,rfl,RepL.nil_⟩,⟨rfl,rfl,rfl,rc_con0,hlu3,RepL.nil_,rfl,RepL.nil_⟩,trivial⟩
 have hld:LD W3 (Fm B0) (.slice (some ⟨gu+1,0,none⟩) 5 5) [⟨2,[69],[],con0,[],ms,[],[]⟩,⟨1,[84],ty,con0,[],[],[],[]⟩,⟨3,[67],[84],cn,[],[],[],[]⟩,dfnF 4 [80] fs,dfnF 5 [85] fu] :=
  RepL.built dfnA_size hcs hnew (show B0≤gu+1 by omega) (show 5≤maxLen by decide) hall
 exact ⟨_,r,hld,⟨ms,ty,cn,fs,fu,rfl,h1,h2,h3,h4,h5,h6,h7,h8,h9⟩,hpk3,hoth3⟩
structure BSt (b B0 C ge gt gc:Nat) (w0 w:World) (mv:Value) (ms:List Mem) (ty:List UInt8) (ini:ConS) (cn:Con) (r:List UInt8):Prop where
 be:Blk w ge ge (dfnA ⟨2,[69],[],conZ,nilV,mv,[],nilV⟩) 57
 bt:Blk w gt gt (dfnA ⟨1,[84],ty,conZ,nilV,nilV,[],nilV⟩) 57
 bc:Blk w gc gc (dfnA ⟨3,[67],[84],ini,nilV,nilV,[],nilV⟩) 57
 lm:LMm w (InB B0 C) mv ms
 rc:RC 13 w (InB B0 C) ini cn
 pk:Pk w b r
 oth:Oth b w0 w
theorem BSt.step {b B0 C ge gt gc:Nat} {w0 w w':World} {mv:Value} {ms:List Mem} {ty:List UInt8} {ini:ConS} {cn:Con} {r r':List UInt8} (h:BSt b B0 C ge gt gc w0 w mv ms ty ini cn r) (hb:b<B0) (h1:B0≤ge) (h2:B0≤gt) (h3:B0≤gc) (hC:C≤w.heap.size) (ho:Oth b w w') (hp:Pk w' b r') :
  BSt b B0 C ge gt gc w0 w' mv ms ty ini cn r' :=
 ⟨ho.blk h.be (by omega),ho.blk h.bt (by omega),ho.blk h.bc (by omega),h.lm.keepIn REq.lasts fun g hg hl=>ho.block g (by omega) (by omega),h.rc.keep (fun g hg hl=>ho.block g hl (by have:=hg.1;omega)) (fun g hg _=>hg),hp,h.oth.trans ho⟩
theorem bv_upper (i:Nat) (hi:i≤100):bv (66+i).toUInt8 = .int .u8 (66+(i:Int)):=by
 have h:(66+i).toUInt8.toNat=66+i:=by
  rw [Nat.toUInt8,UInt8.toNat_ofNat']
  omega
 unfold bv
 rw [h]
 exact congrArg (Value.int .u8) (by omega)
set_option maxRecDepth 100000 in
set_option maxHeartbeats 12800000 in
theorem plBase_any (b:Nat) (r:List UInt8) (w:World) (hP:Pk w b r) :
  Calls Tryz.prog 14 #[.pointer (some ⟨b,0,none⟩)] w fun e w'=>∃ v,e = .returned v∧PBaseR b w w.heap.size v w':=by
 obtain ⟨B0,hB0e⟩:∃ B0,w.heap.size=B0:=⟨_,rfl⟩
 rw [hB0e]
 have hb0:b<B0:=by rw [← hB0e];exact hP.lt
 have HWB:Hid (w.heap.size=B0):=hB0e
 obtain ⟨ge,hge⟩:∃ ge,B0+1=ge:=⟨_,rfl⟩
 have HE0:Hid (ESt b B0 ge w ((w.alloc (.cells (memA ⟨[65],false,0⟩) 72)).alloc (.cells (dfnA ⟨2,[69],[],conZ,nilV,.slice (some ⟨B0,0,none⟩) 1 1,[],nilV⟩) 57)) (.slice (some ⟨B0,0,none⟩) 1 1) [⟨[65],false,0⟩] r):=by
  have n1:Nx w ((w.alloc (.cells (memA ⟨[65],false,0⟩) 72)).alloc (.cells (dfnA ⟨2,[69],[],conZ,nilV,.slice (some ⟨B0,0,none⟩) 1 1,[],nilV⟩) 57)):=Nx.al (nx0 _ _) _
  refine ⟨?_,?_,hP.nx n1,Oth.nx n1⟩
  ·have:=Blk.new (w.alloc (.cells (memA ⟨[65],false,0⟩) 72)) (dfnA ⟨2,[69],[],conZ,nilV,.slice (some ⟨B0,0,none⟩) 1 1,[],nilV⟩) 57
   rw [show (w.alloc (.cells (memA ⟨[65],false,0⟩) 72)).heap.size=ge by rw [← hge,← hB0e];simp] at this
   exact this
  ·have:=(Blk.new w (memA ⟨[65],false,0⟩) 72).alloc (.cells (dfnA ⟨2,[69],[],conZ,nilV,.slice (some ⟨B0,0,none⟩) 1 1,[],nilV⟩) 57)
   rw [hB0e] at this
   exact RepL.built memA_size (xs:=[⟨[65],false,0⟩]) (by simp [rowL]) this.2 (show B0≤B0 from Nat.le_refl _) (show 1≤maxLen by decide) ⟨rfl,trivial⟩
 have hBe:B0≤ge:=by omega
 clear hP
 go_enter Tryz.func14,Tryz.ntmps14
 go_wp2_with fail
 refine (num_any b 3 r _ HE0.out.pk (by decide) (by decide)).mono ?_;rintro e w3 ⟨rfl,hP3,hO3⟩
 have hkn:=numP_lt 3 (by decide) r
 obtain ⟨n,r3,hN⟩:∃ n r3,numP 3 r=(n,r3):=⟨_,_,rfl⟩
 rw [hN] at hP3 hkn ⊢
 dsimp only at hP3 hkn ⊢
 have HE3:=Lib.hid (HE0.out.step hb0 hBe hO3 hP3)
 clear hN hP3 hO3 HE0 hB0e
 go_wp2_with fail
 go_loopw [4] (fun iv wr=>∃ (i:Nat) (mv:Value) (ms:List Mem) (r':List UInt8),iv = .int .i64 (i:Int)∧i≤n∧ESt b B0 ge w wr mv ms r'∧ms.length=i+1∧AllI PMem ms) (fun iv _=>(100 - intOf iv).toNat)
 case atStart=>exact ⟨0,_,_,r3,rfl,Nat.zero_le _,HE3.out,rfl,fun j x hx=>by
  cases j with
  | zero=>simp at hx;subst hx;rfl
  | succ j=>simp at hx⟩
 case round =>
  obtain ⟨i,mv,ms,r4,rfl,hi,hE4,hml,hall⟩:=hrel
  obtain ⟨mA,mc,-,rfl,-,-,-,-,-⟩:=hE4.lm.sl memA_size
  have hi20:(i:Int)≤20:=by omega
  have HML:=Lib.hid hml
  have HE4:=Lib.hid hE4
  have HALL:=Lib.hid hall
  clear hE4 hml hall
  by_cases hlt:i<n
  ·have q1:decide ((i:Int)<(n:Int))=true:=decide_eq_true (by omega)
   have q2:(i:Int)<(n:Int):=by omega
   obtain ⟨cx,hcx⟩:∃ cx,Hid ((66+i).toUInt8=cx):=⟨_,rfl⟩
   have hbc:Hid (bv cx = .int .u8 (66+(i:Int))):=by unfold Hid;rw [← hcx.out];exact bv_upper i (by omega)
   have hbr:b<wr.heap.size:=HE4.out.pk.lt
   go_upto_region 5 with fail
   go_cut [6] (fun v wx=>∃ g:Nat,v = .pointer (some ⟨g,0,none⟩)∧wr.heap.size≤g∧Blk wx g g (memA ⟨[cx],false,0⟩) 72∧Pk wx b r4∧Oth b wr wx)
   case first =>
    obtain ⟨ga,hga⟩:∃ ga,wr.heap.size=ga:=⟨_,rfl⟩
    have hwm:IntKind.i64.wrap (66+(i:Int))=66+(i:Int):=by rw [IntKind.wrap_i64];omega
    have hw8:IntKind.u8.wrap (66+(i:Int))=66+(i:Int):=by rw [IntKind.wrap_u8];omega
    have n2:Nx wr ((wr.alloc (.cells #[.int .u8 (66+(i:Int))] 5)).alloc (.cells (memA ⟨[cx],false,0⟩) 72)):=Nx.al (nx0 _ _) _
    have hB:Blk ((wr.alloc (.cells #[.int .u8 (66+(i:Int))] 5)).alloc (.cells (memA ⟨[cx],false,0⟩) 72)) (ga+1) (ga+1) (memA ⟨[cx],false,0⟩) 72:=by
     have:=Blk.new (wr.alloc (.cells #[.int .u8 (66+(i:Int))] 5)) (memA ⟨[cx],false,0⟩) 72
     rw [show (wr.alloc (.cells #[.int .u8 (66+(i:Int))] 5)).heap.size=ga+1 by rw [← hga];simp] at this
     exact this
    have HB:=Lib.hid hB
    have HN2:=Lib.hid n2
    clear hB n2
    go_wp2_with (refine wpList_str (o:=⟨some 25,_,_,_,_,_⟩) _ rfl _ rfl Tryz.underlying22 Tryz.underlying5 Tryz.underlying9 _ [cx] _ rfl (Rd.one hbc.out.symm hga.symm) ?_;intro s1 HS1 hs1 hs2;obtain rfl:=HS1.out)
    go_meet
    case rel=>exact ⟨ga+1,rfl,by omega,HB.out,HE4.out.pk.nx HN2.out,Oth.nx HN2.out⟩
   case rest =>
   obtain ⟨g,rfl,hgw,hB,hP5,hO5⟩:=hcut
   have hbg:b<g:=by omega
   have HB5:=Lib.hid hB
   have HP5:=Lib.hid hP5
   have HO5:=Lib.hid hO5
   clear hB hP5 hO5
   go_wp2_with fail
   refine (num_any b 2 r4 _ HP5.out (by decide) (by decide)).mono ?_;rintro e w6 ⟨rfl,hP6,hO6⟩
   have hkn6:=numP_lt 2 (by decide) r4
   generalize numP 2 r4=N6 at *
   obtain ⟨n6,r6⟩:=N6
   dsimp only at hkn6 hP6 ⊢
   have HB6:=Lib.hid (hO6.blk HB5.out (by omega))
   have HO6:=Lib.hid (HO5.out.trans hO6)
   have HP6:=Lib.hid hP6
   clear hO6 hP6 HB5 HP5 HO5
   go_upto_if 29 with fail
   go_cut [] (fun wx=>∃ (has:Bool) (N:Int) (r7:List UInt8),((has=false∧N=0)∨(has=true∧∃ k:Nat,k<9∧N=5+10 * (i:Int)+(k:Int)))∧Blk wx g g (memA ⟨[cx],has,N⟩) 72∧Pk wx b r7∧Oth b wr wx)
   case first =>
    by_cases h6:n6=0
    ·subst h6
     have hw1:IntKind.i64.wrap (10 * (i:Int))=10 * (i:Int):=by rw [IntKind.wrap_i64];omega
     have hw2:IntKind.i64.wrap (5+10 * (i:Int))=5+10 * (i:Int):=by rw [IntKind.wrap_i64];omega
     go_wp2_with fail
     refine (num_any b 9 r6 _ HP6.out (by decide) (by decide)).mono ?_;rintro e w8 ⟨rfl,hP8,hO8⟩
     have hkn8:=numP_lt 9 (by decide) r6
     generalize numP 9 r6=N8 at *
     obtain ⟨n8,r8⟩:=N8
     dsimp only at hkn8 hP8 ⊢
     have hw3:IntKind.i64.wrap (5+10 * (i:Int)+(n8:Int))=5+10 * (i:Int)+(n8:Int):=by rw [IntKind.wrap_i64];omega
     have HB8:=Lib.hid (hO8.blk HB6.out (by omega))
     have HO8:=Lib.hid (HO6.out.trans hO8)
     have HP8:=Lib.hid hP8
     have c1:w8.cell? ⟨g,1,none⟩=some (.bool false):=HB8.out.cell 1
     have c2:w8.cell? ⟨g,2,none⟩=some (.int .i64 0):=HB8.out.cell 2
     have f1:=HB8.out.free 1
     have f2:=HB8.out.free 2
     clear hO8 hP8
     go_wp2_with fail
     go_meet
     case rel=>exact ⟨true,_,r8,.inr ⟨rfl,n8,hkn8,rfl⟩,(HB8.out.put 1 (.bool true)).put 2 _,(HP8.out.put hbg 1 _).put hbg 2 _,(HO8.out.put hgw 1 _).put hgw 2 _⟩
    ·have d0:((n6:Int) == 0)=false:=by rw [beq_eq_false_iff_ne];omega
     have d0':¬ (n6:Int)=0:=by omega
     go_wp2_with fail
     go_meet
     case rel=>exact ⟨false,0,r6,.inl ⟨rfl,rfl⟩,HB6.out,HP6.out,HO6.out⟩
   case rest =>
   obtain ⟨has,N,r7,hN7,hB7,hP7,hO7⟩:=hcut
   have HB7:=Lib.hid hB7
   have HE7:=Lib.hid (HE4.out.step hb0 hBe hO7 hP7)
   have HMM:Hid (PMem ms.length ⟨[cx],has,N⟩):=by
    unfold Hid PMem
    rw [HML.out,if_neg (by omega)]
    refine ⟨?_,?_⟩
    ·show [cx]=_
     rw [← hcx.out,show 65+(i+1)=66+i by omega]
    ·rcases hN7 with h | ⟨h1,k,h2,h3⟩
     ·exact .inl h
     ·exact .inr ⟨h1,k,h2,by show N=_;rw [h3];omega⟩
   clear hB7 hP7 hO7 hN7 HB6 HP6 HO6
   have HG:=Lib.hid fun k e=>(HE4.out.lm.own_lt k e).1
   have hne:=HE7.out.ne
   have HNE:=Lib.hid hne
   have h63:(ms.length:Int)≤100000:=by have:=HML.out;omega
   have c9:wc.cell? ⟨ge,9,none⟩=some (.slice mA ms.length mc):=HE7.out.be.cell 9
   have f9:=HE7.out.be.free 9
   have c0:wc.cell? ⟨g,0,none⟩=some (.string ⟨[cx].toArray⟩):=HB7.out.cell 0
   have c1:wc.cell? ⟨g,1,none⟩=some (.bool has):=HB7.out.cell 1
   have c2:wc.cell? ⟨g,2,none⟩=some (.int .i64 N):=HB7.out.cell 2
   have hn9:Nx wc (wc.alloc (.cells (memA ⟨[cx],has,N⟩) 72)):=nx0 _ _
   have HE9:=Lib.hid (HE7.out.step hb0 hBe (Oth.nx hn9) (HE7.out.pk.nx hn9))
   have HONE:Hid (∀ v ∈ (memA ⟨[cx],has,N⟩).toList,v.oneCell'=true):=by
    intro v hv
    simp [memA,bt] at hv
    rcases hv with rfl | rfl | rfl <;> rfl
   have hBw:B0≤(wc.alloc (.cells (memA ⟨[cx],has,N⟩) 72)).heap.size:=Nat.le_trans hBe (Nat.le_of_lt HE9.out.be.lt)
   clear hn9 hne
   go_wp2_with (at_builtin;go_must (refine wpList_appL _ REq.lasts infoM Tryz.underlying54 rfl (by decide) (by decide) memA_size rfl _ _ rfl B0 b (.slice mA ms.length mc) ms ⟨[cx],has,N⟩ ⟨[cx],has,N⟩ rfl HE9.out.lm HONE.out _ rfl (fun j hj=>cell_newP (by simp)) rfl h63 hBw hb0 ?_;intro v2 w2 hl2 hf2 hk2;obtain ⟨vA,vc,-,rfl,-,-,-,-,-⟩:=RepL.sl memA_size hl2;have HL2:=Lib.hid hl2;have HF2:=Lib.hid hf2;have HK2:=Lib.hid hk2;have hbe2:Blk w2 ge ge (dfnA ⟨2,[69],[],conZ,nilV,.slice mA ms.length mc,[],nilV⟩) 57:=⟨HE9.out.be.1,(hk2 ge HE9.out.be.lt HNE.out).trans HE9.out.be.2⟩;have HBE2:=Lib.hid hbe2;have e9:w2.cell? ⟨ge,9,none⟩=some (.slice mA ms.length mc):=hbe2.cell 9;have f9':=hbe2.free 9;clear hbe2 hl2 hf2 hk2))
   go_roundw
   case rel =>
    have hmo:∀ k,(Value.slice mA ms.length mc).ownBlock=some k→B0≤k:=fun k e=>HG.out k e
    have hl3:LMm w2 (fun g'=>Fm B0 g'∧g'≠ge) (.slice vA (ms.length+1) vc) (ms++[⟨[cx],has,N⟩]):=by
     have:=HL2.out
     rw [List.length_append] at this
     obtain ⟨xs,h1,h2⟩:=this
     exact ⟨xs,⟨h1.1,fun g' e=>⟨h1.2 g' e,fun h0=>ply_ne h1.1 HBE2.out.2 (by decide) (by rw [← h0];exact e)⟩⟩,h2⟩
    refine ⟨i+1,Value.slice vA (ms.length+1) vc,ms++[(⟨[cx],has,N⟩:Mem)],r7,by go_num,hlt,⟨?_,?_,?_,?_⟩,by rw [List.length_append,HML.out];rfl,HALL.out.snoc HMM.out⟩
    ·exact HBE2.out.put 9 _
    ·exact RepL.mv REq.lasts ⟨fun k hk _=>set_other _ _ _ _ _ hk.2,fun k hk _=>hk.1⟩ hl3
    ·exact (HE9.out.pk.keep fun k hk=>HK2.out k (Nat.lt_of_le_of_lt hk HE9.out.pk.lt) (fun e=>by have:=hmo k e;omega)).put (by omega) 9 _
    ·exact (HF2.out.toOth HE9.out.oth hmo (by have:=HWB.out;omega)).put (by have:=HWB.out;omega) 9 _
   case measure=>simp [intOf];omega
  ·have q1:decide ((i:Int)<(n:Int))=false:=decide_eq_false (by omega)
   have q2:¬ (i:Int)<(n:Int):=by omega
   have hnl:ms.length≤3:=by have:=HML.out;omega
   have hnp:0<ms.length:=by have:=HML.out;omega
   have HNL:=Lib.hid hnl
   have HNP:=Lib.hid hnp
   clear hlt hnl hnp
   have hbr:b<wr.heap.size:=HE4.out.pk.lt
   have hBr:B0≤wr.heap.size:=Nat.le_trans hBe (Nat.le_of_lt HE4.out.be.lt)
   go_upto_region 9 with fail
   go_cut [7] (fun v wx=>∃ (gt:Nat) (ty:List UInt8) (r5:List UInt8),v = .pointer (some ⟨gt,0,none⟩)∧wr.heap.size≤gt∧(ty=[105,51,50]∨ty=[108,105,115,116,60,69,62]∨ty=[115,116,114,105,110,103]∨ty=[109,97,112,60,115,116,114,105,110,103,44,105,54,52,62])∧Blk wx gt gt (dfnA ⟨1,[84],ty,conZ,nilV,nilV,[],nilV⟩) 57∧Pk wx b r5∧Oth b wr wx)
   case first =>
    obtain ⟨ga,hga⟩:∃ ga,wr.heap.size=ga:=⟨_,rfl⟩
    have hA:=Blk.new wr #[.string ⟨#[105,51,50]⟩,.string ⟨#[108,105,115,116,60,69,62]⟩,.string ⟨#[115,116,114,105,110,103]⟩,.string ⟨#[109,97,112,60,115,116,114,105,110,103,44,105,54,52,62]⟩] 9
    rw [hga] at hA
    have HA:=Lib.hid hA
    have nA:Nx wr (wr.alloc (.cells #[.string ⟨#[105,51,50]⟩,.string ⟨#[108,105,115,116,60,69,62]⟩,.string ⟨#[115,116,114,105,110,103]⟩,.string ⟨#[109,97,112,60,115,116,114,105,110,103,44,105,54,52,62]⟩] 9)):=nx0 _ _
    have HPA:=Lib.hid (HE4.out.pk.nx nA)
    have HNA:=Lib.hid nA
    clear hA nA
    go_wp2_with fail
    refine (num_any b 4 r4 _ HPA.out (by decide) (by decide)).mono ?_;rintro e w5 ⟨rfl,hP5,hO5⟩
    have hkn5:=numP_lt 4 (by decide) r4
    generalize numP 4 r4=N5 at *
    obtain ⟨n5,r5⟩:=N5
    dsimp only at hkn5 hP5 ⊢
    have hA5:=hO5.blk HA.out (by omega)
    have a0:w5.cell? ⟨ga,0,none⟩=some (.string ⟨#[105,51,50]⟩):=hA5.cell 0
    have a1:w5.cell? ⟨ga,1,none⟩=some (.string ⟨#[108,105,115,116,60,69,62]⟩):=hA5.cell 1
    have a2:w5.cell? ⟨ga,2,none⟩=some (.string ⟨#[115,116,114,105,110,103]⟩):=hA5.cell 2
    have a3:w5.cell? ⟨ga,3,none⟩=some (.string ⟨#[109,97,112,60,115,116,114,105,110,103,44,105,54,52,62]⟩):=hA5.cell 3
    have HP5:=Lib.hid hP5
    have HO5:=Lib.hid ((Oth.nx HNA.out).trans hO5)
    obtain ⟨gt,hgt⟩:∃ gt,w5.heap.size=gt:=⟨_,rfl⟩
    have HGT:=Lib.hid hgt
    clear hA5 hO5 hP5 hga
    have key:∀ ty:List UInt8,Hid (∃ (gt':Nat) (ty':List UInt8) (r':List UInt8),gt=gt'∧ty=ty'∧r5=r'∧wr.heap.size≤gt∧Blk (w5.alloc (.cells (dfnA ⟨1,[84],ty,conZ,nilV,nilV,[],nilV⟩) 57)) gt gt (dfnA ⟨1,[84],ty,conZ,nilV,nilV,[],nilV⟩) 57∧Pk (w5.alloc (.cells (dfnA ⟨1,[84],ty,conZ,nilV,nilV,[],nilV⟩) 57)) b r5∧Oth b wr (w5.alloc (.cells (dfnA ⟨1,[84],ty,conZ,nilV,nilV,[],nilV⟩) 57))):=by
     intro ty
     have hB:=Blk.new w5 (dfnA ⟨1,[84],ty,conZ,nilV,nilV,[],nilV⟩) 57
     rw [HGT.out] at hB
     have n1:Nx w5 (w5.alloc (.cells (dfnA ⟨1,[84],ty,conZ,nilV,nilV,[],nilV⟩) 57)):=nx0 _ _
     exact ⟨gt,ty,r5,rfl,rfl,rfl,by rw [← HGT.out];exact HO5.out.size,hB,HP5.out.nx n1,HO5.out.trans (Oth.nx n1)⟩
    have HKEY:=Lib.hid key
    clear key
    rcases (show n5=0∨n5=1∨n5=2∨n5=3 by omega) with rfl | rfl | rfl | rfl
    ·go_wp2_with fail
     go_meet
     case rel =>
      obtain ⟨-,-,-,-,-,-,h1,h2,h3,h4⟩:=(HKEY.out [105,51,50]).out
      exact ⟨gt,[105,51,50],r5,rfl,h1,.inl rfl,h2,h3,h4⟩
    ·go_wp2_with fail
     go_meet
     case rel =>
      obtain ⟨-,-,-,-,-,-,h1,h2,h3,h4⟩:=(HKEY.out [108,105,115,116,60,69,62]).out
      exact ⟨gt,[108,105,115,116,60,69,62],r5,rfl,h1,.inr (.inl rfl),h2,h3,h4⟩
    ·go_wp2_with fail
     go_meet
     case rel =>
      obtain ⟨-,-,-,-,-,-,h1,h2,h3,h4⟩:=(HKEY.out [115,116,114,105,110,103]).out
      exact ⟨gt,[115,116,114,105,110,103],r5,rfl,h1,.inr (.inr (.inl rfl)),h2,h3,h4⟩
    ·go_wp2_with fail
     go_meet
     case rel =>
      obtain ⟨-,-,-,-,-,-,h1,h2,h3,h4⟩:=(HKEY.out [109,97,112,60,115,116,114,105,110,103,44,105,54,52,62]).out
      exact ⟨gt,[109,97,112,60,115,116,114,105,110,103,44,105,54,52,62],r5,rfl,h1,.inr (.inr (.inr rfl)),h2,h3,h4⟩
   case rest =>
   obtain ⟨gt,ty,r5,rfl,hgt,hty,hBt,hP5,hO5⟩:=hcut
   obtain ⟨gc,hgc⟩:∃ gc,wc.heap.size=gc:=⟨_,rfl⟩
   have htc:gt<gc:=by rw [← hgc];exact hBt.lt
   have n6:Nx wc (wc.alloc (.cells #[.int .i64 3,.string ⟨#[67]⟩,.string ⟨#[84]⟩,.int .i64 5,.int .i64 0,.int .u64 0,.string ⟨#[]⟩,.slice none 0 0,.slice none 0 0,.slice none 0 0,.string ⟨#[]⟩,.slice none 0 0] 57)):=nx0 _ _
   have hBc:Blk (wc.alloc (.cells #[.int .i64 3,.string ⟨#[67]⟩,.string ⟨#[84]⟩,.int .i64 5,.int .i64 0,.int .u64 0,.string ⟨#[]⟩,.slice none 0 0,.slice none 0 0,.slice none 0 0,.string ⟨#[]⟩,.slice none 0 0] 57)) gc gc (dfnA ⟨3,[67],[84],⟨5,0,0,[],nilV⟩,nilV,nilV,[],nilV⟩) 57:=by
    have:=Blk.new wc #[.int .i64 3,.string ⟨#[67]⟩,.string ⟨#[84]⟩,.int .i64 5,.int .i64 0,.int .u64 0,.string ⟨#[]⟩,.slice none 0 0,.slice none 0 0,.slice none 0 0,.string ⟨#[]⟩,.slice none 0 0] 57
    rw [hgc] at this
    exact this
   have HBT:=Lib.hid (hBt.below n6)
   have HBC:=Lib.hid hBc
   have HP6:=Lib.hid (hP5.nx n6)
   have HO6:=Lib.hid (hO5.trans (Oth.nx n6))
   have HTY:=Lib.hid hty
   clear hBt hBc hP5 hO5 n6 hty
   go_upto_region 11 with fail
   generalize World.alloc wc _=W at *
   have hgw:wr.heap.size≤gc:=by omega
   have hgcW:gc<W.heap.size:=HBC.out.lt
   have c2:W.cell? ⟨gt,2,none⟩=some (.string ⟨ty.toArray⟩):=HBT.out.cell 2
   clear hgc
   go_upto_block 2 with (fail)
   go_cut [] (fun wx=>∃ (ini:ConS) (cn:Con) (r7:List UInt8),PCon ty cn∧Blk wx gt gt (dfnA ⟨1,[84],ty,conZ,nilV,nilV,[],nilV⟩) 57∧Blk wx gc gc (dfnA ⟨3,[67],[84],ini,nilV,nilV,[],nilV⟩) 57∧RC 13 wx (Fm B0) ini cn∧Pk wx b r7∧Oth b wr wx)
   case first =>
    have hbc:b<gc:=by omega
    rcases HTY.out with rfl | rfl | rfl | rfl
    ·go_wp2_with fail
     refine (num_any b 99 r5 W HP6.out (by decide) (by decide)).mono ?_;rintro e w8 ⟨rfl,hP8,hO8⟩
     have hkn8:=numP_lt 99 (by decide) r5
     generalize numP 99 r5=N8 at *
     obtain ⟨n8,r8⟩:=N8
     dsimp only at hkn8 hP8 ⊢
     have HB8:=Lib.hid (hO8.blk HBC.out (by omega))
     have HT8:=Lib.hid (hO8.blk HBT.out (by omega))
     have HO8:=Lib.hid (HO6.out.trans hO8)
     have HP8:=Lib.hid hP8
     have c3:w8.cell? ⟨gc,3,none⟩=some (.int .i64 5):=HB8.out.cell 3
     have c4:w8.cell? ⟨gc,4,none⟩=some (.int .i64 0):=HB8.out.cell 4
     have c5:w8.cell? ⟨gc,5,none⟩=some (.int .u64 0):=HB8.out.cell 5
     have c6:w8.cell? ⟨gc,6,none⟩=some (.string ⟨#[]⟩):=HB8.out.cell 6
     have c7:w8.cell? ⟨gc,7,none⟩=some (.slice none 0 0):=HB8.out.cell 7
     have f3:=HB8.out.free 3
     have f4:=HB8.out.free 4
     have f5:=HB8.out.free 5
     have f6:=HB8.out.free 6
     have f7:=HB8.out.free 7
     clear hO8 hP8 c2
     go_wp2_with fail
     go_meet
     case rel=>exact ⟨⟨1,(n8:Int),0,[],nilV⟩,.mk 1 (n8:Int) 0 [] [],r8,.inl ⟨rfl,n8,hkn8,rfl⟩,(((((HT8.out.other (by omega) 3 _).other (by omega) 4 _).other (by omega) 5 _).other (by omega) 6 _).other (by omega) 7 _),(((((HB8.out.put 3 (.int .i64 1)).put 4 (.int .i64 (n8:Int))).put 5 (.int .u64 0)).put 6 (.string ⟨#[]⟩)).put 7 (.slice none 0 0)),RC.mk RepL.nil_,(((((HP8.out.put hbc 3 _).put hbc 4 _).put hbc 5 _).put hbc 6 _).put hbc 7 _),(((((HO8.out.put hgw 3 _).put hgw 4 _).put hgw 5 _).put hgw 6 _).put hgw 7 _)⟩
    ·obtain ⟨gl,hgl⟩:∃ gl,W.heap.size=gl:=⟨_,rfl⟩
     have HGL:=Lib.hid hgl
     have hgl2:gc<gl:=by omega
     have hBl:B0≤gl:=by omega
     have hnew:(((((W.setCell ⟨gc,3,none⟩ (.int .i64 5)).setCell ⟨gc,4,none⟩ (.int .i64 0)).setCell ⟨gc,5,none⟩ (.int .u64 0)).setCell ⟨gc,6,none⟩ (.string ⟨#[]⟩)).setCell ⟨gc,7,none⟩ (.slice (some ⟨gl,0,none⟩) 2 2)).heap.size=gl:=by simp only [set_size];exact hgl
     have hnew2:=heap_alloc_new (((((W.setCell ⟨gc,3,none⟩ (.int .i64 5)).setCell ⟨gc,4,none⟩ (.int .i64 0)).setCell ⟨gc,5,none⟩ (.int .u64 0)).setCell ⟨gc,6,none⟩ (.string ⟨#[]⟩)).setCell ⟨gc,7,none⟩ (.slice (some ⟨gl,0,none⟩) 2 2)) (.cells #[.int .i64 4,.int .i64 0,.int .u64 0,.string ⟨#[69,46,65]⟩,.slice none 0 0,.int .i64 1,.int .i64 0,.int .u64 0,.string ⟨#[]⟩,.slice none 0 0] 44)
     rw [hnew] at hnew2
     have HNEW:=Lib.hid hnew2
     clear hnew hnew2
     have k3:W.cell? ⟨gc,3,none⟩=some (.int .i64 5):=HBC.out.cell 3
     have g3:W.frozen? ⟨gc,3,none⟩=false:=HBC.out.free 3
     have k4:W.cell? ⟨gc,4,none⟩=some (.int .i64 0):=HBC.out.cell 4
     have g4:W.frozen? ⟨gc,4,none⟩=false:=HBC.out.free 4
     have k5:W.cell? ⟨gc,5,none⟩=some (.int .u64 0):=HBC.out.cell 5
     have g5:W.frozen? ⟨gc,5,none⟩=false:=HBC.out.free 5
     have k6:W.cell? ⟨gc,6,none⟩=some (.string ⟨#[]⟩):=HBC.out.cell 6
     have g6:W.frozen? ⟨gc,6,none⟩=false:=HBC.out.free 6
     have k7:W.cell? ⟨gc,7,none⟩=some (.slice none 0 0):=HBC.out.cell 7
     have g7:W.frozen? ⟨gc,7,none⟩=false:=HBC.out.free 7
     go_wp2_with fail
     go_meet
     case rel =>
      refine ⟨⟨5,0,0,[],.slice (some ⟨gl,0,none⟩) 2 2⟩,.mk 5 0 0 [] [.mk 4 0 0 [69,46,65] [],.mk 1 0 0 [] []],r5,.inr (.inl ⟨rfl,rfl⟩),((((((HBT.out.other (by omega) 3 _).other (by omega) 4 _).other (by omega) 5 _).other (by omega) 6 _).other (by omega) 7 _).alloc _),((((((HBC.out.put 3 (.int .i64 5)).put 4 (.int .i64 0)).put 5 (.int .u64 0)).put 6 (.string ⟨#[]⟩)).put 7 (.slice (some ⟨gl,0,none⟩) 2 2)).alloc _),?_,((((((HP6.out.put hbc 3 _).put hbc 4 _).put hbc 5 _).put hbc 6 _).put hbc 7 _).nx (nx0 _ _)),((((((HO6.out.put hgw 3 _).put hgw 4 _).put hgw 5 _).put hgw 6 _).put hgw 7 _).trans (Oth.nx (nx0 _ _)))⟩
      exact RC.mk (RepL.built conA_size (g:=gl) (xs:=[⟨4,0,0,[69,46,65],nilV⟩,⟨1,0,0,[],nilV⟩]) (cs:=#[.int .i64 4,.int .i64 0,.int .u64 0,.string ⟨#[69,46,65]⟩,.slice none 0 0,.int .i64 1,.int .i64 0,.int .u64 0,.string ⟨#[]⟩,.slice none 0 0]) rfl HNEW.out hBl (show 2≤maxLen by decide) ⟨RC.mk RepL.nil_,RC.mk RepL.nil_,trivial⟩)
    ·have c3:W.cell? ⟨gc,3,none⟩=some (.int .i64 5):=HBC.out.cell 3
     have c4:W.cell? ⟨gc,4,none⟩=some (.int .i64 0):=HBC.out.cell 4
     have c5:W.cell? ⟨gc,5,none⟩=some (.int .u64 0):=HBC.out.cell 5
     have c6:W.cell? ⟨gc,6,none⟩=some (.string ⟨#[]⟩):=HBC.out.cell 6
     have c7:W.cell? ⟨gc,7,none⟩=some (.slice none 0 0):=HBC.out.cell 7
     have f3:=HBC.out.free 3
     have f4:=HBC.out.free 4
     have f5:=HBC.out.free 5
     have f6:=HBC.out.free 6
     have f7:=HBC.out.free 7
     go_wp2_with fail
     go_meet
     case rel=>exact ⟨⟨3,0,0,[99],nilV⟩,.mk 3 0 0 [99] [],r5,.inr (.inr (.inl ⟨rfl,rfl⟩)),(((((HBT.out.other (by omega) 3 _).other (by omega) 4 _).other (by omega) 5 _).other (by omega) 6 _).other (by omega) 7 _),(((((HBC.out.put 3 (.int .i64 3)).put 4 (.int .i64 0)).put 5 (.int .u64 0)).put 6 (.string ⟨#[99]⟩)).put 7 (.slice none 0 0)),RC.mk RepL.nil_,(((((HP6.out.put hbc 3 _).put hbc 4 _).put hbc 5 _).put hbc 6 _).put hbc 7 _),(((((HO6.out.put hgw 3 _).put hgw 4 _).put hgw 5 _).put hgw 6 _).put hgw 7 _)⟩
    ·go_wp2_with fail
     go_meet
     case rel=>exact ⟨⟨5,0,0,[],nilV⟩,.mk 5 0 0 [] [],r5,.inr (.inr (.inr ⟨rfl,rfl⟩)),HBT.out,HBC.out,RC.mk RepL.nil_,HP6.out,HO6.out⟩
   case rest =>
   obtain ⟨ini,cn,r7,hpc,hBt,hBc,hRC,hP7,hO7⟩:=hcut
   obtain ⟨ik,iN,iD,iS,iL⟩:=ini
   obtain ⟨C,hC⟩:∃ C,wc.heap.size=C:=⟨_,rfl⟩
   have hBC:B0≤C:=by rw [← hC];exact Nat.le_trans hBr hO7.size
   have hgtB:B0≤gt:=by omega
   have hgcB:B0≤gc:=by omega
   have hST:Hid (BSt b B0 C ge gt gc w wc (.slice mA ms.length mc) ms ty ⟨ik,iN,iD,iS,iL⟩ cn r7):=by
    have hE:=HE4.out.step hb0 hBe hO7 hP7
    refine ⟨hE.be,hBt,hBc,?_,?_,hP7,hE.oth⟩
    ·have:=hE.lm.tight REq.lasts
     rw [hC] at this
     exact this
    ·exact hRC.keep (fun _ _ _=>rfl) fun g hg hl=>⟨hg,by rw [hC] at hl;exact hl⟩
   have HPC:=Lib.hid hpc
   have HSC:Hid (C≤wc.heap.size):=Nat.le_of_eq hC.symm
   clear hpc hBt hBc hRC hP7 hO7 HBT HBC HP6 HO6 HTY c2 hC
   go_wp2_with fail
   have hf:=plFields_any b 4 ⟨#[]⟩ [] false r7 wc (rfl:Tx ⟨#[]⟩ []) (by decide) (by decide) hST.out.pk
   refine hf.mono ?_;rintro e w5 ⟨v,rfl,fs,r8,hlf,hall5,hlen5,-,hP8,hO8⟩
   obtain ⟨sA,sc,-,rfl,-,-,-,-,-⟩:=hlf.sl fldA_size
   have HS5:=Lib.hid (hST.out.step hb0 hBe hgtB hgcB HSC.out hO8 hP8)
   obtain ⟨gs,hgs⟩:∃ gs,w5.heap.size=gs:=⟨_,rfl⟩
   have hCs:C≤gs:=by rw [← hgs];exact Nat.le_trans HSC.out hO8.size
   have hlf5:=(RepL.wide RF.lasts hlf (Q:=Fm B0) fun g hg _=>Nat.le_trans hBC (Nat.le_trans HSC.out hg)).tight RF.lasts
   rw [hgs] at hlf5
   have HLF5:=Lib.hid hlf5
   have HFS:=Lib.hid hall5
   have HLS:=Lib.hid hlen5
   have n6:Nx w5 (w5.alloc (.cells #[.int .i64 4,.string ⟨#[80]⟩,.string ⟨#[]⟩,.int .i64 0,.int .i64 0,.int .u64 0,.string ⟨#[]⟩,.slice none 0 0,.slice sA fs.length sc,.slice none 0 0,.string ⟨#[]⟩,.slice none 0 0] 57)):=nx0 _ _
   have hBs:Blk (w5.alloc (.cells #[.int .i64 4,.string ⟨#[80]⟩,.string ⟨#[]⟩,.int .i64 0,.int .i64 0,.int .u64 0,.string ⟨#[]⟩,.slice none 0 0,.slice sA fs.length sc,.slice none 0 0,.string ⟨#[]⟩,.slice none 0 0] 57)) gs gs #[.int .i64 4,.string ⟨#[80]⟩,.string ⟨#[]⟩,.int .i64 0,.int .i64 0,.int .u64 0,.string ⟨#[]⟩,.slice none 0 0,.slice sA fs.length sc,.slice none 0 0,.string ⟨#[]⟩,.slice none 0 0] 57:=by
    have:=Blk.new w5 #[.int .i64 4,.string ⟨#[80]⟩,.string ⟨#[]⟩,.int .i64 0,.int .i64 0,.int .u64 0,.string ⟨#[]⟩,.slice none 0 0,.slice sA fs.length sc,.slice none 0 0,.string ⟨#[]⟩,.slice none 0 0] 57
    rw [hgs] at this
    exact this
   have HBS:=Lib.hid hBs
   have HS6:=Lib.hid (HS5.out.step hb0 hBe hgtB hgcB (by rw [hgs];exact hCs) (Oth.nx n6) (HS5.out.pk.nx n6))
   have HLF6:=Lib.hid (HLF5.out.keepIn RF.lasts fun g hg hl=>n6.block g (by omega))
   have HSZ6:Hid ((w5.alloc (.cells #[.int .i64 4,.string ⟨#[80]⟩,.string ⟨#[]⟩,.int .i64 0,.int .i64 0,.int .u64 0,.string ⟨#[]⟩,.slice none 0 0,.slice sA fs.length sc,.slice none 0 0,.string ⟨#[]⟩,.slice none 0 0] 57)).heap.size=gs+1):=by unfold Hid;simp [hgs]
   clear hf hlf hall5 hlen5 hP8 hO8 hlf5 n6 hBs hST HS5 HLF5
   go_wp2_with fail
   have hf:=plFields_any b 3 ⟨#[]⟩ [] true r8 (w5.alloc (.cells #[.int .i64 4,.string ⟨#[80]⟩,.string ⟨#[]⟩,.int .i64 0,.int .i64 0,.int .u64 0,.string ⟨#[]⟩,.slice none 0 0,.slice sA fs.length sc,.slice none 0 0,.string ⟨#[]⟩,.slice none 0 0] 57)) (rfl:Tx ⟨#[]⟩ []) (by decide) (by decide) HS6.out.pk
   refine hf.mono ?_;rintro e w7 ⟨v,rfl,fu,r9,hlf,hall7,hlen7,hne7,hP9,hO9⟩
   obtain ⟨uA,uc,-,rfl,-,-,-,-,-⟩:=hlf.sl fldA_size
   have HS7:=Lib.hid (HS6.out.step hb0 hBe hgtB hgcB (by rw [HSZ6.out];omega) hO9 hP9)
   obtain ⟨gu,hgu⟩:∃ gu,w7.heap.size=gu:=⟨_,rfl⟩
   have hsu:gs+1≤gu:=by rw [← hgu,← HSZ6.out];exact hO9.size
   have hlf7:=(RepL.wide RF.lasts hlf (Q:=Fm B0) fun g hg _=>by have h1:=HSZ6.out;have h2:_≤g:=hg;rw [h1] at h2;exact (show B0≤g by omega)).tight RF.lasts
   rw [hgu] at hlf7
   have HLF7:=Lib.hid hlf7
   have HFU:=Lib.hid hall7
   have HLU:=Lib.hid hlen7
   have HNU:=Lib.hid (hne7 rfl)
   have HLS7:=Lib.hid (HLF6.out.keepIn RF.lasts fun g hg hl=>hO9.block g (by rw [HSZ6.out];omega) (by omega))
   have HBS7:=Lib.hid (hO9.blk HBS.out (by omega))
   clear hf hlf hall7 hlen7 hne7 hP9 hO9 hlf7 HBS HS6 HLF6
   have n8:Nx w7 (w7.alloc (.cells #[.int .i64 5,.string ⟨#[85]⟩,.string ⟨#[]⟩,.int .i64 0,.int .i64 0,.int .u64 0,.string ⟨#[]⟩,.slice none 0 0,.slice uA fu.length uc,.slice none 0 0,.string ⟨#[]⟩,.slice none 0 0] 57)):=nx0 _ _
   have hS8:=HS7.out.step hb0 hBe hgtB hgcB (by rw [hgu];omega) (Oth.nx n8) (HS7.out.pk.nx n8)
   have HE8:Hid ((w7.alloc (.cells #[.int .i64 5,.string ⟨#[85]⟩,.string ⟨#[]⟩,.int .i64 0,.int .i64 0,.int .u64 0,.string ⟨#[]⟩,.slice none 0 0,.slice uA fu.length uc,.slice none 0 0,.string ⟨#[]⟩,.slice none 0 0] 57)).heap[ge]? = some (.cells #[.int .i64 2,.string ⟨#[69]⟩,.string ⟨#[]⟩,.int .i64 0,.int .i64 0,.int .u64 0,.string ⟨#[]⟩,.slice none 0 0,.slice none 0 0,.slice mA ms.length mc,.string ⟨#[]⟩,.slice none 0 0] 57 (0,0))):=hS8.be.2
   have HT8:Hid ((w7.alloc (.cells #[.int .i64 5,.string ⟨#[85]⟩,.string ⟨#[]⟩,.int .i64 0,.int .i64 0,.int .u64 0,.string ⟨#[]⟩,.slice none 0 0,.slice uA fu.length uc,.slice none 0 0,.string ⟨#[]⟩,.slice none 0 0] 57)).heap[gt]? = some (.cells #[.int .i64 1,.string ⟨#[84]⟩,.string ⟨ty.toArray⟩,.int .i64 0,.int .i64 0,.int .u64 0,.string ⟨#[]⟩,.slice none 0 0,.slice none 0 0,.slice none 0 0,.string ⟨#[]⟩,.slice none 0 0] 57 (0,0))):=hS8.bt.2
   have HC8:Hid ((w7.alloc (.cells #[.int .i64 5,.string ⟨#[85]⟩,.string ⟨#[]⟩,.int .i64 0,.int .i64 0,.int .u64 0,.string ⟨#[]⟩,.slice none 0 0,.slice uA fu.length uc,.slice none 0 0,.string ⟨#[]⟩,.slice none 0 0] 57)).heap[gc]? = some (.cells #[.int .i64 3,.string ⟨#[67]⟩,.string ⟨#[84]⟩,.int .i64 (ik:Int),.int .i64 iN,.int .u64 (iD:Int),.string ⟨iS.toArray⟩,iL,.slice none 0 0,.slice none 0 0,.string ⟨#[]⟩,.slice none 0 0] 57 (0,0))):=hS8.bc.2
   have HBS8:Hid ((w7.alloc (.cells #[.int .i64 5,.string ⟨#[85]⟩,.string ⟨#[]⟩,.int .i64 0,.int .i64 0,.int .u64 0,.string ⟨#[]⟩,.slice none 0 0,.slice uA fu.length uc,.slice none 0 0,.string ⟨#[]⟩,.slice none 0 0] 57)).heap[gs]? = some (.cells #[.int .i64 4,.string ⟨#[80]⟩,.string ⟨#[]⟩,.int .i64 0,.int .i64 0,.int .u64 0,.string ⟨#[]⟩,.slice none 0 0,.slice sA fs.length sc,.slice none 0 0,.string ⟨#[]⟩,.slice none 0 0] 57 (0,0))):=(HBS7.out.below n8).2
   have hu8:=heap_alloc_new w7 (.cells #[.int .i64 5,.string ⟨#[85]⟩,.string ⟨#[]⟩,.int .i64 0,.int .i64 0,.int .u64 0,.string ⟨#[]⟩,.slice none 0 0,.slice uA fu.length uc,.slice none 0 0,.string ⟨#[]⟩,.slice none 0 0] 57)
   rw [hgu] at hu8
   have HU8:Hid ((w7.alloc (.cells #[.int .i64 5,.string ⟨#[85]⟩,.string ⟨#[]⟩,.int .i64 0,.int .i64 0,.int .u64 0,.string ⟨#[]⟩,.slice none 0 0,.slice uA fu.length uc,.slice none 0 0,.string ⟨#[]⟩,.slice none 0 0] 57)).heap[gu]? = some (.cells #[.int .i64 5,.string ⟨#[85]⟩,.string ⟨#[]⟩,.int .i64 0,.int .i64 0,.int .u64 0,.string ⟨#[]⟩,.slice none 0 0,.slice uA fu.length uc,.slice none 0 0,.string ⟨#[]⟩,.slice none 0 0] 57 (0,0))):=hu8
   have HFIN:Hid (∀ cs:Array Value,cs.toList=rowL dfnA [⟨2,[69],[],conZ,nilV,.slice mA ms.length mc,[],nilV⟩,⟨1,[84],ty,conZ,nilV,nilV,[],nilV⟩,⟨3,[67],[84],⟨ik,iN,iD,iS,iL⟩,nilV,nilV,[],nilV⟩,⟨4,[80],[],conZ,.slice sA fs.length sc,nilV,[],nilV⟩,⟨5,[85],[],conZ,.slice uA fu.length uc,nilV,[],nilV⟩] →
     PBaseR b w B0 (.slice (some ⟨gu+1,0,none⟩) 5 5) ((w7.alloc (.cells #[.int .i64 5,.string ⟨#[85]⟩,.string ⟨#[]⟩,.int .i64 0,.int .i64 0,.int .u64 0,.string ⟨#[]⟩,.slice none 0 0,.slice uA fu.length uc,.slice none 0 0,.string ⟨#[]⟩,.slice none 0 0] 57)).alloc (.cells cs 57))):=by
    intro cs hcs
    have kb:∀ g,g<gu→(w7.alloc (.cells #[.int .i64 5,.string ⟨#[85]⟩,.string ⟨#[]⟩,.int .i64 0,.int .i64 0,.int .u64 0,.string ⟨#[]⟩,.slice none 0 0,.slice uA fu.length uc,.slice none 0 0,.string ⟨#[]⟩,.slice none 0 0] 57)).heap[g]? = w7.heap[g]?:=fun g hl=>n8.block g (by omega)
    refine base_fin (hS8.lm.wide REq.lasts fun g hg _=>⟨hg.1,by have:=hg.2;omega⟩) (hS8.rc.keep (fun _ _ _=>rfl) fun g hg _=>⟨hg.1,by have:=hg.2;omega⟩) ((HLS7.out.keepIn RF.lasts fun g hg hl=>kb g (by omega)).wide RF.lasts fun g hg _=>⟨hg.1,by have:=hg.2;omega⟩) (HLF7.out.keepIn RF.lasts fun g hg hl=>kb g hl) (by simp [hgu]) (by omega) hS8.pk hS8.oth HALL.out HNP.out HNL.out HPC.out HFS.out HLS.out HFU.out HLU.out HNU.out cs hcs
   clear n8 hS8 hu8 HS7 HLF7 HLS7 HBS7 HSZ6 HSC
   go_wp2_with (first | (refine wpList_load_row rfl _ _ rfl ge rfl _ #[.int .i64 2,.string ⟨#[69]⟩,.string ⟨#[]⟩,.int .i64 0,.int .i64 0,.int .u64 0,.string ⟨#[]⟩,.slice none 0 0,.slice none 0 0,.slice mA ms.length mc,.string ⟨#[]⟩,.slice none 0 0] _ _ HE8.out Tryz.underlying57 rfl (by kernel_rfl) ?_) | (refine wpList_load_row rfl _ _ rfl gt rfl _ #[.int .i64 1,.string ⟨#[84]⟩,.string ⟨ty.toArray⟩,.int .i64 0,.int .i64 0,.int .u64 0,.string ⟨#[]⟩,.slice none 0 0,.slice none 0 0,.slice none 0 0,.string ⟨#[]⟩,.slice none 0 0] _ _ HT8.out Tryz.underlying57 rfl (by kernel_rfl) ?_) | (refine wpList_load_row rfl _ _ rfl gc rfl _ #[.int .i64 3,.string ⟨#[67]⟩,.string ⟨#[84]⟩,.int .i64 (ik:Int),.int .i64 iN,.int .u64 (iD:Int),.string ⟨iS.toArray⟩,iL,.slice none 0 0,.slice none 0 0,.string ⟨#[]⟩,.slice none 0 0] _ _ HC8.out Tryz.underlying57 rfl (by kernel_rfl) ?_) | (refine wpList_load_row rfl _ _ rfl gs rfl _ #[.int .i64 4,.string ⟨#[80]⟩,.string ⟨#[]⟩,.int .i64 0,.int .i64 0,.int .u64 0,.string ⟨#[]⟩,.slice none 0 0,.slice sA fs.length sc,.slice none 0 0,.string ⟨#[]⟩,.slice none 0 0] _ _ HBS8.out Tryz.underlying57 rfl (by kernel_rfl) ?_) | (refine wpList_load_row rfl _ _ rfl gu rfl _ #[.int .i64 5,.string ⟨#[85]⟩,.string ⟨#[]⟩,.int .i64 0,.int .i64 0,.int .u64 0,.string ⟨#[]⟩,.slice none 0 0,.slice uA fu.length uc,.slice none 0 0,.string ⟨#[]⟩,.slice none 0 0] _ _ HU8.out Tryz.underlying57 rfl (by kernel_rfl) ?_))
   go_ret
   exact ⟨_,rfl,HFIN.out _ (by simp [rowL,dfnA,conA,bt,conZ,nilV])⟩
end Go.Proofs.YteclejplbphkpaaGreat
