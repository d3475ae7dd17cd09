/- The document's play: what stands on the base. -/
import Derived.Test.YteclejplbphkpaaGreatG21
set_option linter.unusedVariables false
set_option linter.unusedSimpArgs false
set_option linter.unnecessarySimpa false
namespace Go.Proofs.YteclejplbphkpaaGreat
open Go.RowKit
def nilV:Value:=.slice none 0 0
def thrX:Fld:=⟨true,1,0,[88],[120],false,con0⟩
def kV:List UInt8:=[118,111,105,100]
structure PMet (pre:List UInt8) (i:Nat) (m:Met):Prop where
 nm:m.nm=[109,(48+i).toUInt8]
 args:AllI (PArg pre) m.args
 alen:m.args.length≤3
 rest:(m.one=true∧m.ret=kV∧m.thr=[])∨(m.one=false∧m.ret=kV∧m.thr=[thrX])∨(m.one=false∧TypOf pre m.ret∧(m.thr=[]∨m.thr=[thrX]))
def dfnF (k:Nat) (nm:List UInt8) (fs:List Fld):Dfn:=⟨k,nm,[],con0,fs,[],[],[]⟩
structure PRest (pre:List UInt8) (ds:List Dfn):Prop where
 is:∃ fq fx ms,ds=[dfnF 4 [81] fq,dfnF 6 [88] fx,⟨7,[86],[],con0,[],[],[],ms⟩,⟨7,[87],[],con0,[],[],[86],[⟨[111,119,110],false,[105,51,50],[],[]⟩]⟩] ∧
  AllI (PFld pre false) fq∧fq.length≤21∧AllI (PFld pre false) fx∧fx.length≤21∧AllI (PMet pre) ms∧ms.length≤4
def PRestR (pre:List UInt8) (b:Nat) (w:World) (B:Nat) (v:Value) (w':World):Prop :=
 ∃ (ds:List Dfn) (r':List UInt8),LD w' (Fm B) v ds∧PRest pre ds∧Pk w' b r'∧Oth b w w'
def dfnC (k:Nat) (nm:List UInt8) (fv:Value) (ex:List UInt8) (mv:Value):Array Value:=dfnA ⟨k,nm,[],conZ,fv,nilV,ex,mv⟩
def reg7 (h0 b i:Nat) (cx:UInt8) (u:ByteArray) (pre:List UInt8):List (Value→World→Prop) :=
  [fun v _=>v = .int .i64 (i:Int),
   fun v _=>v = .int .i64 (48+(i:Int)),
   fun v _=>v = .int .u8 (48+(i:Int)),
   fun v w=>∃ g,v = .slice (some ⟨g,0,none⟩) 1 1∧b<g∧g<w.heap.size∧w.cell? ⟨g,0,none⟩=some (.int .u8 (48+(i:Int))),
   fun v _=>v = .string ⟨#[cx]⟩,
   fun v _=>v = .string (⟨#[109]⟩++⟨#[cx]⟩),
   fun v _=>v = .pointer (some ⟨b,0,none⟩),
   fun v _=>v = .string u,
   fun v w=>∃ (aA:Option Addr) (ac:Nat) (fa:List Fld),v = .slice aA fa.length ac∧LF w (Fm h0) (.slice aA fa.length ac) fa∧AllI (PArg pre) fa∧fa.length≤3,
   fun v w=>∃ (aA:Option Addr) (ac:Nat) (fa:List Fld),v = .agg #[.string (⟨#[109]⟩++⟨#[cx]⟩),.bool false,.string ⟨#[118,111,105,100]⟩,.slice aA fa.length ac,.slice none 0 0]∧LF w (Fm h0) (.slice aA fa.length ac) fa∧AllI (PArg pre) fa∧fa.length≤3,
   fun v w=>∃ g cs,v = .pointer (some ⟨g,0,none⟩)∧h0≤g∧g<w.heap.size∧cs.size=5∧Blk w g g cs 78]
theorem reg7_keep {h0 b i:Nat} {cx:UInt8} {u:ByteArray} {pre:List UInt8} (hb:b<h0) :
  ∀ p ∈ reg7 h0 b i cx u pre,∀ v w w',p v w→Oth b w w'→p v w':=by
 intro p hp v w1 w2 hv ho
 simp only [reg7,List.mem_cons,List.not_mem_nil,or_false] at hp
 rcases hp with rfl | rfl | rfl | rfl | rfl | rfl | rfl | rfl | rfl | rfl | rfl
 all_goals first | exact hv | skip
 ·obtain ⟨g,e1,e2,e3,e4⟩:=hv
  refine ⟨g,e1,e2,Nat.lt_of_lt_of_le e3 ho.size,?_⟩
  rw [← e4]
  unfold World.cell?
  simp only
  rw [ho.block g e3 (by omega)]
 ·obtain ⟨aA,ac,fa,e1,e2,e3⟩:=hv
  exact ⟨aA,ac,fa,e1,e2.oth RF.lasts ho hb,e3⟩
 ·obtain ⟨aA,ac,fa,e1,e2,e3⟩:=hv
  exact ⟨aA,ac,fa,e1,e2.oth RF.lasts ho hb,e3⟩
 ·obtain ⟨g,cs,e1,e2,e3,e4,e5⟩:=hv
  exact ⟨g,cs,e1,e2,Nat.lt_of_lt_of_le e3 ho.size,e4,ho.blk e5 (by omega)⟩
theorem Blk.put5s {w:World} {B g:Nat} {T:TypeId} {cs:Array Value} {v0 v1 v2 v3 v4:Value} (h:Blk w B g cs T) (hs:cs.size=5) :
  Blk (((((w.setCell ⟨g,0,none⟩ v0).setCell ⟨g,1,none⟩ v1).setCell ⟨g,2,none⟩ v2).setCell ⟨g,3,none⟩ v3).setCell ⟨g,4,none⟩ v4) B g #[v0,v1,v2,v3,v4] T:=by
 have hx:∃ c0 c1 c2 c3 c4,cs=#[c0,c1,c2,c3,c4]:=by
  obtain ⟨l⟩:=cs
  simp at hs
  match l,hs with
  | [c0,c1,c2,c3,c4],_=>exact ⟨_,_,_,_,_,rfl⟩
 obtain ⟨c0,c1,c2,c3,c4,rfl⟩:=hx
 have h0:Blk (w.setCell ⟨g,0,none⟩ v0) B g #[v0,c1,c2,c3,c4] T:=h.put 0 v0
 have h1:Blk ((w.setCell ⟨g,0,none⟩ v0).setCell ⟨g,1,none⟩ v1) B g #[v0,v1,c2,c3,c4] T:=h0.put 1 v1
 have h2:Blk (((w.setCell ⟨g,0,none⟩ v0).setCell ⟨g,1,none⟩ v1).setCell ⟨g,2,none⟩ v2) B g #[v0,v1,v2,c3,c4] T:=h1.put 2 v2
 have h3:Blk ((((w.setCell ⟨g,0,none⟩ v0).setCell ⟨g,1,none⟩ v1).setCell ⟨g,2,none⟩ v2).setCell ⟨g,3,none⟩ v3) B g #[v0,v1,v2,v3,c4] T:=h2.put 3 v3
 exact h3.put 4 v4
theorem set_other (w:World) (g k i:Nat) (v:Value) (h:k≠g):(w.setCell ⟨g,i,none⟩ v).heap[k]? = w.heap[k]?:=by
 simp only [World.setCell]
 rw [Array.getElem?_modify,if_neg (fun e=>h e.symm)]
theorem set_size (w:World) (g i:Nat) (v:Value):(w.setCell ⟨g,i,none⟩ v).heap.size=w.heap.size:=by simp [World.setCell]
structure MSt (b g:Nat) (wr w:World) (nm:List UInt8) (one:Bool) (ret:List UInt8) (av tv:Value) (fa ft:List Fld) (r:List UInt8):Prop where
 blk:Blk w g g (metA ⟨nm,one,ret,av,tv⟩) 78
 la:LF w (NbB wr.heap.size g) av fa
 lt:LF w (NbB wr.heap.size g) tv ft
 pk:Pk w b r
 oth:Oth b wr w
theorem MSt.step {b g:Nat} {wr w w':World} {nm:List UInt8} {one:Bool} {ret:List UInt8} {av tv:Value} {fa ft:List Fld} {r r':List UInt8} (h:MSt b g wr w nm one ret av tv fa ft r) (hb:b<wr.heap.size) (hg:wr.heap.size≤g) (ho:Oth b w w') (hp:Pk w' b r') :
  MSt b g wr w' nm one ret av tv fa ft r' :=
 ⟨ho.blk h.blk (by omega),h.la.keepNb RF.lasts fun k hk _ hl=>ho.block k hl (by omega),h.lt.keepNb RF.lasts fun k hk _ hl=>ho.block k hl (by omega),hp,h.oth.trans ho⟩
theorem MSt.put {b g:Nat} {wr w:World} {nm:List UInt8} {one:Bool} {ret:List UInt8} {av tv:Value} {fa ft:List Fld} {r:List UInt8} (h:MSt b g wr w nm one ret av tv fa ft r) (hb:b<wr.heap.size) (hg:wr.heap.size≤g) (i:Nat) (v:Value)
  {one':Bool} {ret':List UInt8} {tv':Value} {ft':List Fld} (he:(metA ⟨nm,one,ret,av,tv⟩).setIfInBounds i v=metA ⟨nm,one',ret',av,tv'⟩) (ht:LF w (NbB wr.heap.size g) tv' ft') :
  MSt b g wr (w.setCell ⟨g,i,none⟩ v) nm one' ret' av tv' fa ft' r :=
 ⟨he ▸ h.blk.put i v,h.la.keepNb RF.lasts fun k _ hn _=>set_other _ _ _ _ _ hn,ht.keepNb RF.lasts fun k _ hn _=>set_other _ _ _ _ _ hn,h.pk.put (by omega) i v,h.oth.put hg i v⟩
def thrS:FldS:=⟨true,1,0,[88],[120],false,conZ⟩
theorem thr_built {w:World} {B g:Nat} (hB:B≤w.heap.size) (hg:g<w.heap.size):LF (w.alloc (.cells (fldA thrS) 75)) (NbB B g) (.slice (some ⟨w.heap.size,0,none⟩) 1 1) [thrX] :=
 RepL.built fldA_size (xs:=[thrS]) (by simp [rowL]) (heap_alloc_new w _) ⟨hB,by omega⟩ (show 1≤maxLen by decide) ⟨⟨rfl,rfl,rfl,rfl,rfl,rfl,rc_con0⟩,trivial⟩
structure RSt (b B0 gq gx gv:Nat) (w0 w:World) (fqv fxv mv:Value) (fq fx:List Fld) (ms:List Met) (r:List UInt8):Prop where
 bq:Blk w gq gq (dfnC 4 [81] fqv [] nilV) 57
 bx:Blk w gx gx (dfnC 6 [88] fxv [] nilV) 57
 bv:Blk w gv gv (dfnC 7 [86] nilV [] mv) 57
 lq:LF w (InB B0 gv) fqv fq
 lx:LF w (InB B0 gv) fxv fx
 lm:LM w (Fm (gv+1)) mv ms
 pk:Pk w b r
 oth:Oth b w0 w
theorem RSt.step {b B0 gq gx gv:Nat} {w0 w w':World} {fqv fxv mv:Value} {fq fx:List Fld} {ms:List Met} {r r':List UInt8} (h:RSt b B0 gq gx gv w0 w fqv fxv mv fq fx ms r) (hb:b<B0) (h1:B0≤gq) (h2:gq<gx) (h3:gx<gv) (ho:Oth b w w') (hp:Pk w' b r') :
    RSt b B0 gq gx gv w0 w' fqv fxv mv fq fx ms r' :=
  have hv:=h.bv.lt
  ⟨ho.blk h.bq (by omega),ho.blk h.bx (by omega),ho.blk h.bv (by omega),h.lq.keepIn RF.lasts fun g hg hl=>ho.block g (by omega) (by omega),h.lx.keepIn RF.lasts fun g hg hl=>ho.block g (by omega) (by omega),
   h.lm.oth RM.lasts ho (by omega),hp,h.oth.trans ho⟩
theorem rest_fin {pre:List UInt8} {b B0 gq gx gv gm:Nat} {w wr W2:World} {fqv fxv mv:Value} {fq fx:List Fld} {ms:List Met} {r:List UInt8} (h:RSt b B0 gq gx gv w wr fqv fxv mv fq fx ms r)
  (hB:B0≤gq) (hqx:gq<gx) (hxv:gx<gv) (n2:Nx wr W2) (hgm:wr.heap.size=gm) (hm2:Blk W2 gm gm (metA ⟨[111,119,110],false,[105,51,50],nilV,nilV⟩) 78) (hs2:W2.heap.size=gm+2)
  (h1:AllI (PFld pre false) fq) (h2:fq.length≤21) (h3:AllI (PFld pre false) fx) (h4:fx.length≤21) (h5:AllI (PMet pre) ms) (h6:ms.length≤4)
  (cs:Array Value) (hcs:cs.toList=rowL dfnA [⟨4,[81],[],conZ,fqv,nilV,[],nilV⟩,⟨6,[88],[],conZ,fxv,nilV,[],nilV⟩,⟨7,[86],[],conZ,nilV,nilV,[],mv⟩,⟨7,[87],[],conZ,nilV,nilV,[86],.slice (some ⟨gm,0,none⟩) 1 1⟩]) :
  PRestR pre b w B0 (.slice (some ⟨gm+2,0,none⟩) 4 4) (W2.alloc (.cells cs 57)):=by
 have n3:Nx W2 (W2.alloc (.cells cs 57)):=nx0 _ _
 have n13:=n2.trans n3
 have hvm:gv<gm:=by rw [← hgm];exact h.bv.lt
 have hlq:=h.lq.keepIn RF.lasts fun g hg hl=>n13.block g (by omega)
 have hlx:=h.lx.keepIn RF.lasts fun g hg hl=>n13.block g (by omega)
 have hlm:=(h.lm.tight RM.lasts).keepIn RM.lasts fun g hg hl=>n13.block g hl
 have hnew:=heap_alloc_new W2 (.cells cs 57)
 rw [hs2] at hnew
 have hmn:=(hm2.below n3).2
 generalize W2.alloc (.cells cs 57)=W3 at *
 have e1:RD W3 (But (Fm B0) (.slice (some ⟨gm+2,0,none⟩) 4 4)) ⟨4,[81],[],conZ,fqv,nilV,[],nilV⟩ (dfnF 4 [81] fq) :=
  ⟨rfl,rfl,rfl,rc_con0,hlq.wide RF.lasts fun g hg _=>⟨hg.1,fun e=>by have:=hg.2;simp only [Value.ownBlock,Option.some.injEq] at e;omega⟩,RepL.nil_,rfl,RepL.nil_⟩
 have e2:RD W3 (But (Fm B0) (.slice (some ⟨gm+2,0,none⟩) 4 4)) ⟨6,[88],[],conZ,fxv,nilV,[],nilV⟩ (dfnF 6 [88] fx) :=
  ⟨rfl,rfl,rfl,rc_con0,hlx.wide RF.lasts fun g hg _=>⟨hg.1,fun e=>by have:=hg.2;simp only [Value.ownBlock,Option.some.injEq] at e;omega⟩,RepL.nil_,rfl,RepL.nil_⟩
 have e3:RD W3 (But (Fm B0) (.slice (some ⟨gm+2,0,none⟩) 4 4)) ⟨7,[86],[],conZ,nilV,nilV,[],mv⟩ ⟨7,[86],[],con0,[],[],[],ms⟩ :=
  ⟨rfl,rfl,rfl,rc_con0,RepL.nil_,RepL.nil_,rfl,hlm.wide RM.lasts fun g hg _=>⟨show B0≤g by have:=hg.1;omega,fun e=>by have:=hg.2;simp only [Value.ownBlock,Option.some.injEq] at e;omega⟩⟩
 have e40:LM W3 (But (Fm B0) (.slice (some ⟨gm+2,0,none⟩) 4 4)) (.slice (some ⟨gm,0,none⟩) 1 1) [⟨[111,119,110],false,[105,51,50],[],[]⟩] :=
  RepL.built metA_size (g:=gm) (xs:=[⟨[111,119,110],false,[105,51,50],nilV,nilV⟩]) rfl hmn ⟨show B0≤gm by omega,fun e=>by simp only [Value.ownBlock,Option.some.injEq] at e;omega⟩ (by decide) ⟨⟨rfl,rfl,rfl,RepL.nil_,RepL.nil_⟩,trivial⟩
 have e4:RD W3 (But (Fm B0) (.slice (some ⟨gm+2,0,none⟩) 4 4)) ⟨7,[87],[],conZ,nilV,nilV,[86],.slice (some ⟨gm,0,none⟩) 1 1⟩ ⟨7,[87],[],con0,[],[],[86],[⟨[111,119,110],false,[105,51,50],[],[]⟩]⟩ :=
  ⟨rfl,rfl,rfl,rc_con0,RepL.nil_,RepL.nil_,rfl,e40⟩
 have hall:All2 (RD W3 (But (Fm B0) (.slice (some ⟨gm+2,0,none⟩) 4 4))) [⟨4,[81],[],conZ,fqv,nilV,[],nilV⟩,⟨6,[88],[],conZ,fxv,nilV,[],nilV⟩,⟨7,[86],[],conZ,nilV,nilV,[],mv⟩,⟨7,[87],[],conZ,nilV,nilV,[86],.slice (some ⟨gm,0,none⟩) 1 1⟩] [dfnF 4 [81] fq,dfnF 6 [88] fx,⟨7,[86],[],con0,[],[],[],ms⟩,⟨7,[87],[],con0,[],[],[86],[⟨[111,119,110],false,[105,51,50],[],[]⟩]⟩]:=⟨e1,e2,e3,e4,trivial⟩
 have hld:LD W3 (Fm B0) (.slice (some ⟨gm+2,0,none⟩) 4 4) [dfnF 4 [81] fq,dfnF 6 [88] fx,⟨7,[86],[],con0,[],[],[],ms⟩,⟨7,[87],[],con0,[],[],[86],[⟨[111,119,110],false,[105,51,50],[],[]⟩]⟩] :=
  RepL.built dfnA_size hcs hnew (show B0≤gm+2 by omega) (show 4≤maxLen by decide) hall
 exact ⟨_,r,hld,⟨fq,fx,ms,rfl,h1,h2,h3,h4,h5,h6⟩,h.pk.nx n13,h.oth.trans (Oth.nx n13)⟩
set_option maxRecDepth 100000 in
set_option maxHeartbeats 12800000 in
theorem plRest_any (b:Nat) (u:ByteArray) (pre:List UInt8) (r:List UInt8) (w:World) (hu:Tx u pre) (hpre:(pre.length:Int)≤1000) (hP:Pk w b r) :
  Calls Tryz.prog 13 #[.pointer (some ⟨b,0,none⟩),.string u] w fun e w'=>∃ v,e = .returned v∧PRestR pre b w w.heap.size v w':=by
 have HU:=Lib.hid hu
 obtain ⟨B0,hB0e⟩:∃ B0,w.heap.size=B0:=⟨_,rfl⟩
 rw [hB0e]
 have hb0:b<B0:=by rw [← hB0e];exact hP.lt
 have HWB:Hid (w.heap.size=B0):=hB0e
 have HP:=Lib.hid hP
 clear hu hB0e hP
 go_enter Tryz.func13,Tryz.ntmps13
 go_wp2_with fail
 refine (plFields_any b 5 u pre false r w HU.out hpre (by decide) HP.out).mono ?_;rintro e w1 ⟨v,rfl,fq,r1,hlf,hall,hlen,-,hP1,hO1⟩
 obtain ⟨qA,qc,-,rfl,-,-,-,-,-⟩:=hlf.sl fldA_size
 rw [HWB.out] at hlf
 have HFQ:=Lib.hid hall
 have HLQ:=Lib.hid hlen
 obtain ⟨gq,hgq⟩:∃ g,w1.heap.size=g:=⟨_,rfl⟩
 have hBq0:B0≤gq:=by rw [← hgq,← HWB.out];exact hO1.size
 have hlq:=hlf.tight RF.lasts
 rw [hgq] at hlq
 have HLFQ:=Lib.hid hlq
 have HP1:=Lib.hid hP1
 have HO1:=Lib.hid hO1
 clear hlf hall hlen hP1 hO1 hlq
 go_wp2_with fail
 have hBq:=Blk.new w1 (dfnC 4 [81] (.slice qA fq.length qc) [] nilV) 57
 rw [hgq] at hBq
 have HBQ:=Lib.hid hBq
 have HP1':=Lib.hid (HP1.out.nx (nx0 w1 (.cells (dfnC 4 [81] (.slice qA fq.length qc) [] nilV) 57)))
 refine (plFields_any b 2 u pre false r1 _ HU.out hpre (by decide) HP1'.out).mono ?_;rintro e w2 ⟨v,rfl,fx,r2,hlf,hall,hlen,-,hP2,hO2⟩
 obtain ⟨xA,xc,-,rfl,-,-,-,-,-⟩:=hlf.sl fldA_size
 have HFX:=Lib.hid hall
 have HLX:=Lib.hid hlen
 obtain ⟨gx,hgx⟩:∃ g,w2.heap.size=g:=⟨_,rfl⟩
 have hqx:gq<gx:=by
  have h1:=hO2.size
  rw [hgx] at h1
  have h2:=hBq.lt
  exact Nat.lt_of_lt_of_le h2 h1
 have hlx:=(RepL.wide RF.lasts hlf (Q:=Fm B0) fun g hg _=>Nat.le_trans hBq0 (Nat.le_trans (Nat.le_of_lt hBq.lt) hg)).tight RF.lasts
 rw [hgx] at hlx
 have HLFX:=Lib.hid hlx
 have HLFQ2:Hid (LF w2 (InB B0 gq) (.slice qA fq.length qc) fq):=HLFQ.out.keepIn RF.lasts fun g hg hl=>((nx0 w1 (.cells (dfnC 4 [81] (.slice qA fq.length qc) [] nilV) 57)).block g (by omega) ▸ hO2.block g (Nat.lt_trans hl hBq.lt) (by omega))
 have HBQ2:=Lib.hid (hO2.blk hBq (by omega))
 have HO2:Hid (Oth b w w2):=(HO1.out.trans (Oth.nx (nx0 _ _))).trans hO2
 have HP2:=Lib.hid hP2
 clear hlf hall hlen hP2 hO2 hlx hBq HBQ HP1' HP1 HO1 HLFQ
 obtain ⟨gv,hgv⟩:∃ g,(w2.alloc (.cells (dfnC 6 [88] (.slice xA fx.length xc) [] nilV) 57)).heap.size=g:=⟨_,rfl⟩
 have hgv2:gx+1=gv:=by rw [← hgv,← hgx];simp
 go_wp2_with fail
 have HR0:Hid (RSt b B0 gq gx gv w ((w2.alloc (.cells (dfnC 6 [88] (.slice xA fx.length xc) [] nilV) 57)).alloc (.cells (dfnC 7 [86] nilV [] nilV) 57)) (.slice qA fq.length qc) (.slice xA fx.length xc) nilV fq fx [] r2):=by
  have n1:Nx w2 ((w2.alloc (.cells (dfnC 6 [88] (.slice xA fx.length xc) [] nilV) 57)).alloc (.cells (dfnC 7 [86] nilV [] nilV) 57)):=Nx.al (nx0 _ _) _
  refine ⟨HBQ2.out.below n1,?_,?_,?_,?_,RepL.nil_,HP2.out.nx n1,HO2.out.trans (Oth.nx n1)⟩
  ·have:=(Blk.new w2 (dfnC 6 [88] (.slice xA fx.length xc) [] nilV) 57).alloc (.cells (dfnC 7 [86] nilV [] nilV) 57)
   rw [hgx] at this
   exact this
  ·have:=Blk.new (w2.alloc (.cells (dfnC 6 [88] (.slice xA fx.length xc) [] nilV) 57)) (dfnC 7 [86] nilV [] nilV) 57
   rw [hgv] at this
   exact this
  ·exact RepL.wide RF.lasts (HLFQ2.out.keepIn RF.lasts fun g hg hl=>n1.block g (by omega)) fun g hg _=>⟨hg.1,by have:=hg.2;omega⟩
  ·exact RepL.wide RF.lasts (HLFX.out.keepIn RF.lasts fun g hg hl=>n1.block g (by omega)) fun g hg _=>⟨hg.1,by have:=hg.2;omega⟩
 have hxv:gx<gv:=by omega
 clear hgq hgx hgv hgv2 HBQ2 HLFQ2 HLFX HP2 HO2 HP
 refine (num_any b 4 r2 _ HR0.out.pk (by decide) (by decide)).mono ?_;rintro e w3 ⟨rfl,hP3,hO3⟩
 have hkn:=numP_lt 4 (by decide) r2
 obtain ⟨n,r3,hN⟩:∃ n r3,numP 4 r2=(n,r3):=⟨_,_,rfl⟩
 rw [hN] at hP3 hkn ⊢
 dsimp only at hP3 hkn ⊢
 have HR3:=Lib.hid (HR0.out.step hb0 hBq0 hqx hxv hO3 hP3)
 clear hN hP3 hO3 HR0
 go_wp2_with fail
 go_loopw [8] (fun iv wr=>∃ (i:Nat) (mv:Value) (ms:List Met) (r':List UInt8),iv = .int .i64 (i:Int)∧i≤n∧RSt b B0 gq gx gv w wr (.slice qA fq.length qc) (.slice xA fx.length xc) mv fq fx ms r'∧ms.length=i∧AllI (PMet pre) ms) (fun iv _=>(100 - intOf iv).toNat)
 case atStart=>exact ⟨0,nilV,[],r3,rfl,Nat.zero_le _,HR3.out,rfl,AllI.nil⟩
 case round =>
  obtain ⟨i,mv,ms,r4,rfl,hi,hR4,hml,hall⟩:=hrel
  obtain ⟨mA,mc,-,rfl,-,-,-,-,-⟩:=hR4.lm.sl metA_size
  have hi20:(i:Int)≤20:=by omega
  have HML:=Lib.hid hml
  have HR4:=Lib.hid hR4
  have HALL:=Lib.hid hall
  clear hR4 hml hall
  by_cases hlt:i<n
  ·have q1:decide ((i:Int)<(n:Int))=true:=decide_eq_true (by omega)
   have q2:(i:Int)<(n:Int):=by omega
   obtain ⟨cx,hcx⟩:∃ cx,Hid ((48+i).toUInt8=cx):=⟨_,rfl⟩
   have hbc:Hid (bv cx = .int .u8 (48+(i:Int))):=by unfold Hid;rw [← hcx.out];exact bv_digit i (by omega)
   have hbr:b<wr.heap.size:=HR4.out.pk.lt
   go_upto_region 7 with fail
   go_cut [10] (fun v wx=>∃ (g:Nat) (aA:Option Addr) (ac:Nat) (fa:List Fld) (r5:List UInt8),v = .pointer (some ⟨g,0,none⟩)∧wr.heap.size≤g∧MSt b g wr wx [109,cx] false kV (.slice aA fa.length ac) nilV fa [] r5∧AllI (PArg pre) fa∧fa.length≤3)
   case first =>
    rename_i J K2 h1 h2;revert h1 h2;go_light;intro h1 h2
    refine RI.wp_region_all (RI.Vof (reg7 wr.heap.size b i cx u pre)) (fun w'=>PkS w' b∧Oth b wr w') (fun w1 w2=>Oth b w1 w2) rfl (by kernel_rfl) (by kernel_rfl) (RI.Vof.keeps (reg7_keep hbr)) ?_ ?_
    ·exact ⟨⟨_,HR4.out.pk.nx (Nx.drawn _)⟩,Oth.nx (Nx.drawn _)⟩
    ·refine ⟨?_,?_,?_,?_,?_,?_,?_,?_,?_,?_,?_,?_⟩
     ·intro a x w' hS hin hout hd K hK
      have o:a.eval (.tmp 8) = .int .i64 (i:Int):=hout 8 (by kernel_rfl)
      clear hin hout
      exact hK w' _ o hS (Oth.refl _ _)
     ·intro a x w' hS hin hout hd K hK
      have i28:a.tmps.getD 28 undef = .int .i64 (i:Int):=(hin 28 0 (by kernel_rfl) (show 28<72 by decide)).trans (hd ⟨0,.data⟩ (by simp) rfl)
      have hwm:IntKind.i64.wrap (48+(i:Int))=48+(i:Int):=by rw [IntKind.wrap_i64];omega
      clear hin hout hd
      have HS:=Lib.hid hS
      clear hS
      go_simp
      exact hK w' _ rfl HS.out (Oth.refl _ _)
     ·intro a x w' hS hin hout hd K hK
      have i29:a.tmps.getD 29 undef = .int .i64 (48+(i:Int)):=(hin 29 1 (by kernel_rfl) (show 29<72 by decide)).trans (hd ⟨1,.data⟩ (by simp) rfl)
      have hwm:IntKind.u8.wrap (48+(i:Int))=48+(i:Int):=by rw [IntKind.wrap_u8];omega
      clear hin hout hd
      have HS:=Lib.hid hS
      clear hS
      go_simp
      exact hK w' _ rfl HS.out (Oth.refl _ _)
     ·intro a x w' hS hin hout hd K hK
      have i30:a.tmps.getD 30 undef = .int .u8 (48+(i:Int)):=(hin 30 2 (by kernel_rfl) (show 30<72 by decide)).trans (hd ⟨2,.data⟩ (by simp) rfl)
      have j30:=i30
      rw [Array.getD_eq_getD_getElem?] at j30
      clear hin hout hd
      obtain ⟨⟨r3,hp3⟩,hO3⟩:=hS
      have HP3:=Lib.hid hp3
      have HO3:=Lib.hid hO3
      clear hp3 hO3
      go_simp
      exact hK (w'.alloc (.cells #[.int .u8 (48+(i:Int))] 5)) (.slice (some ⟨w'.heap.size,0,none⟩) 1 1) ⟨_,rfl,HP3.out.lt,by simp,(Blk.new w' #[.int .u8 (48+(i:Int))] 5).cell 0⟩ ⟨⟨_,HP3.out.nx (nx0 _ _)⟩,HO3.out.trans (Oth.nx (nx0 _ _))⟩ (Oth.nx (nx0 _ _))
     ·intro a x w' hS hin hout hd K hK
      obtain ⟨g1,q1,q2,q3,q4⟩:=hd ⟨3,.data⟩ (by simp) rfl
      have i31:a.eval (.tmp 31) = .slice (some ⟨g1,0,none⟩) 1 1:=(hin 31 3 (by kernel_rfl) (show 31<72 by decide)).trans q1
      clear hin hout hd q1
      have hr:Rd bv w' (some ⟨g1,0,none⟩) [cx]:=by
       intro _
       refine ⟨g1,0,rfl,q3,fun j hj=>?_⟩
       obtain rfl:j=0:=by simp at hj;omega
       rw [show (0+0:Nat)=0 from rfl,q4]
       exact congrArg some hbc.out.symm
      have hrun:=conv_str (P:=Tryz.prog) w' 22 9 5 Tryz.underlying22 Tryz.underlying5 Tryz.underlying9 hr 1
      unfold Oper.wp execOp
      simp only [i31,Sem.run_bind,Sem.run_pure,Result.andThen_ok]
      rw [show ([cx]:List UInt8).length=1 from rfl] at hrun
      rw [hrun]
      exact hK w' _ rfl hS (Oth.refl _ _)
     ·intro a x w' hS hin hout hd K hK
      have i32:a.tmps.getD 32 undef = .string ⟨#[cx]⟩:=(hin 32 4 (by kernel_rfl) (show 32<72 by decide)).trans (hd ⟨4,.data⟩ (by simp) rfl)
      clear hin hout hd
      have HS:=Lib.hid hS
      clear hS
      go_simp
      exact hK w' _ rfl HS.out (Oth.refl _ _)
     ·intro a x w' hS hin hout hd K hK
      have o:a.eval (.tmp 0) = .pointer (some ⟨b,0,none⟩):=hout 0 (by kernel_rfl)
      clear hin hout
      exact hK w' _ o hS (Oth.refl _ _)
     ·intro a x w' hS hin hout hd K hK
      have o:a.eval (.tmp 1) = .string u:=hout 1 (by kernel_rfl)
      clear hin hout
      exact hK w' _ o hS (Oth.refl _ _)
     ·intro a x w' hS hin hout hd K hK
      have i34:a.tmps.getD 34 undef = .pointer (some ⟨b,0,none⟩):=(hin 34 6 (by kernel_rfl) (show 34<72 by decide)).trans (hd ⟨6,.data⟩ (by simp) rfl)
      have i35:a.tmps.getD 35 undef = .string u:=(hin 35 7 (by kernel_rfl) (show 35<72 by decide)).trans (hd ⟨7,.data⟩ (by simp) rfl)
      clear hin hout hd
      obtain ⟨⟨r3,hp3⟩,hO3⟩:=hS
      have HP3:=Lib.hid hp3
      have HO3:=Lib.hid hO3
      clear hp3 hO3
      go_simp
      refine (plArgs_any b u pre r3 w' HU.out hpre HP3.out).mono ?_;rintro e w2 ⟨v,rfl,fa,r6,hla,haa,hal,hq1,hq2⟩
      obtain ⟨aA,ac,-,rfl,-,-,-,-,-⟩:=hla.sl fldA_size
      exact hK w2 _ ⟨aA,ac,fa,rfl,hla.less RF.lasts HO3.out.size,haa,hal⟩ ⟨⟨_,hq1⟩,HO3.out.trans hq2⟩ hq2
     ·intro a x w' hS hin hout hd K hK
      have i33:a.tmps.getD 33 undef = .string (⟨#[109]⟩++⟨#[cx]⟩):=(hin 33 5 (by kernel_rfl) (show 33<72 by decide)).trans (hd ⟨5,.data⟩ (by simp) rfl)
      obtain ⟨aA,ac,fa,s1,s2,s3,s4⟩:=hd ⟨8,.data⟩ (by simp) rfl
      have i36:a.tmps.getD 36 undef = .slice aA fa.length ac:=(hin 36 8 (by kernel_rfl) (show 36<72 by decide)).trans s1
      have j33:=i33
      rw [Array.getD_eq_getD_getElem?] at j33
      have j36:=i36
      rw [Array.getD_eq_getD_getElem?] at j36
      have HA:=Lib.hid s2
      have HB2:=Lib.hid s3
      clear s1 s2 s3
      clear hin hout hd
      have HS:=Lib.hid hS
      clear hS
      go_simp
      exact hK w' _ ⟨aA,ac,fa,rfl,HA.out,HB2.out,s4⟩ HS.out (Oth.refl _ _)
     ·intro a x w' hS hin hout hd K hK
      clear hin hout hd
      obtain ⟨⟨r3,hp3⟩,hO3⟩:=hS
      have HP3:=Lib.hid hp3
      have HO3:=Lib.hid hO3
      clear hp3 hO3
      go_simp
      exact hK (w'.alloc _) _ ⟨_,_,rfl,HO3.out.size,by simp,rfl,Blk.new _ _ _⟩ ⟨⟨_,HP3.out.nx (nx0 _ _)⟩,HO3.out.trans (Oth.nx (nx0 _ _))⟩ (Oth.nx (nx0 _ _))
     ·intro AA x w' hS hin hout hV HAA
      have h10:=hV 10 (by decide)
      have h9:=hV 9 (by decide)
      have i10:AA.eval (.tmp 10)=x 10:=hin 10 10 (by kernel_rfl) (show 10<72 by decide)
      have i37:AA.eval (.tmp 37)=x 9:=hin 37 9 (by kernel_rfl) (show 37<72 by decide)
      clear hV hin hout
      obtain ⟨g1,cs,q1,q2,q3,q4,q5⟩:=h10
      obtain ⟨aA,ac,fa,p1,p2,p3,p4⟩:=h9
      obtain ⟨⟨r3,hs3⟩,hs4⟩:=hS
      have hnb:=LF.ne q5.2 (by decide) (by decide) p2
      have HNB:=Lib.hid hnb
      have HP3:=Lib.hid p3
      have HQ5:=Lib.hid q5
      have HS3:=Lib.hid hs3
      have HS4:=Lib.hid hs4
      have j10:AA.tmps.getD 10 undef = .pointer (some ⟨g1,0,none⟩):=i10.trans q1
      have j37:AA.tmps.getD 37 undef = .agg #[.string (⟨#[109]⟩++⟨#[cx]⟩),.bool false,.string ⟨#[118,111,105,100]⟩,.slice aA fa.length ac,.slice none 0 0]:=i37.trans p1
      have k10:=j10
      have k37:=j37
      rw [Array.getD_eq_getD_getElem?] at k10 k37
      have d0:∀ k,k<5→w'.cell? ⟨g1,k,none⟩=some cs[k]!:=by
       intro k hk
       have hk2:k<cs.size:=by omega
       rw [q5.cell k,Array.getElem?_eq_getElem hk2,getElem!_pos cs k hk2]
      have c0:=d0 0 (by decide)
      have c1:=d0 1 (by decide)
      have c2:=d0 2 (by decide)
      have c3:=d0 3 (by decide)
      have c4:=d0 4 (by decide)
      have f0:=q5.free 0
      have f1:=q5.free 1
      have f2:=q5.free 2
      have f3:=q5.free 3
      have f4:=q5.free 4
      clear d0 i10 i37 p1 p2 p3 q5 hs3 hs4 hnb
      have HAA2:=HAA.out
      clear HAA
      simp only [RI.setAll,List.toList_toArray,List.set_cons_succ,List.set_cons_zero,Nat.reduceAdd] at HAA2
      have HAA:=Lib.hid HAA2
      clear HAA2
      go_simp
      have e2:(⟨#[109]⟩:ByteArray)++⟨#[cx]⟩=⟨[109,cx].toArray⟩:=((Tx.of [109]).cat (Tx.of [cx])).eq
      rw [e2]
      refine h2 _ _ (Met.intro (h1 _ _ ?_))
      rw [HAA.out]
      (repeat apply Exists.intro)
      refine ⟨?rel,rfl⟩
      have hoth:∀ k,k≠g1→(((((w'.setCell ⟨g1,0,none⟩ (.string ⟨[109,cx].toArray⟩)).setCell ⟨g1,1,none⟩ (.bool false)).setCell ⟨g1,2,none⟩ (.string ⟨#[118,111,105,100]⟩)).setCell ⟨g1,3,none⟩ (.slice aA fa.length ac)).setCell ⟨g1,4,none⟩ (.slice none 0 0)).heap[k]? = w'.heap[k]?:=by
       intro k hk
       rw [set_other _ _ _ _ _ hk,set_other _ _ _ _ _ hk,set_other _ _ _ _ _ hk,set_other _ _ _ _ _ hk,set_other _ _ _ _ _ hk]
      exact ⟨g1,aA,ac,fa,r3,q1,q2,⟨HQ5.out.put5s q4,RepL.keepNb RF.lasts HNB.out fun k _ hn _=>hoth k hn,RepL.nil_,HS3.out.put5 (by omega),HS4.out.put5 q2⟩,HP3.out,p4⟩
   case rest =>
   obtain ⟨g,aA,ac,fa,r5,rfl,hgw,hM,hfa,hfl⟩:=hcut
   have HM:=Lib.hid hM
   have HFA:=Lib.hid hfa
   clear hM hfa
   have hbg:b<g:=by omega
   go_wp2_with fail
   refine (num_any b 4 r5 _ HM.out.pk (by decide) (by decide)).mono ?_;rintro e w7 ⟨rfl,hP7,hO7⟩
   have hkn7:=numP_lt 4 (by decide) r5
   generalize numP 4 r5=N7 at *
   obtain ⟨n7,r7⟩:=N7
   dsimp only at hkn7 hP7 ⊢
   have HM7:=Lib.hid (HM.out.step hbr hgw hO7 hP7)
   clear hO7 hP7
   go_upto_block 2 with (fail)
   go_cut [] (fun wy=>∃ (one:Bool) (ret:List UInt8) (tA:Option Addr) (tc:Nat) (ft:List Fld) (r8:List UInt8),MSt b g wr wy [109,cx] one ret (.slice aA fa.length ac) (.slice tA ft.length tc) fa ft r8∧((one=true∧ret=kV∧ft=[])∨(one=false∧ret=kV∧ft=[thrX])∨(one=false∧TypOf pre ret∧(ft=[]∨ft=[thrX]))))
   case first =>
    have c1:w7.cell? ⟨g,1,none⟩=some (.bool false):=HM7.out.blk.cell 1
    have c2:w7.cell? ⟨g,2,none⟩=some (.string ⟨#[118,111,105,100]⟩):=HM7.out.blk.cell 2
    have c4:w7.cell? ⟨g,4,none⟩=some (.slice none 0 0):=HM7.out.blk.cell 4
    have f1:=HM7.out.blk.free 1
    have f2:=HM7.out.blk.free 2
    have f4:=HM7.out.blk.free 4
    by_cases h0:n7=0
    ·subst h0
     go_wp2_with fail
     go_meet
     case rel=>exact ⟨true,kV,none,0,[],r7,HM7.out.put hbr hgw 1 (.bool true) rfl RepL.nil_,.inl ⟨rfl,rfl,rfl⟩⟩
    ·have b0:((n7:Int) == 0)=false:=by rw [beq_eq_false_iff_ne];omega
     have b0':¬ (n7:Int)=0:=by omega
     by_cases h1:n7=1
     ·subst h1
      obtain ⟨gt,hgt⟩:∃ gt,w7.heap.size=gt:=⟨_,rfl⟩
      have hgl:g<w7.heap.size:=HM7.out.blk.lt
      have hn8:Nx w7 (w7.alloc (.cells (fldA thrS) 75)):=nx0 _ _
      have HM8:=Lib.hid (HM7.out.step hbr hgw (Oth.nx hn8) (HM7.out.pk.nx hn8))
      have htb:=thr_built (B:=wr.heap.size) HM7.out.oth.size hgl
      rw [hgt] at htb
      have HTB:=Lib.hid htb
      have c4':(w7.alloc (.cells #[.bool true,.int .i64 1,.int .i64 0,.string ⟨#[88]⟩,.string ⟨#[120]⟩,.bool false,.int .i64 0,.int .i64 0,.int .u64 0,.string ⟨#[]⟩,.slice none 0 0] 75)).cell? ⟨g,4,none⟩=some (.slice none 0 0):=HM8.out.blk.cell 4
      have f4':(w7.alloc (.cells #[.bool true,.int .i64 1,.int .i64 0,.string ⟨#[88]⟩,.string ⟨#[120]⟩,.bool false,.int .i64 0,.int .i64 0,.int .u64 0,.string ⟨#[]⟩,.slice none 0 0] 75)).frozen? ⟨g,4,none⟩=false:=HM8.out.blk.free 4
      clear hn8 htb
      go_wp2_with fail
      go_meet
      case rel=>exact ⟨false,kV,some ⟨gt,0,none⟩,1,[thrX],r7,HM8.out.put hbr hgw 4 (.slice (some ⟨gt,0,none⟩) 1 1) rfl HTB.out,.inr (.inl ⟨rfl,rfl,rfl⟩)⟩
     ·have b1:((n7:Int) == 1)=false:=by rw [beq_eq_false_iff_ne];omega
      have b1':¬ (n7:Int)=1:=by omega
      go_wp2_with fail
      refine (typ_any b u pre HU.out hpre 3 0 r7 w7 rfl HM7.out.pk).mono ?_;rintro e w8 ⟨t,rfl,ht,hP8,hO8⟩
      have HM8:=Lib.hid (HM7.out.step hbr hgw hO8 hP8)
      have hTy:TypOf pre (typP pre 3 r7).1:=⟨_,rfl⟩
      obtain ⟨T,hT⟩:∃ T,(typP pre 3 r7).1=T:=⟨_,rfl⟩
      obtain ⟨r9,hr9⟩:∃ r9,(typP pre 3 r7).2=r9:=⟨_,rfl⟩
      rw [hT] at ht hTy
      rw [hr9] at HM8
      have hte:t=⟨T.toArray⟩:=ht.eq
      subst hte
      have HTy:=Lib.hid hTy
      have HM9:Hid (MSt b g wr (w8.setCell ⟨g,2,none⟩ (.string ⟨T.toArray⟩)) [109,cx] false T (.slice aA fa.length ac) nilV fa [] r9):=HM8.out.put hbr hgw 2 (.string ⟨T.toArray⟩) rfl RepL.nil_
      have c2:w8.cell? ⟨g,2,none⟩=some (.string ⟨#[118,111,105,100]⟩):=HM8.out.blk.cell 2
      have f2:=HM8.out.blk.free 2
      clear ht hTy hP8 hO8 c1 c4 f1 f4 hT hr9
      go_wp2_with fail
      refine (num_any b 2 r9 _ HM9.out.pk (by decide) (by decide)).mono ?_;rintro e w10 ⟨rfl,hP10,hO10⟩
      have hkn10:=numP_lt 2 (by decide) r9
      generalize numP 2 r9=N10 at *
      obtain ⟨n10,r10⟩:=N10
      dsimp only at hkn10 hP10 ⊢
      have HM10:=Lib.hid (HM9.out.step hbr hgw hO10 hP10)
      clear hO10 hP10 HM8 HM9 c2 f2
      by_cases h10:n10=0
      ·subst h10
       obtain ⟨gt,hgt⟩:∃ gt,w10.heap.size=gt:=⟨_,rfl⟩
       have hgl:g<w10.heap.size:=HM10.out.blk.lt
       have hn8:Nx w10 (w10.alloc (.cells (fldA thrS) 75)):=nx0 _ _
       have HM8:=Lib.hid (HM10.out.step hbr hgw (Oth.nx hn8) (HM10.out.pk.nx hn8))
       have htb:=thr_built (B:=wr.heap.size) HM10.out.oth.size hgl
       rw [hgt] at htb
       have HTB:=Lib.hid htb
       have c4':(w10.alloc (.cells #[.bool true,.int .i64 1,.int .i64 0,.string ⟨#[88]⟩,.string ⟨#[120]⟩,.bool false,.int .i64 0,.int .i64 0,.int .u64 0,.string ⟨#[]⟩,.slice none 0 0] 75)).cell? ⟨g,4,none⟩=some (.slice none 0 0):=HM8.out.blk.cell 4
       have f4':(w10.alloc (.cells #[.bool true,.int .i64 1,.int .i64 0,.string ⟨#[88]⟩,.string ⟨#[120]⟩,.bool false,.int .i64 0,.int .i64 0,.int .u64 0,.string ⟨#[]⟩,.slice none 0 0] 75)).frozen? ⟨g,4,none⟩=false:=HM8.out.blk.free 4
       clear hn8 htb
       go_wp2_with fail
       go_meet
       case rel=>exact ⟨false,T,some ⟨gt,0,none⟩,1,[thrX],r10,HM8.out.put hbr hgw 4 (.slice (some ⟨gt,0,none⟩) 1 1) rfl HTB.out,.inr (.inr ⟨rfl,HTy.out,.inr rfl⟩)⟩
      ·have d0:((n10:Int) == 0)=false:=by rw [beq_eq_false_iff_ne];omega
       have d0':¬ (n10:Int)=0:=by omega
       go_wp2_with fail
       go_meet
       case rel=>exact ⟨false,T,none,0,[],r10,HM10.out,.inr (.inr ⟨rfl,HTy.out,.inl rfl⟩)⟩
   case rest =>
   obtain ⟨one,ret,tA,tc,ft,r8,hM8,hcase⟩:=hcut
   have HM8:=Lib.hid hM8
   have HCS:=Lib.hid hcase
   clear hM8 hcase HM7 HM
   have HMT:Hid (PMet pre ms.length ⟨[109,cx],one,ret,fa,ft⟩):=by
    refine ⟨?_,HFA.out,hfl,HCS.out⟩
    rw [HML.out,hcx.out]
   have HXR:Hid (RM wc (But (Fm (gv+1)) (.slice mA ms.length mc)) ⟨[109,cx],one,ret,.slice aA fa.length ac,.slice tA ft.length tc⟩ ⟨[109,cx],one,ret,fa,ft⟩):=by
    have hvw:gv+1≤wr.heap.size:=HR4.out.bv.lt
    have hown:∀ k,(Value.slice mA ms.length mc).ownBlock=some k→k<wr.heap.size:=fun k e=>(HR4.out.lm.own_lt k e).2
    exact ⟨rfl,rfl,rfl,HM8.out.la.wide RF.lasts fun k hk _=>⟨show gv+1≤k by have:=hk.1;omega,fun e=>by have h1:=hown k e;have h2:=hk.1;omega⟩,HM8.out.lt.wide RF.lasts fun k hk _=>⟨show gv+1≤k by have:=hk.1;omega,fun e=>by have h1:=hown k e;have h2:=hk.1;omega⟩⟩
   have HR8:=Lib.hid (HR4.out.step hb0 hBq0 hqx hxv HM8.out.oth HM8.out.pk)
   have HONE:Hid (∀ v ∈ (metA ⟨[109,cx],one,ret,.slice aA fa.length ac,.slice tA ft.length tc⟩).toList,v.oneCell'=true):=by
    intro v hv
    simp [metA,bt] at hv
    rcases hv with rfl | rfl | rfl | rfl | rfl <;> rfl
   have HG:=Lib.hid fun k e=>(HR4.out.lm.own_lt k e).1
   have h63:(ms.length:Int)≤100000:=by have:=HML.out;omega
   have hvw:gv<wc.heap.size:=HR8.out.bv.lt
   have c11:wc.cell? ⟨gv,11,none⟩=some (.slice mA ms.length mc):=HR8.out.bv.cell 11
   have f11:=HR8.out.bv.free 11
   have c0:wc.cell? ⟨g,0,none⟩=some (.string ⟨[109,cx].toArray⟩):=HM8.out.blk.cell 0
   have c1:wc.cell? ⟨g,1,none⟩=some (.bool one):=HM8.out.blk.cell 1
   have c2:wc.cell? ⟨g,2,none⟩=some (.string ⟨ret.toArray⟩):=HM8.out.blk.cell 2
   have c3:wc.cell? ⟨g,3,none⟩=some (.slice aA fa.length ac):=HM8.out.blk.cell 3
   have c4:wc.cell? ⟨g,4,none⟩=some (.slice tA ft.length tc):=HM8.out.blk.cell 4
   have hgvb:b<gv+1:=by omega
   have hn9:Nx wc (wc.alloc (.cells (metA ⟨[109,cx],one,ret,.slice aA fa.length ac,.slice tA ft.length tc⟩) 78)):=nx0 _ _
   have HR9:=Lib.hid (HR8.out.step hb0 hBq0 hqx hxv (Oth.nx hn9) (HR8.out.pk.nx hn9))
   have HX9:=Lib.hid (RM.lasts (Mv.but (Mv.nx hn9 (Nat.le_refl _)) _) HXR.out)
   clear hn9
   obtain ⟨w9,hw9⟩:∃ w9,w9=wc:=⟨_,rfl⟩
   go_wp2_with (at_builtin;go_must (refine wpList_appL _ RM.lasts infoT Tryz.underlying55 rfl (by decide) (by decide) metA_size rfl _ _ rfl (gv+1) b (.slice mA ms.length mc) ms ⟨[109,cx],one,ret,.slice aA fa.length ac,.slice tA ft.length tc⟩ ⟨[109,cx],one,ret,fa,ft⟩ rfl HR9.out.lm HONE.out _ rfl (fun j hj=>cell_newP (by simp)) HX9.out h63 HR9.out.bv.lt hgvb ?_;intro v2 w2 hl2 hf2 hk2;obtain ⟨vA,vc,-,rfl,-,-,-,-,-⟩:=RepL.sl metA_size hl2;have HL2:=Lib.hid hl2;have HF2:=Lib.hid hf2;have HK2:=Lib.hid hk2;have hbv2:Blk w2 gv gv (dfnC 7 [86] nilV [] (.slice mA ms.length mc)) 57:=⟨HR9.out.bv.1,(hk2 gv HR9.out.bv.lt (fun e=>by have h7:gv+1≤gv:=HG.out gv e;omega)).trans HR9.out.bv.2⟩;have HBV2:=Lib.hid hbv2;have e11:w2.cell? ⟨gv,11,none⟩=some (.slice mA ms.length mc):=hbv2.cell 11;have f11':=hbv2.free 11;clear hbv2;clear hl2 hf2 hk2))
   go_roundw
   case rel =>
    have hmo:∀ k,(Value.slice mA ms.length mc).ownBlock=some k→gv+1≤k:=fun k e=>HG.out k e
    have hlv:∀ k,k<gv→w2.heap[k]? = (wc.alloc (.cells (metA ⟨[109,cx],one,ret,.slice aA fa.length ac,.slice tA ft.length tc⟩) 78)).heap[k]?:=fun k hk=>HK2.out k (Nat.lt_trans hk HR9.out.bv.lt) (fun e=>by have:=hmo k e;omega)
    refine ⟨i+1,Value.slice vA (ms.length+1) vc,ms++[(⟨[109,cx],one,ret,fa,ft⟩:Met)],r8,by go_num,hlt,⟨?_,?_,?_,?_,?_,?_,?_,?_⟩,by rw [List.length_append,HML.out];rfl,HALL.out.snoc HMT.out⟩
    ·exact (show Blk w2 gq gq _ _ from ⟨HR9.out.bq.1,(hlv gq (by omega)).trans HR9.out.bq.2⟩).other (by omega) 11 _
    ·exact (show Blk w2 gx gx _ _ from ⟨HR9.out.bx.1,(hlv gx (by omega)).trans HR9.out.bx.2⟩).other (by omega) 11 _
    ·exact HBV2.out.put 11 _
    ·exact HR9.out.lq.keepIn RF.lasts fun k hk hl=>(set_other _ _ _ _ _ (by omega)).trans (hlv k hl)
    ·exact HR9.out.lx.keepIn RF.lasts fun k hk hl=>(set_other _ _ _ _ _ (by omega)).trans (hlv k hl)
    ·exact RepL.mv RM.lasts ⟨fun k hk _=>set_other _ _ _ _ _ (by have:gv+1≤k:=hk;omega),fun k hk _=>hk⟩ (by have:=HL2.out;rw [List.length_append] at this;exact this)
    ·exact (HR9.out.pk.keep fun k hk=>hlv k (by omega)).put (by omega) 11 _
    ·exact (HF2.out.toOth HR9.out.oth hmo (by have:=HWB.out;omega)).put (by have:=HWB.out;omega) 11 _
   case measure=>simp [intOf];omega
  ·have q1:decide ((i:Int)<(n:Int))=false:=decide_eq_false (by omega)
   have q2:¬ (i:Int)<(n:Int):=by omega
   clear hlt
   obtain ⟨gm,hgm⟩:∃ g,wr.heap.size=g:=⟨_,rfl⟩
   have hvm:gv<gm:=by rw [← hgm];exact HR4.out.bv.lt
   obtain ⟨W1,hW1⟩:∃ W1,W1=wr.alloc (.cells #[.string ⟨#[111,119,110]⟩,.bool false,.string ⟨#[105,51,50]⟩,.slice none 0 0,.slice none 0 0] 78):=⟨_,rfl⟩
   have hgw:W1.heap.size=gm+1:=by rw [hW1,← hgm];simp
   obtain ⟨W2,hW2⟩:∃ W2,W2=W1.alloc (.cells (dfnC 7 [87] nilV [86] (.slice (some ⟨gm,0,none⟩) 1 1)) 57):=⟨_,rfl⟩
   have n2:Nx wr W2:=by rw [hW2,hW1];exact Nx.al (nx0 _ _) _
   have hq2:=(HR4.out.bq.below n2).2
   have hx2:=(HR4.out.bx.below n2).2
   have hv2:=(HR4.out.bv.below n2).2
   have hw2:Blk W2 (gm+1) (gm+1) (dfnC 7 [87] nilV [86] (.slice (some ⟨gm,0,none⟩) 1 1)) 57:=by
    have:=Blk.new W1 (dfnC 7 [87] nilV [86] (.slice (some ⟨gm,0,none⟩) 1 1)) 57
    rw [hgw,← hW2] at this
    exact this
   have hm2:Blk W2 gm gm #[.string ⟨#[111,119,110]⟩,.bool false,.string ⟨#[105,51,50]⟩,.slice none 0 0,.slice none 0 0] 78:=by
    have:=(Blk.new wr #[.string ⟨#[111,119,110]⟩,.bool false,.string ⟨#[105,51,50]⟩,.slice none 0 0,.slice none 0 0] 78)
    rw [hgm,← hW1] at this
    rw [hW2]
    exact this.alloc _
   have hs2:W2.heap.size=gm+2:=by rw [hW2];simp [hgw]
   have hgm1:gm+1<gm+2:=by omega
   rw [hW1] at hW2
   clear hW1
   have HQ2:=Lib.hid hq2
   have HX2:=Lib.hid hx2
   have HV2:=Lib.hid hv2
   have HW2:=Lib.hid hw2
   have HM2:=Lib.hid hm2
   have HN2:=Lib.hid n2
   have HS2:=Lib.hid hs2
   have HWW:=Lib.hid hW2
   clear hq2 hx2 hv2 hw2 hm2 n2 hs2 hW2
   have hgp:gm+1+1=gm+2:=rfl
   rw [HWW.out] at HQ2 HX2 HV2 HW2 HM2 HN2 HS2
   clear HWW hgw W2
   have HGM:=Lib.hid hgm
   go_wp2_with (first | (refine wpList_load_row rfl _ _ rfl gq rfl _ #[.int .i64 4,.string ⟨#[81]⟩,.string ⟨#[]⟩,.int .i64 0,.int .i64 0,.int .u64 0,.string ⟨#[]⟩,.slice none 0 0,.slice qA fq.length qc,.slice none 0 0,.string ⟨#[]⟩,.slice none 0 0] _ _ HQ2.out Tryz.underlying57 rfl (by kernel_rfl) ?_) | (refine wpList_load_row rfl _ _ rfl gx rfl _ #[.int .i64 6,.string ⟨#[88]⟩,.string ⟨#[]⟩,.int .i64 0,.int .i64 0,.int .u64 0,.string ⟨#[]⟩,.slice none 0 0,.slice xA fx.length xc,.slice none 0 0,.string ⟨#[]⟩,.slice none 0 0] _ _ HX2.out Tryz.underlying57 rfl (by kernel_rfl) ?_) | (refine wpList_load_row rfl _ _ rfl gv rfl _ #[.int .i64 7,.string ⟨#[86]⟩,.string ⟨#[]⟩,.int .i64 0,.int .i64 0,.int .u64 0,.string ⟨#[]⟩,.slice none 0 0,.slice none 0 0,.slice none 0 0,.string ⟨#[]⟩,.slice mA ms.length mc] _ _ HV2.out Tryz.underlying57 rfl (by kernel_rfl) ?_) | (refine wpList_load_row rfl _ _ rfl (gm+1) rfl _ #[.int .i64 7,.string ⟨#[87]⟩,.string ⟨#[]⟩,.int .i64 0,.int .i64 0,.int .u64 0,.string ⟨#[]⟩,.slice none 0 0,.slice none 0 0,.slice none 0 0,.string ⟨#[86]⟩,.slice (some ⟨gm,0,none⟩) 1 1] _ _ HW2.out.2 Tryz.underlying57 rfl (by kernel_rfl) ?_))
   go_ret
   exact ⟨_,rfl,rest_fin HR4.out hBq0 hqx hxv HN2.out HGM.out HM2.out HS2.out HFQ.out HLQ.out HFX.out HLX.out HALL.out (by have:=HML.out;omega) _ (by simp [rowL,dfnA,bt,conZ,nilV])⟩
end Go.Proofs.YteclejplbphkpaaGreat
