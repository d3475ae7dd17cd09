/- What play makes is what the code's printer is asked for. Plain. The document's play: of numbers; the first file. The document's printer: a definition. -/
import Derived.Test.YtjggghfekakogaaGreatDoorH29
import Derived.Test.YtjggghfekakogaaGreatDoorH33
import Derived.Test.YtjggghfekakogaaGreatDoorH24
import Derived.Test.YtjggghfekakogaaGreatDoorH17
set_option linter.unusedVariables false
set_option linter.unusedSimpArgs false
set_option linter.unnecessarySimpa false
namespace Go.Proofs.YtjggghfekakogaaGreatDoor
def GC (c:Con):Prop:=lnC 13 c∧depC 13 c∧nodC 13 c≤64000
theorem gc_leaf {k d:Nat} {i:Int} {s:List UInt8}:GC (.mk k i d s []) :=
 ⟨⟨Nat.zero_le _,fun y hy=>by cases hy⟩,(fun y hy=>by cases hy),by show 1+(([]:List Con).map (nodC 12)).sum≤64000;decide⟩
theorem pr_leaf {n k d:Nat} {i:Int} {s:List UInt8} (hk:1≤k∧k≤6) (h:okC (n+1) (.mk k i d s [])):prC (n+1) (.mk k i d s []) :=
 ⟨hk,fun _=>rfl,h.1,h.2.1,Nat.zero_le _,fun y hy=>by cases hy⟩
theorem initP_k (t pre r:List UInt8):1≤(initP t pre r).1.k∧(initP t pre r).1.k≤6:=by
 unfold initP
 repeat' split
 all_goals exact ⟨by simp,by simp⟩
def GF (f:Fld):Prop:=GC f.ini∧prF f
def GM (m:Met):Prop:=(m.args.length≤100000∧∀ f ∈ m.args,GF f)∧m.thr.length≤100000∧∀ f ∈ m.thr,GF f
def GD (d:Dfn):Prop:=prD d∧ndD d∧lnD d∧depD d
section
variable {tn:Int→List UInt8} {sh:Nat→List UInt8}
theorem fld_g (hL:LenN tn sh) {pre:List UInt8} (hp:pre.length≤5) {un:Bool} {i:Nat} (hi:i<21) {f:Fld} (h:PFld pre un i f):GF f:=by
 have hk:=(fld_in hL hp hi h).1
 rcases h.ini with ⟨e1,e2⟩ | ⟨e1,r,e2⟩
 ·exact ⟨by rw [e2];exact gc_leaf,hk.1,fun hh=>by rw [e1] at hh;cases hh⟩
 ·refine ⟨by rw [e2];exact gc_leaf,hk.1,fun _=>?_⟩
  have h2:=hk.2
  rw [e2] at h2 ⊢
  exact pr_leaf (initP_k _ _ _) h2
theorem arg_g (hL:LenN tn sh) {pre:List UInt8} (hp:pre.length≤5) {i:Nat} (hi:i<21) {f:Fld} (h:PArg pre i f):GF f:=by
 have hk:=(arg_in hL hp hi h).1
 obtain ⟨T,hT,rfl⟩:=h
 exact ⟨gc_leaf,hk.1,fun hh=>by cases hh⟩
theorem thr_g:GF thrX:=⟨gc_leaf,⟨by decide,by decide⟩,fun hh=>by cases hh⟩
theorem met_g (hL:LenN tn sh) {pre:List UInt8} (hp:pre.length≤5) {i:Nat} {m:Met} (h:PMet pre i m):GM m:=by
 have ha:∀ f ∈ m.args,GF f:=fun f hf=>by
  obtain ⟨j,hj,hP⟩:=h.args.mem hf
  exact arg_g hL hp (by have:=h.alen;omega) hP
 have ht:m.thr.length≤1∧∀ f ∈ m.thr,GF f:=by
  have:m.thr=[]∨m.thr=[thrX]:=by
   rcases h.rest with ⟨_,_,e⟩ | ⟨_,_,e⟩ | ⟨_,_,e⟩
   ·exact .inl e
   ·exact .inr e
   ·exact e
  rcases this with e | e
  ·rw [e];exact ⟨by decide,fun f hf=>by cases hf⟩
  ·rw [e];exact ⟨by decide,fun f hf=>by rw [List.mem_singleton.1 hf];exact thr_g⟩
 exact ⟨⟨by have:=h.alen;omega,ha⟩,by have:=ht.1;omega,ht.2⟩
theorem gd_of (d:Dfn) (hk:1≤d.k∧d.k≤7) (hc:GC d.ini) (hp:d.k=3→prC 13 d.ini) (hf:d.fields.length≤100000∧∀ f ∈ d.fields,GF f)
    (hm:d.mems.length≤100000∧∀ m ∈ d.mems,-9223372036854775808≤m.n∧m.n≤9223372036854775807) (ht:d.mets.length≤100000∧∀ m ∈ d.mets,GM m)
    (e1:d.k≠7→d.ext=[]∧d.mets=[]) (e2:d.k≠2→d.mems=[]) (e3:d.k≠4→d.k≠5→d.k≠6→d.fields=[]):GD d :=
  ⟨⟨hk,hp,⟨hf.1,fun f h=>(hf.2 f h).2⟩,hm,⟨ht.1,fun m h=>⟨(ht.2 m h).1.1,fun f hf=>((ht.2 m h).1.2 f hf).2,(ht.2 m h).2.1,fun f hf=>((ht.2 m h).2.2 f hf).2⟩⟩,e1,e2,e3⟩,
   ⟨hc.2.2,⟨hf.1,fun f h=>(hf.2 f h).1.2.2⟩,hm.1,ht.1,fun m h=>⟨⟨(ht.2 m h).1.1,fun f hf=>((ht.2 m h).1.2 f hf).1.2.2⟩,(ht.2 m h).2.1,fun f hf=>((ht.2 m h).2.2 f hf).1.2.2⟩⟩,
   ⟨hc.1,⟨hf.1,fun f h=>(hf.2 f h).1.1⟩,hm.1,ht.1,fun m h=>⟨⟨(ht.2 m h).1.1,fun f hf=>((ht.2 m h).1.2 f hf).1.1⟩,(ht.2 m h).2.1,fun f hf=>((ht.2 m h).2.2 f hf).1.1⟩⟩,
   ⟨hc.2.1,fun f h=>(hf.2 f h).1.2.1,fun m h=>⟨fun f hf=>((ht.2 m h).1.2 f hf).1.2.1,fun f hf=>((ht.2 m h).2.2 f hf).1.2.1⟩⟩⟩
theorem nilm {α:Type} {Q:α→Prop}:([]:List α).length≤100000∧∀ x ∈ ([]:List α),Q x:=⟨Nat.zero_le _,fun x hx=>by cases hx⟩
theorem dfnF_g (k:Nat) (nm:List UInt8) (fs:List Fld) (hk:k=4∨k=5∨k=6) (hl:fs.length≤21) (h:∀ f ∈ fs,GF f):GD (dfnF k nm fs) :=
 gd_of _ (by show 1≤k∧k≤7;omega) gc_leaf (fun e=>by have e':k=3:=e;omega) ⟨by show fs.length≤100000;omega,h⟩ nilm nilm (fun _=>⟨rfl,rfl⟩) (fun _=>rfl) (fun a b c=>by
  have a':k≠4:=a
  have b':k≠5:=b
  have c':k≠6:=c
  omega)
theorem rest_g (hL:LenN tn sh) {pre:List UInt8} (hp:pre.length≤5) {ds:List Dfn} (h:PRest pre ds):∀ d ∈ ds,GD d:=by
 obtain ⟨fq,fx,ms,rfl,h1,h2,h3,h4,h5,h6⟩:=h.is
 have q1:∀ f ∈ fq,GF f:=fun f hf=>by
  obtain ⟨j,hj,hP⟩:=h1.mem hf
  exact fld_g hL hp (by omega) hP
 have q2:∀ f ∈ fx,GF f:=fun f hf=>by
  obtain ⟨j,hj,hP⟩:=h3.mem hf
  exact fld_g hL hp (by omega) hP
 have q3:∀ m ∈ ms,GM m:=fun m hm=>by
  obtain ⟨j,hj,hP⟩:=h5.mem hm
  exact met_g hL hp hP
 intro d hd
 simp only [List.mem_cons,List.not_mem_nil,or_false] at hd
 rcases hd with rfl | rfl | rfl | rfl
 ·exact dfnF_g 4 _ fq (by omega) h2 q1
 ·exact dfnF_g 6 _ fx (by omega) h4 q2
 ·exact gd_of _ ⟨by simp,by simp⟩ gc_leaf (fun e=>by cases e) nilm nilm ⟨by show ms.length≤100000;omega,q3⟩ (fun e=>absurd rfl e) (fun _=>rfl) (fun _ _ _=>rfl)
 ·exact gd_of _ ⟨by simp,by simp⟩ gc_leaf (fun e=>by cases e) nilm nilm ⟨by decide,fun m hm=>by rw [List.mem_singleton.1 hm];exact ⟨nilm,nilm⟩⟩ (fun e=>absurd rfl e) (fun _=>rfl) (fun _ _ _=>rfl)
theorem con_g (hL:LenN tn sh) {ty:List UInt8} {c:Con} (h:PCon ty c):GC c∧prC 13 c:=by
 have hk:=(con_in hL h).2.1
 rcases h with ⟨rfl,k,hk',rfl⟩ | ⟨rfl,rfl⟩ | ⟨rfl,rfl⟩ | ⟨rfl,rfl⟩
 ·exact ⟨gc_leaf,pr_leaf ⟨by decide,by decide⟩ hk⟩
 ·refine ⟨⟨⟨by decide,fun y hy=>?_⟩,fun y hy=>?_,by decide⟩,⟨by decide,by decide⟩,(fun e=>by cases e),⟨by decide,by decide⟩,by decide,by decide,fun y hy=>?_⟩
  all_goals
   simp only [List.mem_cons,List.not_mem_nil,or_false] at hy
   rcases hy with rfl | rfl
  ·exact ⟨Nat.zero_le _,fun y hy=>by cases hy⟩
  ·exact ⟨Nat.zero_le _,fun y hy=>by cases hy⟩
  ·exact fun y hy=>by cases hy
  ·exact fun y hy=>by cases hy
  ·exact ⟨by decide,fun _=>rfl,by decide,by decide,Nat.zero_le _,fun y hy=>by cases hy⟩
  ·exact ⟨by decide,fun _=>rfl,by decide,by decide,Nat.zero_le _,fun y hy=>by cases hy⟩
 ·exact ⟨gc_leaf,pr_leaf ⟨by decide,by decide⟩ hk⟩
 ·exact ⟨gc_leaf,pr_leaf ⟨by decide,by decide⟩ hk⟩
theorem base_g (hL:LenN tn sh) {ds:List Dfn} (h:PBase ds):∀ d ∈ ds,GD d:=by
 obtain ⟨ms,ty,c,fs,fu,rfl,h1,h2,h3,h4,h5,h6,h7,h8,h9⟩:=h.is
 have q1:∀ f ∈ fs,GF f:=fun f hf=>by
  obtain ⟨j,hj,hP⟩:=h5.mem hf
  exact fld_g hL (by decide) (by omega) hP
 have q2:∀ f ∈ fu,GF f:=fun f hf=>by
  obtain ⟨j,hj,hP⟩:=h7.mem hf
  exact fld_g hL (by decide) (by omega) hP
 have q3:∀ m ∈ ms,-9223372036854775808≤m.n∧m.n≤9223372036854775807:=fun m hm=>by
  obtain ⟨j,hj,hP⟩:=h1.mem hm
  exact (mem_in hL (by omega) hP).1
 obtain ⟨c1,c2⟩:=con_g hL h4
 intro d hd
 simp only [List.mem_cons,List.not_mem_nil,or_false] at hd
 rcases hd with rfl | rfl | rfl | rfl | rfl
 ·exact gd_of _ ⟨by simp,by simp⟩ gc_leaf (fun e=>by cases e) nilm ⟨by show ms.length≤100000;omega,q3⟩ nilm (fun _=>⟨rfl,rfl⟩) (fun e=>absurd rfl e) (fun _ _ _=>rfl)
 ·exact gd_of _ ⟨by simp,by simp⟩ gc_leaf (fun e=>by cases e) nilm nilm nilm (fun _=>⟨rfl,rfl⟩) (fun _=>rfl) (fun _ _ _=>rfl)
 ·exact gd_of _ ⟨by simp,by simp⟩ c1 (fun _=>c2) nilm nilm nilm (fun _=>⟨rfl,rfl⟩) (fun _=>rfl) (fun _ _ _=>rfl)
 ·exact dfnF_g 4 _ fs (by omega) h6 q1
 ·exact dfnF_g 5 _ fu (by omega) h8 q2
theorem files_g (hL:LenN tn sh) {fls:List Fil} (h:PFiles fls):∀ f ∈ fls,prFil f∧ndFil f∧lnFil f∧∀ d ∈ f.defs,depD d:=by
 have key:∀ f:Fil,okFil f→(∀ d ∈ f.defs,GD d)→prFil f∧ndFil f∧lnFil f∧∀ d ∈ f.defs,depD d:=fun f h k =>
  ⟨⟨h.1,h.2.1,h.2.2.1,fun d hd=>(k d hd).1⟩,⟨h.1,h.2.1,h.2.2.1,fun d hd=>(k d hd).2.1⟩,⟨h.1,h.2.1,h.2.2.1,fun d hd=>(k d hd).2.2.1⟩,fun d hd=>(k d hd).2.2.2⟩
 intro f hf
 refine key f ((files_in hL h).2.2 f hf).1 ?_
 rcases h with ⟨d1,d2,rfl,hr,hb⟩ | ⟨d1,d2,rfl,hb,hr⟩
 ·simp only [List.mem_cons,List.not_mem_nil,or_false] at hf
  rcases hf with rfl | rfl
  ·exact rest_g hL (by decide) hr
  ·exact base_g hL hb
 ·simp only [List.mem_cons,List.not_mem_nil,or_false] at hf
  subst hf
  exact fun d hd=>(List.mem_append.1 hd).elim (base_g hL hb d) (rest_g hL (by decide) hr d)
end
end Go.Proofs.YtjggghfekakogaaGreatDoor
namespace Go.Proofs.YtjggghfekakogaaGreatDoor
open Go.RowKit
set_option maxRecDepth 100000 in
set_option maxHeartbeats 1600000 in
theorem plMade_any (A:Option Addr) (xs:List UInt8) (c:Nat) (w:World) (hr:Rd bv w A xs) (hx:xs.length≤1000) :
  Calls Tryz.prog 19 #[.slice A xs.length c] w fun e w'=>∃ b,e = .returned (.pointer (some ⟨b,0,none⟩))∧Pk w' b xs∧Nx w w'∧w.heap.size≤b:=by
 have HR:=Lib.hid hr
 have hn0:Nx w (w.alloc (.cells #[.slice A xs.length c,.int .i64 0] 88)):=nx0 _ _
 have hB:=Blk.new w #[.slice A xs.length c,.int .i64 0] 88
 have hpk:Pk (w.alloc (.cells #[.slice A xs.length c,.int .i64 0] 88)) w.heap.size xs:=by
  refine ⟨A,c,0,xs,hB,hx,Nat.zero_le _,rfl,fun h=>?_⟩
  obtain ⟨b,off,rfl,hb,hc⟩:=hr (by cases xs with | nil=>exact absurd rfl h | cons a r=>simp)
  exact ⟨b,off,rfl,hb,fun j hj=>(hn0.cell (p:=⟨b,off+j,none⟩) hb).trans (hc j hj)⟩
 have HPK:=Lib.hid hpk
 have HN0:=Lib.hid hn0
 clear hr hpk hn0 hB
 go_enter Tryz.func19,Tryz.ntmps19
 go_wp2_with fail
 go_ret
 exact ⟨_,rfl,HPK.out,HN0.out,Nat.le_refl _⟩
theorem files_first {B:Nat} {w:World} {v:Value} {fls:List Fil} (h:LFi w (Fm B) v fls) (h0:0<fls.length) :
  ∃ g c x,v = .slice (some ⟨g,0,none⟩) fls.length c∧g<w.heap.size∧(∀ j,j<3→w.cell? ⟨g,j,none⟩=(filA x)[j]?)∧RFile w (Fm B) x fls[0]:=by
 obtain ⟨A,c,xs,rfl,h1,h2,h3,h4,h5⟩:=RepL.sl filA_size h
 obtain ⟨g,rfl,hg,hc⟩:=h4 (by omega)
 refine ⟨g,c,xs[0]'(by omega),rfl,hg,fun j hj=>by have:=hc 0 (by omega) j hj;rw [Nat.zero_mul,Nat.zero_add] at this;exact this,?_⟩
 exact RFile.lasts ⟨fun _ _ _=>rfl,fun _ h _=>h.1⟩ (h5.at_ 0 (by omega) h0)
end Go.Proofs.YtjggghfekakogaaGreatDoor
namespace Go.Proofs.YtjggghfekakogaaGreatDoor
open Go.RowKit
def wordsV:Array Value:=#[.string ⟨#[]⟩,.string ⟨#[116,121,112,101,100,101,102,32]⟩,.string ⟨#[101,110,117,109,32]⟩,.string ⟨#[99,111,110,115,116,32]⟩,.string ⟨#[115,116,114,117,99,116,32]⟩,.string ⟨#[117,110,105,111,110,32]⟩,
 .string ⟨#[101,120,99,101,112,116,105,111,110,32]⟩,.string ⟨#[115,101,114,118,105,99,101,32]⟩]
theorem wordsV_at (k:Nat) (h:k≤7):wordsV[k]? = some (.string ⟨(wordD k).toArray⟩):=by
 match k,h with
 | 0,_=>rfl
 | 1,_=>rfl
 | 2,_=>rfl
 | 3,_=>rfl
 | 4,_=>rfl
 | 5,_=>rfl
 | 6,_=>rfl
 | 7,_=>rfl
theorem RD.keep {P Q:Nat→Prop} {w w':World} {x:DfnS} {c:Dfn} (h:RD w P x c) (hk:∀ g,P g→g<w.heap.size→w'.heap[g]? = w.heap[g]?) (hq:∀ g,P g→g<w.heap.size→Q g):RD w' Q x c:=RD.lasts ⟨hk,hq⟩ h
set_option maxRecDepth 100000 in
set_option maxHeartbeats 6400000 in
theorem docDef_any {tn:Int→List UInt8} {sh:Nat→List UInt8} (hN:PrN tn sh) (w:World) (P:Nat→Prop) (x:DfnS) (d:Dfn) (hr:RD w P x d) (hok:okD d)
  (hlen:((defF tn sh d).length:Int)≤1000000000) :
  Calls Tryz.prog 45 #[.agg (dfnA x)] w fun e w'=>e = .returned (.string ⟨(defF tn sh d).toArray⟩)∧Nx w w':=by
 obtain ⟨xk,xn,xt,⟨ck,cn,cd,cs,cl⟩,xf,xm,xe,xs⟩:=x
 obtain ⟨dk,dn,dt,di,df,dm,de,ds⟩:=d
 obtain ⟨h1,h2,h3,hri,hrf,hrm,h7,hrs⟩:=hr
 dsimp only at h1 h2 h3 hri hrf hrm h7 hrs
 subst h1 h2 h3 h7
 obtain ⟨hk7,hoki,⟨hfl,hokf⟩,⟨hml,hokm⟩,hsl,hoks⟩:=hok
 dsimp only at hk7 hoki hfl hokf hml hokm hsl hoks
 obtain ⟨F,hF⟩:∃ F,Hid (defF tn sh ⟨xk,xn,xt,di,df,dm,xe,ds⟩=F):=⟨_,Lib.hid rfl⟩
 rw [hF.out] at hlen ⊢
 obtain ⟨g,hg⟩:∃ g,w.heap.size=g:=⟨_,rfl⟩
 have hB:=Blk.new w #[.int .i64 (xk:Int),.string ⟨xn.toArray⟩,.string ⟨xt.toArray⟩,.int .i64 (ck:Int),.int .i64 cn,.int .u64 (cd:Int),.string ⟨cs.toArray⟩,cl,xf,xm,.string ⟨xe.toArray⟩,xs] 55
 rw [hg] at hB
 have hn0:Nx w (w.alloc (.cells #[.int .i64 (xk:Int),.string ⟨xn.toArray⟩,.string ⟨xt.toArray⟩,.int .i64 (ck:Int),.int .i64 cn,.int .u64 (cd:Int),.string ⟨cs.toArray⟩,cl,xf,xm,.string ⟨xe.toArray⟩,xs] 55)):=nx0 _ _
 have HB:=Lib.hid hB
 have HN0:=Lib.hid hn0
 have HLEN:=Lib.hid hlen
 clear hlen hB hn0
 show Calls _ _ #[.agg #[.int .i64 (xk:Int),.string ⟨xn.toArray⟩,.string ⟨xt.toArray⟩,.int .i64 (ck:Int),.int .i64 cn,.int .u64 (cd:Int),.string ⟨cs.toArray⟩,cl,xf,xm,.string ⟨xe.toArray⟩,xs]] _ _
 go_enter Tryz.func45,Tryz.ntmps45
 go_upto_region 1 with fail
 generalize World.alloc w _=W at *
 clear hg
 go_upto_region 2 with fail
 obtain ⟨gt,hgt⟩:∃ gt,W.heap.size=gt:=⟨_,rfl⟩
 have hT:=Blk.new W wordsV 9
 have hn1:Nx W (W.alloc (.cells wordsV 9)):=nx0 _ _
 have hB2:=HB.out.below hn1
 change Blk (W.alloc (Obj.cells #[_,_,_,_,_,_,_,_] _)) _ _ _ _ at hT
 change Nx W (W.alloc (Obj.cells #[_,_,_,_,_,_,_,_] _)) at hn1
 change Blk (W.alloc (Obj.cells #[_,_,_,_,_,_,_,_] _)) _ _ _ _ at hB2
 simp only [hgt] at hT ⊢
 generalize World.alloc W _=W2 at *
 have HB2:=Lib.hid hB2
 have HN2:=Lib.hid (HN0.out.trans hn1)
 have c0:W2.cell? ⟨g,0,none⟩=some (.int .i64 (xk:Int)):=HB2.out.cell 0
 have t0:W2.cell? ⟨gt,xk,none⟩=some (.string ⟨(wordD xk).toArray⟩):=(hT.cell xk).trans (wordsV_at xk hk7)
 have hkI:(xk:Int)<8:=by omega
 have hkN:xk<8:=by omega
 obtain ⟨S0,hS0⟩:∃ S:ByteArray,(⟨(wordD xk).toArray⟩:ByteArray)=S:=⟨_,rfl⟩
 rw [hS0] at t0
 have HS0:Hid (Tx S0 (wordD xk)):=by rw [← hS0];exact Tx.of _
 clear hT hn1 hB2 hS0
 have hzt:((⟨xt.toArray⟩:ByteArray).size)=xt.length:=(Tx.of xt).size
 have hzn:((⟨xn.toArray⟩:ByteArray).size)=xn.length:=(Tx.of xn).size
 have hze:((⟨xe.toArray⟩:ByteArray).size)=xe.length:=(Tx.of xe).size
 have c1:W2.cell? ⟨g,1,none⟩=some (.string ⟨xn.toArray⟩):=HB2.out.cell 1
 have c2:W2.cell? ⟨g,2,none⟩=some (.string ⟨xt.toArray⟩):=HB2.out.cell 2
 by_cases hk1:xk=1
 ·subst hk1
  have hF1:F=(((wordD 1++xt)++[32])++xn)++[10]:=hF.out.symm
  have hsz:S0.size+xt.length+1+xn.length+1≤1000000000:=by
   have h:=HLEN.out
   rw [hF1] at h
   rw [HS0.out.size]
   simp only [List.length_append,List.length_cons,List.length_nil] at h
   omega
  have HR:Hid ((((S0++⟨xt.toArray⟩)++⟨#[32]⟩)++⟨xn.toArray⟩)++⟨#[10]⟩=⟨F.toArray⟩):=by
   rw [hF1]
   exact ((((HS0.out.cat (Tx.of xt)).cat (Tx.of [32])).cat (Tx.of xn)).cat (Tx.of [10])).eq
  clear hF1 hri hrf hrm hrs hoki hokf hokm hoks
  go_wp2_with fail
  go_ret
  exact ⟨by first | rfl | (rw [HR.out];rfl),HN2.out⟩
 have b1:((xk:Int) == 1)=false:=by rw [beq_eq_false_iff_ne];omega
 have b1':¬ (xk:Int)=1:=by omega
 by_cases hk3:xk=3
 ·subst hk3
  obtain ⟨E,hE⟩:∃ E,Hid (constF tn sh 13 di=E):=⟨_,Lib.hid rfl⟩
  have hF1:F=(((((wordD 3++xt)++[32])++xn)++[32,61,32])++E)++[10]:=by
   rw [← hE.out];exact hF.out.symm
  have hsz:S0.size+xt.length+1+xn.length+3+E.length+1≤1000000000:=by
   have h:=HLEN.out
   rw [hF1] at h
   rw [HS0.out.size]
   simp only [List.length_append,List.length_cons,List.length_nil] at h
   omega
  have hcall:∀ wx,Nx w wx→Calls Tryz.prog 87 #[.agg (conA ⟨ck,cn,cd,cs,cl⟩)] wx fun e w'=>e = .returned (.string ⟨E.toArray⟩)∧Nx wx w':=fun wx hx=>by
   have:=const_any hN 13 wx P _ di (hri.keep' (fun g' _ hl=>hx.block g' hl) (fun g' h _=>h)) hoki (by rw [hE.out];omega)
   rw [hE.out] at this
   exact this
  have HC:=Lib.hid hcall
  have HR:Hid ((((((S0++⟨xt.toArray⟩)++⟨#[32]⟩)++⟨xn.toArray⟩)++⟨#[32,61,32]⟩)++⟨E.toArray⟩)++⟨#[10]⟩=⟨F.toArray⟩):=by
   rw [hF1]
   exact ((((((HS0.out.cat (Tx.of xt)).cat (Tx.of [32])).cat (Tx.of xn)).cat (Tx.of [32,61,32])).cat (Tx.of E)).cat (Tx.of [10])).eq
  have y1:¬ 9223372036854775807<S0.size+xt.length:=by omega
  have y2:¬ 9223372036854775807<S0.size+xt.length+1:=by omega
  have y3:¬ 9223372036854775807<S0.size+xt.length+1+xn.length:=by omega
  have y4:¬ 9223372036854775807<S0.size+xt.length+1+xn.length+3:=by omega
  have y5:¬ 9223372036854775807<S0.size+xt.length+1+xn.length+3+E.length:=by omega
  have y6:¬ 9223372036854775807<S0.size+xt.length+1+xn.length+3+E.length+1:=by omega
  have k1:∀ x:Gr W2,x.1.cell? ⟨g,1,none⟩=some (.string ⟨xn.toArray⟩):=fun x=>(HB2.out.below x.2).cell 1
  have k2:∀ x:Gr W2,x.1.cell? ⟨g,2,none⟩=some (.string ⟨xt.toArray⟩):=fun x=>(HB2.out.below x.2).cell 2
  have k3:∀ x:Gr W2,x.1.cell? ⟨g,3,none⟩=some (.int .i64 (ck:Int)):=fun x=>(HB2.out.below x.2).cell 3
  have k4:∀ x:Gr W2,x.1.cell? ⟨g,4,none⟩=some (.int .i64 cn):=fun x=>(HB2.out.below x.2).cell 4
  have k5:∀ x:Gr W2,x.1.cell? ⟨g,5,none⟩=some (.int .u64 (cd:Int)):=fun x=>(HB2.out.below x.2).cell 5
  have k6:∀ x:Gr W2,x.1.cell? ⟨g,6,none⟩=some (.string ⟨cs.toArray⟩):=fun x=>(HB2.out.below x.2).cell 6
  have k7:∀ x:Gr W2,x.1.cell? ⟨g,7,none⟩=some cl:=fun x=>(HB2.out.below x.2).cell 7
  clear hF1 hri hrf hrm hrs hoki hokf hokm hoks hcall
  go_wp2_with fail
  refine wp_region_hyb [(0,true),(1,true),(2,true),(3,true),(4,true),(5,true),(6,true),(7,true),(8,true),(9,true),(10,true),(11,false),(12,true),(13,true),(14,true)] (by kernel_rfl) (by kernel_rfl) ?_
  iterate 11 (refine hyb_calm rfl (fun K hK=>?_);go_simp;refine hK _ ?_;clear hK K)
  refine hyb_alone rfl (fun w4 hn4 K hK=>?_)
  go_simp
  refine (HC.out w4 (HN2.out.trans hn4)).mono ?_;rintro e w5 ⟨rfl,hn5⟩
  refine hK _ _ hn5 ?_
  clear hK K
  iterate 3 (refine hyb_calm rfl (fun K hK=>?_);go_simp;refine hK _ ?_;clear hK K)
  refine hyb_nil (fun w8 hn8=>?_)
  go_wp2_with fail
  go_ret
  exact ⟨by first | rfl | (rw [HR.out];rfl),((HN2.out.trans hn4).trans hn5).trans hn8⟩
 have b3:((xk:Int) == 3)=false:=by rw [beq_eq_false_iff_ne];omega
 have b3':¬ (xk:Int)=3:=by omega
 have hF1:F=((((((wordD xk++xn)++(if xe=[] then [] else [32,101,120,116,101,110,100,115,32]++xe))++[32,123,10])++dm.flatMap (memF tn))++df.flatMap (fldL tn sh))++ds.flatMap (methodF tn sh))++[125,10]:=by
  have h:=hF.out
  unfold defF at h
  dsimp only at h
  rw [if_neg hk1,if_neg hk3] at h
  exact h.symm
 have hll:=HLEN.out
 rw [hF1] at hll
 simp only [List.length_append,List.length_cons,List.length_nil] at hll
 have HF1:=Lib.hid hF1
 have HLL:=Lib.hid hll
 have HRI:=Lib.hid hri
 have HRF:=Lib.hid hrf
 have HRM:=Lib.hid hrm
 have HRS:=Lib.hid hrs
 have HOF:=Lib.hid hokf
 have HOM:=Lib.hid hokm
 have HOS:=Lib.hid hoks
 have HN:=Lib.hid hN
 have hs0:S0.size+xn.length+12≤1000000012:=by
  rw [HS0.out.size];omega
 clear hF1 hll hri hrf hrm hrs hokf hokm hoks hN hoki
 have c10:W2.cell? ⟨g,10,none⟩=some (.string ⟨xe.toArray⟩):=HB2.out.cell 10
 go_upto_if 49 with fail
 clear b1 b1' b3 b3' hk1 hk3 hkI hkN t0 hzt c1 c2
 obtain ⟨Se,hSe⟩:∃ S:ByteArray,(⟨xe.toArray⟩:ByteArray)=S:=⟨_,rfl⟩
 have HTe:Hid (Tx Se xe):=by rw [← hSe];exact Tx.of _
 simp only [hSe] at c10 ⊢
 clear hze hSe
 go_cut [4] (fun v wx=>∃ S1:ByteArray,v = .string S1∧Hid (Tx S1 ((wordD xk++xn)++(if xe=[] then [] else [32,101,120,116,101,110,100,115,32]++xe)))∧W2=wx)
 case first =>
  have HT1:Hid (Tx (S0++⟨xn.toArray⟩) (wordD xk++xn)):=HS0.out.cat (Tx.of xn)
  cases xe with
  | nil =>
   obtain ⟨hne,hne2⟩:=HTe.out.nil
   clear HF1 HLL HRI HRF HRM HRS HOF HOM HOS HN hfl hml hsl hk7 hs0 hzn c0 hF HLEN
   go_wp2_with fail
   go_meet
   case rel=>exact ⟨_,rfl,by unfold Hid;rw [if_pos (by trivial),List.append_nil];exact HT1.out,rfl⟩
  | cons ec er =>
   have hsz:S0.size+xn.length+9+(er.length+1)≤1000000000:=by
    have h:=HLL.out
    rw [if_neg (by simp)] at h
    simp only [List.length_append,List.length_cons,List.length_nil] at h
    rw [HS0.out.size]
    omega
   obtain ⟨hp0,t0',-,-,-,hne,hne2⟩:=HTe.out.cons
   have hSel:Se.size=er.length+1:=by rw [HTe.out.size];rfl
   clear HF1 HLL HRI HRF HRM HRS HOF HOM HOS HN hfl hml hsl hk7 hs0 hzn c0 hF HLEN
   go_wp2_with fail
   go_meet
   case rel=>exact ⟨_,rfl,by unfold Hid;rw [if_neg (by simp),← List.append_assoc];exact (HT1.out.cat (Tx.of [32,101,120,116,101,110,100,115,32])).cat HTe.out,rfl⟩
 case rest =>
 obtain ⟨S1,rfl,HS1,rfl⟩:=hcut
 obtain ⟨A,hA⟩:∃ A,Hid (((wordD xk++xn)++(if xe=[] then [] else [32,101,120,116,101,110,100,115,32]++xe))++[32,123,10]=A):=⟨_,Lib.hid rfl⟩
 have HFA:Hid (F=(((A++dm.flatMap (memF tn))++df.flatMap (fldL tn sh))++ds.flatMap (methodF tn sh))++[125,10]):=by rw [← hA.out];exact HF1.out
 have HSA:Hid (Tx (S1++⟨#[32,123,10]⟩) A):=by rw [← hA.out];exact HS1.out.cat (Tx.of [32,123,10])
 have hAs:A.length+(dm.flatMap (memF tn)).length+(df.flatMap (fldL tn sh)).length+(ds.flatMap (methodF tn sh)).length+2≤1000000000:=by
  have h:=HLEN.out
  rw [HFA.out] at h
  simp only [List.length_append,List.length_cons,List.length_nil] at h
  omega
 have HAS:=Lib.hid hAs
 have hs1:S1.size+3≤1000000000:=by
  have h:=HSA.out.size
  rw [ByteArray.size_append] at h
  have h3:(⟨#[32,123,10]⟩:ByteArray).size=3:=rfl
  omega
 obtain ⟨mA,mc,mz,rfl,hmzl,hmzc,hmzm,hmrd,hmall⟩:=HRM.out.sl memA_size
 have HMR:=Lib.hid hmrd
 have HMA:=Lib.hid hmall
 clear hs0 hAs hmrd hmall HRM HF1 HLL HS0 HTe hF c10 hk7 HS1 hA hzn
 go_wp2_with fail
 go_loopw [4,5] (fun sv iv wr=>∃ (i:Nat) (S:ByteArray),iv = .int .i64 (i:Int)∧sv = .string S∧i≤dm.length∧Hid (Tx S (A++(dm.take i).flatMap (memF tn)))∧Nx W2 wr) (fun _ iv _=>200000 - (intOf iv).toNat)
 case atStart=>exact ⟨0,_,rfl,rfl,Nat.zero_le _,by unfold Hid;simpa using HSA.out,Nx.refl _⟩
 case round =>
  obtain ⟨i,S,rfl,rfl,hi,HS,hn⟩:=hrel
  have HNX:=Lib.hid hn
  have hiI:(i:Int)≤100000:=by omega
  have k9:wr.cell? ⟨g,9,none⟩=some (.slice mA dm.length mc):=(HB2.out.below hn).cell 9
  clear hn
  by_cases hlt:i<dm.length
  ·have q1:decide ((i:Int)<(dm.length:Int))=true:=decide_eq_true (by omega)
   have q2:(i:Int)<(dm.length:Int):=by omega
   obtain ⟨hst,hle⟩:=flat_step (memF tn) dm i hlt
   obtain ⟨g2,rfl,hg2,hcs⟩:=HMR.out (by omega)
   have hz:mz[i]'(by omega)=dm[i]:=HMA.out.at_ i (by omega) hlt
   have hrng:=HOM.out _ (List.getElem_mem hlt)
   obtain ⟨M,hM⟩:∃ M,dm[i]=M:=⟨_,rfl⟩
   rw [hM] at hst hz hrng
   have hcell:∀ j,j<3→wr.cell? ⟨g2,i * 3+j,none⟩=(memA M)[j]?:=fun j hj=>by
    rw [(HN2.out.trans HNX.out).cell (p:=⟨g2,i * 3+j,none⟩) hg2,hcs i (by omega) j hj,hz]
   obtain ⟨en,eh,ei⟩:=M
   have e0:wr.cell? ⟨g2,i * 3,none⟩=some (.string ⟨en.toArray⟩):=hcell 0 (by decide)
   have e1:wr.cell? ⟨g2,i * 3+1,none⟩=some (.bool eh):=hcell 1 (by decide)
   have e2:wr.cell? ⟨g2,i * 3+2,none⟩=some (.int .i64 ei):=hcell 2 (by decide)
   have hsz:S.size+(memF tn ⟨en,eh,ei⟩).length≤1000000000:=by
    have h:=HAS.out
    rw [hst] at hle
    rw [HS.out.size]
    simp only [List.length_append] at hle ⊢
    omega
   unfold memF at hsz
   have HST:=Lib.hid hst
   have hzn:((⟨en.toArray⟩:ByteArray).size)=en.length:=(Tx.of en).size
   have HTN:=Lib.hid HN.out.ten
   obtain ⟨r1,r2⟩:=hrng
   dsimp only at r1 r2 hsz
   clear hcs hcell hst hle hz hM HRI HRF HRS HOF HOM HOS hfl hml hsl HMA HMR c0 HAS HLEN HFA HSA hs1
   cases eh with
   | true =>
    have hs2:S.size+2+en.length+3+(tn ei).length+2≤1000000000:=by
     rw [if_pos rfl] at hsz
     simp only [List.length_append,List.length_cons,List.length_nil] at hsz
     omega
    have hzt:((⟨(tn ei).toArray⟩:ByteArray).size)=(tn ei).length:=(Tx.of (tn ei)).size
    have HT:Hid (Tx (((((S++⟨#[32,32]⟩)++⟨en.toArray⟩)++⟨#[32,61,32]⟩)++⟨(tn ei).toArray⟩)++⟨#[44,10]⟩) (A++(dm.take (i+1)).flatMap (memF tn))):=by
     unfold Hid
     rw [HST.out]
     have h:=((((HS.out.cat (Tx.of [32,32])).cat (Tx.of en)).cat (Tx.of [32,61,32])).cat (Tx.of (tn ei))).cat (Tx.of [44,10])
     have hm:memF tn ⟨en,true,ei⟩=(([32,32]++en)++([32,61,32]++tn ei))++[44,10]:=rfl
     rw [hm]
     simp only [List.append_assoc] at h ⊢
     exact h
    clear hsz
    go_wp2_with fail
    refine (HTN.out ei wr r1 r2).mono ?_;rintro e w5 ⟨rfl,hn5⟩
    go_wp2_with fail
    go_roundw
    case rel=>exact ⟨i+1,_,by go_num,rfl,hlt,HT,HNX.out.trans hn5⟩
    case measure=>simp [intOf];omega
   | false =>
    have hs2:S.size+2+en.length+2≤1000000000:=by
     simp only [Bool.false_eq_true,if_false,List.length_append,List.length_cons,List.length_nil] at hsz
     omega
    have HT:Hid (Tx (((S++⟨#[32,32]⟩)++⟨en.toArray⟩)++⟨#[44,10]⟩) (A++(dm.take (i+1)).flatMap (memF tn))):=by
     unfold Hid
     rw [HST.out]
     have h:=((HS.out.cat (Tx.of [32,32])).cat (Tx.of en)).cat (Tx.of [44,10])
     have hm:memF tn ⟨en,false,ei⟩=(([32,32]++en)++[])++[44,10]:=rfl
     rw [hm]
     simp only [List.append_assoc,List.nil_append] at h ⊢
     exact h
    clear hsz
    go_wp2_with fail
    go_roundw
    case rel=>exact ⟨i+1,_,by go_num,rfl,hlt,HT,HNX.out⟩
    case measure=>simp [intOf];omega
  ·obtain rfl:i=dm.length:=by omega
   have q1:decide ((dm.length:Int)<(dm.length:Int))=false:=decide_eq_false (by omega)
   go_upto_region 19 with fail
   have HN3:=Lib.hid (HN2.out.trans HNX.out)
   have HB3:=Lib.hid (HB2.out.below HNX.out)
   have HS3:Hid (Tx S (A++dm.flatMap (memF tn))):=by
    have h:=HS.out
    rw [List.take_length] at h
    exact h
   obtain ⟨A3,hA3⟩:∃ A3,Hid (A++dm.flatMap (memF tn)=A3):=⟨_,Lib.hid rfl⟩
   have hAs3:A3.length+(df.flatMap (fldL tn sh)).length+(ds.flatMap (methodF tn sh)).length+2≤1000000000:=by
    rw [← hA3.out,List.length_append];exact HAS.out
   have HAS3:=Lib.hid hAs3
   have HFA3:Hid (F=((A3++df.flatMap (fldL tn sh))++ds.flatMap (methodF tn sh))++[125,10]):=by rw [← hA3.out];exact HFA.out
   rw [hA3.out] at HS3
   obtain ⟨fA,fcp,fz,rfl,hfzl,hfzc,hfzm,hfrd,hfall⟩:=HRF.out.sl fldA_size
   have HFR:=Lib.hid hfrd
   have HFL:=Lib.hid hfall
   clear HS HNX HAS HFA HSA hA3 hAs3 HMA HMR HOM hfrd hfall HRF k9 q1 hi hlt hiI hml c0 HB2 HN2 hmzl hmzc hmzm hs1
   generalize wr=W3 at *
   go_wp2_with fail
   go_loopw [4,6] (fun sv iv wr=>∃ (i:Nat) (S:ByteArray),iv = .int .i64 (i:Int)∧sv = .string S∧i≤df.length∧Hid (Tx S (A3++(df.take i).flatMap (fldL tn sh)))∧Nx W3 wr) (fun _ iv _=>200000 - (intOf iv).toNat)
   case atStart=>exact ⟨0,_,rfl,rfl,Nat.zero_le _,by unfold Hid;simpa using HS3.out,Nx.refl _⟩
   case round =>
    obtain ⟨i,T,rfl,rfl,hi,HS,hn⟩:=hrel
    have HNX:=Lib.hid hn
    have hiI:(i:Int)≤100000:=by omega
    have k8:wr.cell? ⟨g,8,none⟩=some (.slice fA df.length fcp):=(HB3.out.below hn).cell 8
    clear hn
    by_cases hlt:i<df.length
    ·have q1:decide ((i:Int)<(df.length:Int))=true:=decide_eq_true (by omega)
     have q2:(i:Int)<(df.length:Int):=by omega
     obtain ⟨hst,hle⟩:=flat_step (fldL tn sh) df i hlt
     obtain ⟨E,hE⟩:∃ E,Hid (fieldF tn sh (df[i]'hlt)=E):=⟨_,Lib.hid rfl⟩
     have hfl2:fldL tn sh (df[i]'hlt)=([32,32]++E)++[44,10]:=by rw [← hE.out];rfl
     rw [hfl2] at hst
     have hsz:T.size+2+E.length+2≤1000000000:=by
      have h:=HAS3.out
      rw [hst] at hle
      rw [HS.out.size]
      simp only [List.length_append,List.length_cons,List.length_nil] at hle ⊢
      omega
     obtain ⟨g2,rfl,hg2,hcs⟩:=HFR.out (by omega)
     obtain ⟨Z,hZ⟩:∃ Z,Hid (fz[i]'(by omega)=Z):=⟨_,Lib.hid rfl⟩
     have hrc:RF wr (But P (.slice (some ⟨g2,0,none⟩) df.length fcp)) Z df[i]:=by
      have:=HFL.out.at_ i (by omega) hlt
      rw [hZ.out] at this
      exact this.keep (fun g' _ hl=>(HN3.out.trans HNX.out).block g' hl) (fun g' h _=>h)
     have hoki:=HOF.out _ (List.getElem_mem hlt)
     have hcall:=Lib.hid (docField_any HN.out wr _ Z df[i] hrc hoki.1 hoki.2 (by rw [hE.out];omega))
     rw [hE.out] at hcall
     obtain ⟨eh,ei,er,et,en,eI,⟨zk,zn,zd,zs,zl⟩⟩:=Z
     have hcell:∀ j,j<11→wr.cell? ⟨g2,i * 11+j,none⟩=(fldA ⟨eh,ei,er,et,en,eI,⟨zk,zn,zd,zs,zl⟩⟩)[j]?:=fun j hj=>by
      rw [(HN3.out.trans HNX.out).cell (p:=⟨g2,i * 11+j,none⟩) hg2,hcs i (by omega) j hj,hZ.out]
     have e0:wr.cell? ⟨g2,i * 11,none⟩=some (.bool eh):=hcell 0 (by decide)
     have e1:wr.cell? ⟨g2,i * 11+1,none⟩=some (.int .i64 ei):=hcell 1 (by decide)
     have e2:wr.cell? ⟨g2,i * 11+2,none⟩=some (.int .i64 (er:Int)):=hcell 2 (by decide)
     have e3:wr.cell? ⟨g2,i * 11+3,none⟩=some (.string ⟨et.toArray⟩):=hcell 3 (by decide)
     have e4:wr.cell? ⟨g2,i * 11+4,none⟩=some (.string ⟨en.toArray⟩):=hcell 4 (by decide)
     have e5:wr.cell? ⟨g2,i * 11+5,none⟩=some (.bool eI):=hcell 5 (by decide)
     have e6:wr.cell? ⟨g2,i * 11+6,none⟩=some (.int .i64 (zk:Int)):=hcell 6 (by decide)
     have e7:wr.cell? ⟨g2,i * 11+7,none⟩=some (.int .i64 zn):=hcell 7 (by decide)
     have e8:wr.cell? ⟨g2,i * 11+8,none⟩=some (.int .u64 (zd:Int)):=hcell 8 (by decide)
     have e9:wr.cell? ⟨g2,i * 11+9,none⟩=some (.string ⟨zs.toArray⟩):=hcell 9 (by decide)
     have e10:wr.cell? ⟨g2,i * 11+10,none⟩=some zl:=hcell 10 (by decide)
     have hzE:((⟨E.toArray⟩:ByteArray).size)=E.length:=(Tx.of E).size
     have HT:Hid (Tx (((T++⟨#[32,32]⟩)++⟨E.toArray⟩)++⟨#[44,10]⟩) (A3++(df.take (i+1)).flatMap (fldL tn sh))):=by
      unfold Hid
      rw [hst]
      have h:=((HS.out.cat (Tx.of [32,32])).cat (Tx.of E)).cat (Tx.of [44,10])
      simp only [List.append_assoc] at h ⊢
      exact h
     clear hcs hcell hrc hst hle hoki hfl2 hE hZ HFA3 HAS3 HRS HOS HRI HFR HFL HS3 hfl hsl
     go_wp2_with fail
     refine hcall.out.mono ?_;rintro e w5 ⟨rfl,hn5⟩
     go_wp2_with fail
     go_roundw
     case rel=>exact ⟨i+1,_,by go_num,rfl,hlt,HT,HNX.out.trans hn5⟩
     case measure=>simp [intOf];omega
    ·obtain rfl:i=df.length:=by omega
     have q1:decide ((df.length:Int)<(df.length:Int))=false:=decide_eq_false (by omega)
     go_upto_region 23 with fail
     have HN4:=Lib.hid (HN3.out.trans HNX.out)
     have HB4:=Lib.hid (HB3.out.below HNX.out)
     have HS4:Hid (Tx T (A3++df.flatMap (fldL tn sh))):=by
      have h:=HS.out
      rw [List.take_length] at h
      exact h
     obtain ⟨A4,hA4⟩:∃ A4,Hid (A3++df.flatMap (fldL tn sh)=A4):=⟨_,Lib.hid rfl⟩
     have hAs4:A4.length+(ds.flatMap (methodF tn sh)).length+2≤1000000000:=by
      rw [← hA4.out,List.length_append];exact HAS3.out
     have HAS4:=Lib.hid hAs4
     have HFA4:Hid (F=(A4++ds.flatMap (methodF tn sh))++[125,10]):=by rw [← hA4.out];exact HFA3.out
     rw [hA4.out] at HS4
     obtain ⟨sA,scp,sz,rfl,hszl,hszc,hszm,hsrd,hsall⟩:=HRS.out.sl metA_size
     have HSR:=Lib.hid hsrd
     have HSL:=Lib.hid hsall
     clear HS HNX HAS3 HFA3 hA4 hAs4 HFR HFL HOF hsrd hsall HRS k8 q1 hi hlt hiI HB3 HN3 hfzl hfzc hfzm HS3 hfl
     generalize wr=W4 at *
     go_wp2_with fail
     go_loopw [4,7] (fun sv iv wr=>∃ (i:Nat) (S:ByteArray),iv = .int .i64 (i:Int)∧sv = .string S∧i≤ds.length∧Hid (Tx S (A4++(ds.take i).flatMap (methodF tn sh)))∧Nx W4 wr) (fun _ iv _=>200000 - (intOf iv).toNat)
     case atStart=>exact ⟨0,_,rfl,rfl,Nat.zero_le _,by unfold Hid;simpa using HS4.out,Nx.refl _⟩
     case round =>
      obtain ⟨i,U,rfl,rfl,hi,HS,hn⟩:=hrel
      have HNX:=Lib.hid hn
      have hiI:(i:Int)≤100000:=by omega
      have k11:wr.cell? ⟨g,11,none⟩=some (.slice sA ds.length scp):=(HB4.out.below hn).cell 11
      clear hn
      by_cases hlt:i<ds.length
      ·have q1:decide ((i:Int)<(ds.length:Int))=true:=decide_eq_true (by omega)
       have q2:(i:Int)<(ds.length:Int):=by omega
       obtain ⟨hst,hle⟩:=flat_step (methodF tn sh) ds i hlt
       obtain ⟨E,hE⟩:∃ E,Hid (methodF tn sh (ds[i]'hlt)=E):=⟨_,Lib.hid rfl⟩
       rw [hE.out] at hst
       have hsz:U.size+E.length≤1000000000:=by
        have h:=HAS4.out
        rw [hst] at hle
        rw [HS.out.size]
        simp only [List.length_append,List.length_cons,List.length_nil] at hle ⊢
        omega
       obtain ⟨g2,rfl,hg2,hcs⟩:=HSR.out (by omega)
       obtain ⟨Z,hZ⟩:∃ Z,Hid (sz[i]'(by omega)=Z):=⟨_,Lib.hid rfl⟩
       have hrc:RM wr (But P (.slice (some ⟨g2,0,none⟩) ds.length scp)) Z ds[i]:=by
        have:=HSL.out.at_ i (by omega) hlt
        rw [hZ.out] at this
        exact RM.lasts ⟨fun g' _ hl=>(HN4.out.trans HNX.out).block g' hl,fun g' h _=>h⟩ this
       have hoki:=HOS.out _ (List.getElem_mem hlt)
       have hcall:=Lib.hid (docMethod_any HN.out wr _ Z ds[i] hrc hoki (by rw [hE.out];omega))
       rw [hE.out] at hcall
       obtain ⟨en,eo,er,ea,et⟩:=Z
       have hcell:∀ j,j<5→wr.cell? ⟨g2,i * 5+j,none⟩=(metA ⟨en,eo,er,ea,et⟩)[j]?:=fun j hj=>by
        rw [(HN4.out.trans HNX.out).cell (p:=⟨g2,i * 5+j,none⟩) hg2,hcs i (by omega) j hj,hZ.out]
       have e0:wr.cell? ⟨g2,i * 5,none⟩=some (.string ⟨en.toArray⟩):=hcell 0 (by decide)
       have e1:wr.cell? ⟨g2,i * 5+1,none⟩=some (.bool eo):=hcell 1 (by decide)
       have e2:wr.cell? ⟨g2,i * 5+2,none⟩=some (.string ⟨er.toArray⟩):=hcell 2 (by decide)
       have e3:wr.cell? ⟨g2,i * 5+3,none⟩=some ea:=hcell 3 (by decide)
       have e4:wr.cell? ⟨g2,i * 5+4,none⟩=some et:=hcell 4 (by decide)
       have hzE:((⟨E.toArray⟩:ByteArray).size)=E.length:=(Tx.of E).size
       have HT:Hid (Tx (U++⟨E.toArray⟩) (A4++(ds.take (i+1)).flatMap (methodF tn sh))):=by
        unfold Hid
        rw [hst,← List.append_assoc]
        exact HS.out.cat (Tx.of E)
       clear hcs hcell hrc hst hle hoki hE hZ HFA4 HAS4 HRI HSR HSL HS4 hsl HOS
       go_wp2_with fail
       refine hcall.out.mono ?_;rintro e w5 ⟨rfl,hn5⟩
       go_wp2_with fail
       go_roundw
       case rel=>exact ⟨i+1,_,by go_num,rfl,hlt,HT,HNX.out.trans hn5⟩
       case measure=>simp [intOf];omega
      ·obtain rfl:i=ds.length:=by omega
       have q1:decide ((ds.length:Int)<(ds.length:Int))=false:=decide_eq_false (by omega)
       have HE5:Hid (Tx (U++⟨#[125,10]⟩) F):=by
        have h:=HS.out
        rw [List.take_length] at h
        rw [HFA4.out]
        exact h.cat (Tx.of [125,10])
       have hu:U.size+2≤1000000000:=by
        have h:=HE5.out.size
        have h2:=HLEN.out
        rw [ByteArray.size_append] at h
        have h3:(⟨#[125,10]⟩:ByteArray).size=2:=rfl
        omega
       have HR:Hid (U++⟨#[125,10]⟩=⟨F.toArray⟩):=HE5.out.eq
       clear hlt hi
       go_wp2_with fail
       go_ret
       exact ⟨by first | rfl | (rw [HR.out];rfl),HN4.out.trans HNX.out⟩
end Go.Proofs.YtjggghfekakogaaGreatDoor
