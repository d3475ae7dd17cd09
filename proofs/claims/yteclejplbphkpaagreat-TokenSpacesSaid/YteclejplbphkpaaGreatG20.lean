/- The document's play: fields. -/
import Derived.Test.YteclejplbphkpaaGreatG18
import Derived.Test.YteclejplbphkpaaGreatG19
import Derived.Deep.Light
set_option linter.unusedVariables false
set_option linter.unusedSimpArgs false
set_option linter.unnecessarySimpa false
namespace Go.Proofs.YteclejplbphkpaaGreat
open Go.RowKit
def TypOf (pre t:List UInt8):Prop:=∃ r,t=(typP pre 3 r).1
def conO (c:ConA):Con:=.mk c.k c.n c.d c.s []
structure PFld (pre:List UInt8) (un:Bool) (i:Nat) (f:Fld):Prop where
 id:∃ n:Nat,n<3∧f.id=if f.hasID then 1+(i:Int)+(i:Int) * (n:Int) * 8 else 0
 req:f.req≤2
 ty:TypOf pre f.ty
 nm:f.nm=[102,(97+i).toUInt8]
 ini:f.hasIn=false∧f.ini=con0∨f.hasIn=true∧∃ r,f.ini=conO (initP f.ty pre r).1
 un:un=true→f.req=0∧f.hasIn=false
def AllI {α:Type} (P:Nat→α→Prop) (l:List α):Prop:=∀ j x,l[j]? = some x→P j x
theorem AllI.nil {α:Type} {P:Nat→α→Prop}:AllI P []:=fun j x h=>by simp at h
theorem AllI.snoc {α:Type} {P:Nat→α→Prop} {l:List α} {y:α} (h:AllI P l) (k:P l.length y):AllI P (l++[y]):=fun j x hx=>by
 rcases Nat.lt_or_ge j l.length with hj | hj
 ·rw [List.getElem?_append_left hj] at hx;exact h j x hx
 ·rw [List.getElem?_append_right hj] at hx
  have:j - l.length=0:=by
   rcases Nat.eq_zero_or_pos (j - l.length) with h0 | h0
   ·exact h0
   ·rw [List.getElem?_eq_none (by simp;omega)] at hx;cases hx
  rw [this] at hx
  simp at hx
  subst hx
  obtain rfl:j=l.length:=by omega
  exact k
def PkS (w:World) (b:Nat):Prop:=∃ r,Pk w b r
def reg5 (h0 b i:Nat) (cx:UInt8) (u:ByteArray) (pre:List UInt8):List (Value→World→Prop) :=
  [fun v _=>v = .pointer (some ⟨b,0,none⟩),
   fun v _=>∃ n:Nat,v = .int .i64 (n:Int)∧n<6,
   fun v _=>∃ B:Bool,v = .bool B,
   fun v _=>v = .int .i64 (i:Int),
   fun v _=>v = .int .i64 (1+(i:Int)),
   fun v _=>v = .int .i64 (i:Int),
   fun v _=>v = .pointer (some ⟨b,0,none⟩),
   fun v _=>∃ n:Nat,v = .int .i64 (n:Int)∧n<3,
   fun v _=>∃ n m:Nat,v = .int .i64 (m:Int)∧n<3∧m=i * n,
   fun v _=>∃ n m:Nat,v = .int .i64 ((m:Int) * 8)∧n<3∧m=i * n,
   fun v _=>∃ n m:Nat,v = .int .i64 (1+(i:Int)+(m:Int) * 8)∧n<3∧m=i * n,
   fun v _=>v = .pointer (some ⟨b,0,none⟩),
   fun v _=>v = .string u,
   fun v _=>∃ t T,v = .string t∧Tx t T∧TypOf pre T,
   fun v _=>v = .int .i64 (i:Int),
   fun v _=>v = .int .i64 (97+(i:Int)),
   fun v _=>v = .int .u8 (97+(i:Int)),
   fun v w=>∃ g,v = .slice (some ⟨g,0,none⟩) 1 1∧b<g∧g<w.heap.size∧w.cell? ⟨g,0,none⟩=some (.int .u8 (97+(i:Int))),
   fun v _=>v = .string ⟨#[cx]⟩,
   fun v _=>v = .string (⟨#[102]⟩++⟨#[cx]⟩),
   fun v _=>∃ (B:Bool) (n m:Nat) (t:ByteArray) (T:List UInt8),v = .agg #[.bool B,.int .i64 (1+(i:Int)+(m:Int) * 8),.int .i64 0,.string t,.string (⟨#[102]⟩++⟨#[cx]⟩),.bool false,.int .i64 0,.int .i64 0,.int .u64 0,.string ⟨#[]⟩,.slice none 0 0]∧n<3∧m=i * n∧Tx t T∧TypOf pre T,
   fun v w=>∃ g cs,v = .pointer (some ⟨g,0,none⟩)∧h0≤g∧g<w.heap.size∧cs.size=11∧Blk w g g cs 75]
set_option maxHeartbeats 3200000 in
theorem Blk.put11 {w:World} {B g:Nat} {T:TypeId} {cs:Array Value} {v0 v1 v2 v3 v4 v5 v6 v7 v8 v9 v10:Value} (h:Blk w B g cs T) (hs:cs.size=11) :
  Blk (((((((((((w.setCell ⟨g,0,none⟩ v0).setCell ⟨g,1,none⟩ v1).setCell ⟨g,2,none⟩ v2).setCell ⟨g,3,none⟩ v3).setCell ⟨g,4,none⟩ v4).setCell ⟨g,5,none⟩ v5).setCell ⟨g,6,none⟩ v6).setCell ⟨g,7,none⟩ v7).setCell ⟨g,8,none⟩ v8).setCell ⟨g,9,none⟩ v9).setCell ⟨g,10,none⟩ v10) B g #[v0,v1,v2,v3,v4,v5,v6,v7,v8,v9,v10] T:=by
 have hx:∃ c0 c1 c2 c3 c4 c5 c6 c7 c8 c9 c10,cs=#[c0,c1,c2,c3,c4,c5,c6,c7,c8,c9,c10]:=by
  obtain ⟨l⟩:=cs
  simp at hs
  match l,hs with
  | [c0,c1,c2,c3,c4,c5,c6,c7,c8,c9,c10],_=>exact ⟨_,_,_,_,_,_,_,_,_,_,_,rfl⟩
 obtain ⟨c0,c1,c2,c3,c4,c5,c6,c7,c8,c9,c10,rfl⟩:=hx
 have h0:Blk (w.setCell ⟨g,0,none⟩ v0) B g #[v0,c1,c2,c3,c4,c5,c6,c7,c8,c9,c10] T:=h.put 0 v0
 have h1:Blk ((w.setCell ⟨g,0,none⟩ v0).setCell ⟨g,1,none⟩ v1) B g #[v0,v1,c2,c3,c4,c5,c6,c7,c8,c9,c10] T:=h0.put 1 v1
 have h2:Blk (((w.setCell ⟨g,0,none⟩ v0).setCell ⟨g,1,none⟩ v1).setCell ⟨g,2,none⟩ v2) B g #[v0,v1,v2,c3,c4,c5,c6,c7,c8,c9,c10] T:=h1.put 2 v2
 have h3:Blk ((((w.setCell ⟨g,0,none⟩ v0).setCell ⟨g,1,none⟩ v1).setCell ⟨g,2,none⟩ v2).setCell ⟨g,3,none⟩ v3) B g #[v0,v1,v2,v3,c4,c5,c6,c7,c8,c9,c10] T:=h2.put 3 v3
 have h4:Blk (((((w.setCell ⟨g,0,none⟩ v0).setCell ⟨g,1,none⟩ v1).setCell ⟨g,2,none⟩ v2).setCell ⟨g,3,none⟩ v3).setCell ⟨g,4,none⟩ v4) B g #[v0,v1,v2,v3,v4,c5,c6,c7,c8,c9,c10] T:=h3.put 4 v4
 have h5:Blk ((((((w.setCell ⟨g,0,none⟩ v0).setCell ⟨g,1,none⟩ v1).setCell ⟨g,2,none⟩ v2).setCell ⟨g,3,none⟩ v3).setCell ⟨g,4,none⟩ v4).setCell ⟨g,5,none⟩ v5) B g #[v0,v1,v2,v3,v4,v5,c6,c7,c8,c9,c10] T:=h4.put 5 v5
 have h6:Blk (((((((w.setCell ⟨g,0,none⟩ v0).setCell ⟨g,1,none⟩ v1).setCell ⟨g,2,none⟩ v2).setCell ⟨g,3,none⟩ v3).setCell ⟨g,4,none⟩ v4).setCell ⟨g,5,none⟩ v5).setCell ⟨g,6,none⟩ v6) B g #[v0,v1,v2,v3,v4,v5,v6,c7,c8,c9,c10] T:=h5.put 6 v6
 have h7:Blk ((((((((w.setCell ⟨g,0,none⟩ v0).setCell ⟨g,1,none⟩ v1).setCell ⟨g,2,none⟩ v2).setCell ⟨g,3,none⟩ v3).setCell ⟨g,4,none⟩ v4).setCell ⟨g,5,none⟩ v5).setCell ⟨g,6,none⟩ v6).setCell ⟨g,7,none⟩ v7) B g #[v0,v1,v2,v3,v4,v5,v6,v7,c8,c9,c10] T:=h6.put 7 v7
 have h8:Blk (((((((((w.setCell ⟨g,0,none⟩ v0).setCell ⟨g,1,none⟩ v1).setCell ⟨g,2,none⟩ v2).setCell ⟨g,3,none⟩ v3).setCell ⟨g,4,none⟩ v4).setCell ⟨g,5,none⟩ v5).setCell ⟨g,6,none⟩ v6).setCell ⟨g,7,none⟩ v7).setCell ⟨g,8,none⟩ v8) B g #[v0,v1,v2,v3,v4,v5,v6,v7,v8,c9,c10] T:=h7.put 8 v8
 have h9:Blk ((((((((((w.setCell ⟨g,0,none⟩ v0).setCell ⟨g,1,none⟩ v1).setCell ⟨g,2,none⟩ v2).setCell ⟨g,3,none⟩ v3).setCell ⟨g,4,none⟩ v4).setCell ⟨g,5,none⟩ v5).setCell ⟨g,6,none⟩ v6).setCell ⟨g,7,none⟩ v7).setCell ⟨g,8,none⟩ v8).setCell ⟨g,9,none⟩ v9) B g #[v0,v1,v2,v3,v4,v5,v6,v7,v8,v9,c10] T:=h8.put 9 v9
 have h10:Blk (((((((((((w.setCell ⟨g,0,none⟩ v0).setCell ⟨g,1,none⟩ v1).setCell ⟨g,2,none⟩ v2).setCell ⟨g,3,none⟩ v3).setCell ⟨g,4,none⟩ v4).setCell ⟨g,5,none⟩ v5).setCell ⟨g,6,none⟩ v6).setCell ⟨g,7,none⟩ v7).setCell ⟨g,8,none⟩ v8).setCell ⟨g,9,none⟩ v9).setCell ⟨g,10,none⟩ v10) B g #[v0,v1,v2,v3,v4,v5,v6,v7,v8,v9,v10] T:=h9.put 10 v10
 exact h10
theorem Pk.put11 {w:World} {b g:Nat} {r:List UInt8} {v0 v1 v2 v3 v4 v5 v6 v7 v8 v9 v10:Value} (h:Pk w b r) (hg:b<g) :
  Pk (((((((((((w.setCell ⟨g,0,none⟩ v0).setCell ⟨g,1,none⟩ v1).setCell ⟨g,2,none⟩ v2).setCell ⟨g,3,none⟩ v3).setCell ⟨g,4,none⟩ v4).setCell ⟨g,5,none⟩ v5).setCell ⟨g,6,none⟩ v6).setCell ⟨g,7,none⟩ v7).setCell ⟨g,8,none⟩ v8).setCell ⟨g,9,none⟩ v9).setCell ⟨g,10,none⟩ v10) b r :=
 ((((((h.put5 hg).put hg 5 v5).put hg 6 v6).put hg 7 v7).put hg 8 v8).put hg 9 v9).put hg 10 v10
theorem Oth.put11 {w w':World} {b g:Nat} {v0 v1 v2 v3 v4 v5 v6 v7 v8 v9 v10:Value} (h:Oth b w w') (hk:w.heap.size≤g) :
  Oth b w (((((((((((w'.setCell ⟨g,0,none⟩ v0).setCell ⟨g,1,none⟩ v1).setCell ⟨g,2,none⟩ v2).setCell ⟨g,3,none⟩ v3).setCell ⟨g,4,none⟩ v4).setCell ⟨g,5,none⟩ v5).setCell ⟨g,6,none⟩ v6).setCell ⟨g,7,none⟩ v7).setCell ⟨g,8,none⟩ v8).setCell ⟨g,9,none⟩ v9).setCell ⟨g,10,none⟩ v10) :=
 ((((((h.put5 hk).put hk 5 v5).put hk 6 v6).put hk 7 v7).put hk 8 v8).put hk 9 v9).put hk 10 v10
theorem bv_letter (i:Nat) (hi:i≤100):bv (97+i).toUInt8 = .int .u8 (97+(i:Int)):=by
 have h:(97+i).toUInt8.toNat=97+i:=by
  rw [Nat.toUInt8,UInt8.toNat_ofNat']
  omega
 unfold bv
 rw [h]
 exact congrArg (Value.int .u8) (by omega)
structure PS (b g:Nat) (w0 w:World) (cs:Array Value) (r:List UInt8):Prop where
 blk:Blk w g g cs 75
 pk:Pk w b r
 oth:Oth b w0 w
theorem PS.put {b g:Nat} {w0 w:World} {cs:Array Value} {r:List UInt8} (h:PS b g w0 w cs r) (hgb:b<g) (hgw:w0.heap.size≤g) (i:Nat) (v:Value):PS b g w0 (w.setCell ⟨g,i,none⟩ v) (cs.setIfInBounds i v) r :=
 ⟨h.blk.put i v,h.pk.put hgb i v,h.oth.put hgw i v⟩
theorem PS.nx {b g:Nat} {w0 w w':World} {cs:Array Value} {r:List UInt8} (h:PS b g w0 w cs r) (hn:Nx w w'):PS b g w0 w' cs r :=
 ⟨h.blk.below hn,h.pk.nx hn,h.oth.trans (Oth.nx hn)⟩
theorem PS.step {b g:Nat} {w0 w w':World} {cs:Array Value} {r r':List UInt8} (h:PS b g w0 w cs r) (hgb:b<g) (ho:Oth b w w') (hp:Pk w' b r'):PS b g w0 w' cs r' :=
 ⟨ho.blk h.blk (by omega),hp,h.oth.trans ho⟩
theorem PS.ce {b g:Nat} {w0 w:World} {cs:Array Value} {r:List UInt8} (h:PS b g w0 w cs r) (i:Nat):w.cell? ⟨g,i,none⟩=cs[i]?:=h.blk.cell i
theorem PS.fr {b g:Nat} {w0 w:World} {cs:Array Value} {r:List UInt8} (h:PS b g w0 w cs r) (i:Nat):w.frozen? ⟨g,i,none⟩=false:=h.blk.free i
def conZ:ConS:=⟨0,0,0,[],.slice none 0 0⟩
def conOS (c:ConA):ConS:=⟨c.k,c.n,c.d,c.s,.slice none 0 0⟩
def IniOf (pre T:List UInt8) (hI:Bool) (x:ConS) (c:Con):Prop:=hI=false∧x=conZ∧c=con0∨hI=true∧∃ r,x=conOS (initP T pre r).1∧c=conO (initP T pre r).1
theorem Pk.keep {w w':World} {b:Nat} {r:List UInt8} (h:Pk w b r) (hk:∀ k,k≤b→w'.heap[k]? = w.heap[k]?):Pk w' b r:=by
 obtain ⟨A,c,n,xs,hB,h1,h2,h3,h4⟩:=h
 refine ⟨A,c,n,xs,⟨hB.1,(hk b (Nat.le_refl _)).trans hB.2⟩,h1,h2,h3,fun h=>?_⟩
 obtain ⟨ab,off,e,hab,hc⟩:=h4 h
 refine ⟨ab,off,e,hab,fun j hj=>?_⟩
 rw [← hc j hj]
 unfold World.cell?
 simp only
 rw [hk ab (Nat.le_of_lt hab)]
theorem IniOf.nil {pre T:List UInt8} {hI:Bool} {k d:Nat} {n:Int} {s:List UInt8} {l:Value} {c:Con} (h:IniOf pre T hI ⟨k,n,d,s,l⟩ c):l = .slice none 0 0∧c = .mk k n d s []∧(hI=false∧c=con0∨hI=true∧∃ r,c=conO (initP T pre r).1):=by
 rcases h with ⟨h1,h2,h3⟩ | ⟨h1,r,h2,h3⟩
 ·simp only [conZ,ConS.mk.injEq] at h2
  obtain ⟨rfl,rfl,rfl,rfl,rfl⟩:=h2
  exact ⟨rfl,h3,.inl ⟨h1,h3⟩⟩
 ·simp only [conOS,ConS.mk.injEq] at h2
  obtain ⟨rfl,rfl,rfl,rfl,rfl⟩:=h2
  exact ⟨rfl,h3,.inr ⟨h1,r,h3⟩⟩
def PFldsR (pre:List UInt8) (un:Bool) (b:Nat) (w:World) (B:Nat) (v:Value) (w':World):Prop :=
 ∃ (fs:List Fld) (r':List UInt8),LF w' (Fm B) v fs∧AllI (PFld pre un) fs∧fs.length≤21∧(un=true→0<fs.length)∧Pk w' b r'∧Oth b w w'
set_option maxRecDepth 100000 in
set_option maxHeartbeats 12800000 in
theorem plFields_any (b most:Nat) (u:ByteArray) (pre:List UInt8) (un:Bool) (r:List UInt8) (w:World) (hu:Tx u pre) (hpre:(pre.length:Int)≤1000) (hm:(most:Int)≤20) (hP:Pk w b r) :
  Calls Tryz.prog 24 #[.pointer (some ⟨b,0,none⟩),.int .i64 (most:Int),.string u,.bool un] w fun e w'=>∃ v,e = .returned v∧PFldsR pre un b w w.heap.size v w':=by
 have HU:=Lib.hid hu
 obtain ⟨B0,hB0e⟩:∃ B0,w.heap.size=B0:=⟨_,rfl⟩
 rw [hB0e]
 clear hu
 go_enter Tryz.func24,Tryz.ntmps24
 go_wp2_with fail
 have em:((most+1:Nat):Int)=(most:Int)+1:=by omega
 have hn:=num_any b (most+1) r w hP (by omega) (by omega)
 rw [em] at hn
 have hb0:b<w.heap.size:=hP.lt
 refine hn.mono ?_;rintro e w1 ⟨rfl,hP1,hO1⟩
 have hkn:=numP_lt (most+1) (by omega) r
 obtain ⟨n,r1,hN⟩:∃ n r1,numP (most+1) r=(n,r1):=⟨_,_,rfl⟩
 rw [hN] at hP1 hkn ⊢
 dsimp only at hP1 hkn ⊢
 have HP1:=Lib.hid hP1
 have HO1:=Lib.hid hO1
 have hb:b<w1.heap.size:=hP1.lt
 have hB0:w.heap.size≤w1.heap.size:=hO1.size
 rw [hB0e] at hb0 hB0
 have HWB:Hid (w.heap.size=B0):=hB0e
 clear hn hN hP1 hO1 em hP hB0e
 go_wp2_with fail
 go_loopw [9,10] (fun lv iv wr=>∃ (i:Nat) (fs:List Fld) (r':List UInt8),iv = .int .i64 (i:Int)∧i≤21∧Pk wr b r'∧LF wr (Fm B0) lv fs∧fs.length=i∧AllI (PFld pre un) fs∧Oth b w wr) (fun _ iv _=>(100 - intOf iv).toNat)
 case atStart=>exact ⟨0,[],r1,rfl,Nat.zero_le _,HP1.out,RepL.nil_,rfl,AllI.nil,HO1.out⟩
 case round =>
  obtain ⟨i,fs,r2,rfl,hi,hP2,hlf,hfl,hall,hO2⟩:=hrel
  by_cases hlt:i<n∨(un=true∧i=0)
  ·have HB:Hid ((decide ((i:Int)<(n:Int))=true∧decide (i<n)=true)∨(decide ((i:Int)<(n:Int))=false∧decide (i<n)=false∧un=true∧((i:Int) == 0)=true)):=by
    rcases hlt with h | ⟨h1,h2⟩
    ·exact .inl ⟨decide_eq_true (by omega),decide_eq_true h⟩
    ·by_cases h:i<n
     ·exact .inl ⟨decide_eq_true (by omega),decide_eq_true h⟩
     ·exact .inr ⟨decide_eq_false (by omega),decide_eq_false h,h1,by subst h2;rfl⟩
   have hi20:(i:Int)≤20:=by omega
   obtain ⟨lA,lc,-,rfl,-,-,-,-,-⟩:=hlf.sl fldA_size
   have HFL:=Lib.hid hfl
   have HP2:=Lib.hid hP2
   have HLF:=Lib.hid hlf
   have HO2:=Lib.hid hO2
   have HALL:=Lib.hid hall
   clear hP2 hlf hO2 hlt hall hfl
   go_upto_region 3 with fail
   go_cut [26] (fun v wx=>v = .bool true∧wr=wx)
   case first =>
    rcases HB.out with ⟨q1,q2⟩ | ⟨q1,q2,rfl,q3⟩
    ·go_wp2_with fail
     go_meet
     case rel=>exact ⟨rfl,rfl⟩
    ·go_wp2_with fail
     go_meet
     case rel=>exact ⟨rfl,rfl⟩
   case rest =>
    obtain ⟨rfl,rfl⟩:=hcut
    obtain ⟨cx,hcx⟩:∃ cx,Hid ((97+i).toUInt8=cx):=⟨_,rfl⟩
    have hbc:Hid (bv cx = .int .u8 (97+(i:Int))):=by unfold Hid;rw [← hcx.out];exact bv_letter i (by omega)
    have hbr:b<wr.heap.size:=HP2.out.lt
    go_upto_region 5 with fail
    go_cut [12] (fun v wx=>∃ (g nn:Nat) (B:Bool) (T:List UInt8) (r3:List UInt8),v = .pointer (some ⟨g,0,none⟩)∧Blk wx g g (fldA ⟨B,1+(i:Int)+(i:Int) * (nn:Int) * 8,0,T,[102,cx],false,⟨0,0,0,[],.slice none 0 0⟩⟩) 75∧wr.heap.size≤g∧nn<3∧TypOf pre T∧Pk wx b r3∧Oth b wr wx)
    case first =>
     rename_i J K2 h1 h2;revert h1 h2;go_light;intro h1 h2
     refine RI.wp_region_all (RI.Vof (reg5 wr.heap.size b i cx u pre)) (fun w'=>PkS w' b∧Oth b wr w') (fun w1 w2=>Oth b w1 w2) rfl (by kernel_rfl) (by kernel_rfl) ?_ ?_ ?_
     ·refine RI.Vof.keeps ?_
      intro p hp v w1 w2 hv ho
      simp only [reg5,List.mem_cons,List.not_mem_nil,or_false] at hp
      rcases hp with rfl | rfl | rfl | rfl | rfl | rfl | rfl | rfl | rfl | rfl | rfl | rfl | rfl | rfl | rfl | rfl | rfl | rfl | rfl | rfl | rfl | rfl
      all_goals first | exact hv | skip
      ·obtain ⟨g,e1,e2,e3,e4⟩:=hv
       refine ⟨g,e1,e2,Nat.lt_of_lt_of_le e3 ho.size,?_⟩
       rw [← e4]
       unfold World.cell?
       simp only
       rw [ho.block g e3 (by omega)]
      ·obtain ⟨g,cs,e1,e2,e3,e4,e5⟩:=hv
       exact ⟨g,cs,e1,e2,Nat.lt_of_lt_of_le e3 ho.size,e4,ho.blk e5 (by omega)⟩
     ·exact ⟨⟨_,HP2.out.nx (Nx.drawn _)⟩,Oth.nx (Nx.drawn _)⟩
     ·refine ⟨?_,?_,?_,?_,?_,?_,?_,?_,?_,?_,?_,?_,?_,?_,?_,?_,?_,?_,?_,?_,?_,?_,?_⟩
      ·intro a x w' hS hin hout hd K hK
       have o:a.eval (.tmp 0) = .pointer (some ⟨b,0,none⟩):=hout 0 (by kernel_rfl)
       clear hin hout
       exact hK w' _ o hS (Oth.refl _ _)
      ·intro a x w' hS hin hout hd K hK
       have i29:a.tmps.getD 29 undef = .pointer (some ⟨b,0,none⟩):=(hin 29 0 (by kernel_rfl) (show 29<100 by decide)).trans (hd ⟨0,.data⟩ (by simp) rfl)
       clear hin hout hd
       obtain ⟨⟨r3,hp3⟩,hO3⟩:=hS
       have HP3:=Lib.hid hp3
       have HO3:=Lib.hid hO3
       clear hp3 hO3
       go_simp
       refine (num_any b 6 r3 w' HP3.out (by decide) (by decide)).mono ?_;rintro e w2 ⟨rfl,hq1,hq2⟩
       exact hK w2 _ ⟨_,rfl,numP_lt 6 (by decide) r3⟩ ⟨⟨_,hq1⟩,HO3.out.trans hq2⟩ hq2
      ·intro a x w' hS hin hout hd K hK
       obtain ⟨n1,q1,q2⟩:=hd ⟨1,.data⟩ (by simp) rfl
       have i30:a.tmps.getD 30 undef = .int .i64 (n1:Int):=(hin 30 1 (by kernel_rfl) (show 30<100 by decide)).trans q1
       clear q1
       clear hin hout hd
       have HS:=Lib.hid hS
       clear hS
       go_simp
       exact hK w' _ ⟨_,rfl⟩ HS.out (Oth.refl _ _)
      ·intro a x w' hS hin hout hd K hK
       have o:a.eval (.tmp 10) = .int .i64 (i:Int):=hout 10 (by kernel_rfl)
       clear hin hout
       exact hK w' _ o hS (Oth.refl _ _)
      ·intro a x w' hS hin hout hd K hK
       have i32:a.tmps.getD 32 undef = .int .i64 (i:Int):=(hin 32 3 (by kernel_rfl) (show 32<100 by decide)).trans (hd ⟨3,.data⟩ (by simp) rfl)
       have hwm:IntKind.i64.wrap (1+(i:Int))=1+(i:Int):=by rw [IntKind.wrap_i64];omega
       clear hin hout hd
       have HS:=Lib.hid hS
       clear hS
       go_simp
       exact hK w' _ rfl HS.out (Oth.refl _ _)
      ·intro a x w' hS hin hout hd K hK
       have o:a.eval (.tmp 10) = .int .i64 (i:Int):=hout 10 (by kernel_rfl)
       clear hin hout
       exact hK w' _ o hS (Oth.refl _ _)
      ·intro a x w' hS hin hout hd K hK
       have o:a.eval (.tmp 0) = .pointer (some ⟨b,0,none⟩):=hout 0 (by kernel_rfl)
       clear hin hout
       exact hK w' _ o hS (Oth.refl _ _)
      ·intro a x w' hS hin hout hd K hK
       have i35:a.tmps.getD 35 undef = .pointer (some ⟨b,0,none⟩):=(hin 35 6 (by kernel_rfl) (show 35<100 by decide)).trans (hd ⟨6,.data⟩ (by simp) rfl)
       clear hin hout hd
       obtain ⟨⟨r3,hp3⟩,hO3⟩:=hS
       have HP3:=Lib.hid hp3
       have HO3:=Lib.hid hO3
       clear hp3 hO3
       go_simp
       refine (num_any b 3 r3 w' HP3.out (by decide) (by decide)).mono ?_;rintro e w2 ⟨rfl,hq1,hq2⟩
       exact hK w2 _ ⟨_,rfl,numP_lt 3 (by decide) r3⟩ ⟨⟨_,hq1⟩,HO3.out.trans hq2⟩ hq2
      ·intro a x w' hS hin hout hd K hK
       have i34:a.tmps.getD 34 undef = .int .i64 (i:Int):=(hin 34 5 (by kernel_rfl) (show 34<100 by decide)).trans (hd ⟨5,.data⟩ (by simp) rfl)
       obtain ⟨n1,q1,q2⟩:=hd ⟨7,.data⟩ (by simp) rfl
       have i36:a.tmps.getD 36 undef = .int .i64 (n1:Int):=(hin 36 7 (by kernel_rfl) (show 36<100 by decide)).trans q1
       obtain ⟨m,hm⟩:∃ m,i * n1=m:=⟨_,rfl⟩
       have hmI:(i:Int) * (n1:Int)=(m:Int):=by rw [← hm];exact (Int.natCast_mul _ _).symm
       have hm60:(m:Int)≤60:=by
        have:i * n1≤20 * 3:=Nat.mul_le_mul (by omega) (by omega)
        omega
       have hwm:IntKind.i64.wrap (m:Int)=(m:Int):=by rw [IntKind.wrap_i64];omega
       have HM:=Lib.hid hm
       clear q1 hm
       clear hin hout hd
       have HS:=Lib.hid hS
       clear hS
       go_simp
       exact hK w' _ ⟨n1,m,rfl,q2,HM.out.symm⟩ HS.out (Oth.refl _ _)
      ·intro a x w' hS hin hout hd K hK
       obtain ⟨n1,m,q1,q2,q3⟩:=hd ⟨8,.data⟩ (by simp) rfl
       have i37:a.tmps.getD 37 undef = .int .i64 (m:Int):=(hin 37 8 (by kernel_rfl) (show 37<100 by decide)).trans q1
       have hm60:(m:Int)≤60:=by
        have:i * n1≤20 * 3:=Nat.mul_le_mul (by omega) (by omega)
        omega
       have hwm:IntKind.i64.wrap ((m:Int) * 8)=(m:Int) * 8:=by rw [IntKind.wrap_i64];omega
       have HM:=Lib.hid q3
       clear q1 q3
       clear hin hout hd
       have HS:=Lib.hid hS
       clear hS
       go_simp
       exact hK w' _ ⟨n1,m,rfl,q2,HM.out⟩ HS.out (Oth.refl _ _)
      ·intro a x w' hS hin hout hd K hK
       have i33:a.tmps.getD 33 undef = .int .i64 (1+(i:Int)):=(hin 33 4 (by kernel_rfl) (show 33<100 by decide)).trans (hd ⟨4,.data⟩ (by simp) rfl)
       obtain ⟨n1,m,q1,q2,q3⟩:=hd ⟨9,.data⟩ (by simp) rfl
       have i38:a.tmps.getD 38 undef = .int .i64 ((m:Int) * 8):=(hin 38 9 (by kernel_rfl) (show 38<100 by decide)).trans q1
       have hm60:(m:Int)≤60:=by
        have:i * n1≤20 * 3:=Nat.mul_le_mul (by omega) (by omega)
        omega
       have hwm:IntKind.i64.wrap (1+(i:Int)+(m:Int) * 8)=1+(i:Int)+(m:Int) * 8:=by rw [IntKind.wrap_i64];omega
       have HM:=Lib.hid q3
       clear q1 q3
       clear hin hout hd
       have HS:=Lib.hid hS
       clear hS
       go_simp
       exact hK w' _ ⟨n1,m,rfl,q2,HM.out⟩ HS.out (Oth.refl _ _)
      ·intro a x w' hS hin hout hd K hK
       have o:a.eval (.tmp 0) = .pointer (some ⟨b,0,none⟩):=hout 0 (by kernel_rfl)
       clear hin hout
       exact hK w' _ o hS (Oth.refl _ _)
      ·intro a x w' hS hin hout hd K hK
       have o:a.eval (.tmp 2) = .string u:=hout 2 (by kernel_rfl)
       clear hin hout
       exact hK w' _ o hS (Oth.refl _ _)
      ·intro a x w' hS hin hout hd K hK
       have i40:a.tmps.getD 40 undef = .pointer (some ⟨b,0,none⟩):=(hin 40 11 (by kernel_rfl) (show 40<100 by decide)).trans (hd ⟨11,.data⟩ (by simp) rfl)
       have i41:a.tmps.getD 41 undef = .string u:=(hin 41 12 (by kernel_rfl) (show 41<100 by decide)).trans (hd ⟨12,.data⟩ (by simp) rfl)
       clear hin hout hd
       obtain ⟨⟨r3,hp3⟩,hO3⟩:=hS
       have HP3:=Lib.hid hp3
       have HO3:=Lib.hid hO3
       clear hp3 hO3
       go_simp
       refine (typ_any b u pre HU.out hpre 3 0 r3 w' rfl HP3.out).mono ?_;rintro e w2 ⟨t,rfl,ht,hq1,hq2⟩
       exact hK w2 _ ⟨t,_,rfl,ht,_,rfl⟩ ⟨⟨_,hq1⟩,HO3.out.trans hq2⟩ hq2
      ·intro a x w' hS hin hout hd K hK
       have o:a.eval (.tmp 10) = .int .i64 (i:Int):=hout 10 (by kernel_rfl)
       clear hin hout
       exact hK w' _ o hS (Oth.refl _ _)
      ·intro a x w' hS hin hout hd K hK
       have i43:a.tmps.getD 43 undef = .int .i64 (i:Int):=(hin 43 14 (by kernel_rfl) (show 43<100 by decide)).trans (hd ⟨14,.data⟩ (by simp) rfl)
       have hwm:IntKind.i64.wrap (97+(i:Int))=97+(i:Int):=by rw [IntKind.wrap_i64];omega
       clear hin hout hd
       have HS:=Lib.hid hS
       clear hS
       go_simp
       exact hK w' _ rfl HS.out (Oth.refl _ _)
      ·intro a x w' hS hin hout hd K hK
       have i44:a.tmps.getD 44 undef = .int .i64 (97+(i:Int)):=(hin 44 15 (by kernel_rfl) (show 44<100 by decide)).trans (hd ⟨15,.data⟩ (by simp) rfl)
       have hw8:IntKind.u8.wrap (97+(i:Int))=97+(i:Int):=by rw [IntKind.wrap_u8];omega
       clear hin hout hd
       have HS:=Lib.hid hS
       clear hS
       go_simp
       exact hK w' _ rfl HS.out (Oth.refl _ _)
      ·intro a x w' hS hin hout hd K hK
       have i45:a.tmps.getD 45 undef = .int .u8 (97+(i:Int)):=(hin 45 16 (by kernel_rfl) (show 45<100 by decide)).trans (hd ⟨16,.data⟩ (by simp) rfl)
       have j45:=i45
       rw [Array.getD_eq_getD_getElem?] at j45
       clear hin hout hd
       obtain ⟨⟨r3,hp3⟩,hO3⟩:=hS
       have HP3:=Lib.hid hp3
       have HO3:=Lib.hid hO3
       clear hp3 hO3
       go_simp
       exact hK (w'.alloc (.cells #[.int .u8 (97+(i:Int))] 5)) (.slice (some ⟨w'.heap.size,0,none⟩) 1 1) ⟨_,rfl,HP3.out.lt,by simp,(Blk.new w' #[.int .u8 (97+(i:Int))] 5).cell 0⟩ ⟨⟨_,HP3.out.nx (nx0 _ _)⟩,HO3.out.trans (Oth.nx (nx0 _ _))⟩ (Oth.nx (nx0 _ _))
      ·intro a x w' hS hin hout hd K hK
       obtain ⟨g1,q1,q2,q3,q4⟩:=hd ⟨17,.data⟩ (by simp) rfl
       have i46:a.eval (.tmp 46) = .slice (some ⟨g1,0,none⟩) 1 1:=(hin 46 17 (by kernel_rfl) (show 46<100 by decide)).trans q1
       clear hin hout hd q1
       have hr:Rd bv w' (some ⟨g1,0,none⟩) [cx]:=by
        intro _
        refine ⟨g1,0,rfl,q3,fun j hj=>?_⟩
        obtain rfl:j=0:=by simp at hj;omega
        rw [show (0+0:Nat)=0 from rfl,q4]
        exact congrArg some hbc.out.symm
       have hrun:=conv_str (P:=Tryz.prog) w' 22 9 5 Tryz.underlying22 Tryz.underlying5 Tryz.underlying9 hr 1
       unfold Oper.wp execOp
       simp only [i46,Sem.run_bind,Sem.run_pure,Result.andThen_ok]
       rw [show ([cx]:List UInt8).length=1 from rfl] at hrun
       rw [hrun]
       exact hK w' _ rfl hS (Oth.refl _ _)
      ·intro a x w' hS hin hout hd K hK
       have i47:a.tmps.getD 47 undef = .string ⟨#[cx]⟩:=(hin 47 18 (by kernel_rfl) (show 47<100 by decide)).trans (hd ⟨18,.data⟩ (by simp) rfl)
       clear hin hout hd
       have HS:=Lib.hid hS
       clear hS
       go_simp
       exact hK w' _ rfl HS.out (Oth.refl _ _)
      ·intro a x w' hS hin hout hd K hK
       obtain ⟨B,q1⟩:=hd ⟨2,.data⟩ (by simp) rfl
       have i31:a.tmps.getD 31 undef = .bool B:=(hin 31 2 (by kernel_rfl) (show 31<100 by decide)).trans q1
       obtain ⟨n1,m,p1,p2,p3⟩:=hd ⟨10,.data⟩ (by simp) rfl
       have i39:a.tmps.getD 39 undef = .int .i64 (1+(i:Int)+(m:Int) * 8):=(hin 39 10 (by kernel_rfl) (show 39<100 by decide)).trans p1
       obtain ⟨t,T,s1,s2,s3⟩:=hd ⟨13,.data⟩ (by simp) rfl
       have i42:a.tmps.getD 42 undef = .string t:=(hin 42 13 (by kernel_rfl) (show 42<100 by decide)).trans s1
       have i48:a.tmps.getD 48 undef = .string (⟨#[102]⟩++⟨#[cx]⟩):=(hin 48 19 (by kernel_rfl) (show 48<100 by decide)).trans (hd ⟨19,.data⟩ (by simp) rfl)
       have j31:=i31
       rw [Array.getD_eq_getD_getElem?] at j31
       have j39:=i39
       rw [Array.getD_eq_getD_getElem?] at j39
       have j42:=i42
       rw [Array.getD_eq_getD_getElem?] at j42
       have j48:=i48
       rw [Array.getD_eq_getD_getElem?] at j48
       have HA:=Lib.hid s2
       have HB2:=Lib.hid s3
       have HM:=Lib.hid p3
       clear q1 p1 p3 s1 s2 s3
       clear hin hout hd
       have HS:=Lib.hid hS
       clear hS
       go_simp
       exact hK w' _ ⟨B,n1,m,t,T,rfl,p2,HM.out,HA.out,HB2.out⟩ HS.out (Oth.refl _ _)
      ·intro a x w' hS hin hout hd K hK
       clear hin hout hd
       obtain ⟨⟨r3,hp3⟩,hO3⟩:=hS
       have HP3:=Lib.hid hp3
       have HO3:=Lib.hid hO3
       clear hp3 hO3
       go_simp
       exact hK (w'.alloc _) _ ⟨_,_,rfl,HO3.out.size,by simp,rfl,Blk.new _ _ _⟩ ⟨⟨_,HP3.out.nx (nx0 _ _)⟩,HO3.out.trans (Oth.nx (nx0 _ _))⟩ (Oth.nx (nx0 _ _))
      ·intro AA x w' hS hin hout hV HAA
       have h21:=hV 21 (by decide)
       have h20:=hV 20 (by decide)
       have i12:AA.eval (.tmp 12)=x 21:=hin 12 21 (by kernel_rfl) (show 12<100 by decide)
       have i49:AA.eval (.tmp 49)=x 20:=hin 49 20 (by kernel_rfl) (show 49<100 by decide)
       clear hV hin hout
       obtain ⟨g1,cs,q1,q2,q3,q4,q5⟩:=h21
       obtain ⟨B,n1,m,t,T,p1,p2,p3,p4,p5⟩:=h20
       have HQ5:=Lib.hid q5
       have HP3:=Lib.hid p3
       have HP4:=Lib.hid p4
       have HP5:=Lib.hid p5
       obtain ⟨⟨r3,hs3⟩,hs4⟩:=hS
       have HS3:=Lib.hid hs3
       have HS4:=Lib.hid hs4
       have j12:AA.tmps.getD 12 undef = .pointer (some ⟨g1,0,none⟩):=i12.trans q1
       have j49:AA.tmps.getD 49 undef = .agg #[.bool B,.int .i64 (1+(i:Int)+(m:Int) * 8),.int .i64 0,.string t,.string (⟨#[102]⟩++⟨#[cx]⟩),.bool false,.int .i64 0,.int .i64 0,.int .u64 0,.string ⟨#[]⟩,.slice none 0 0]:=i49.trans p1
       have k12:=j12
       have k49:=j49
       rw [Array.getD_eq_getD_getElem?] at k12 k49
       have d0:∀ k,k<11→w'.cell? ⟨g1,k,none⟩=some cs[k]!:=by
        intro k hk
        have hk2:k<cs.size:=by omega
        rw [q5.cell k,Array.getElem?_eq_getElem hk2,getElem!_pos cs k hk2]
       have c0:=d0 0 (by decide)
       have c1:=d0 1 (by decide)
       have c2:=d0 2 (by decide)
       have c3:=d0 3 (by decide)
       have c4:=d0 4 (by decide)
       have c5:=d0 5 (by decide)
       have c6:=d0 6 (by decide)
       have c7:=d0 7 (by decide)
       have c8:=d0 8 (by decide)
       have c9:=d0 9 (by decide)
       have c10:=d0 10 (by decide)
       have f0:=q5.free 0
       have f1:=q5.free 1
       have f2:=q5.free 2
       have f3:=q5.free 3
       have f4:=q5.free 4
       have f5:=q5.free 5
       have f6:=q5.free 6
       have f7:=q5.free 7
       have f8:=q5.free 8
       have f9:=q5.free 9
       have f10:=q5.free 10
       clear d0 i12 i49 p1 p3 p4 p5 q5 hs3 hs4
       have HAA2:=HAA.out
       clear HAA
       simp only [RI.setAll,List.toList_toArray,List.set_cons_succ,List.set_cons_zero,Nat.reduceAdd] at HAA2
       have HAA:=Lib.hid HAA2
       clear HAA2
       go_simp
       have e1:t=⟨T.toArray⟩:=HP4.out.eq
       have e2:(⟨#[102]⟩:ByteArray)++⟨#[cx]⟩=⟨[102,cx].toArray⟩:=((Tx.of [102]).cat (Tx.of [cx])).eq
       have e3:((m:Nat):Int)=(i:Int) * (n1:Int):=by rw [HP3.out];exact Int.natCast_mul _ _
       rw [e1,e2,e3]
       refine h2 _ _ (Met.intro (h1 _ _ ?_))
       rw [HAA.out]
       (repeat apply Exists.intro)
       refine ⟨?rel,rfl⟩
       exact ⟨g1,n1,B,T,r3,q1,HQ5.out.put11 q4,q2,p2,HP5.out,HS3.out.put11 (by omega),HS4.out.put11 q2⟩
    case rest =>
     obtain ⟨g,nn,B,T,r3,rfl,hBk,hgw,hnn,hTy,hP3,hO3⟩:=hcut
     have hgb:b<g:=by omega
     obtain ⟨i0,hi0⟩:∃ i0:Int,Hid ((1+(i:Int)+(i:Int) * (nn:Int) * 8)=i0):=⟨_,rfl⟩
     rw [hi0.out] at hBk
     have HS0:Hid (PS b g wr wc _ r3):=⟨hBk,hP3,hO3⟩
     have HTy:=Lib.hid hTy
     clear hBk hP3 hO3 hTy
     have c0:wc.cell? ⟨g,0,none⟩=some (.bool B):=HS0.out.ce 0
     have c1:wc.cell? ⟨g,1,none⟩=some (.int .i64 i0):=HS0.out.ce 1
     have f1:=HS0.out.fr 1
     go_upto_if 52 with fail
     go_cut [] (fun wy=>∃ id:Int,id=(if B then i0 else 0)∧PS b g wr wy (fldA ⟨B,id,0,T,[102,cx],false,conZ⟩) r3)
     case first =>
      cases B
      ·go_wp2_with fail
       go_meet
       case rel=>exact ⟨0,rfl,HS0.out.put hgb hgw 1 _⟩
      ·go_wp2_with fail
       go_meet
       case rel=>exact ⟨i0,rfl,HS0.out⟩
     case rest =>
     obtain ⟨id,hid,hS1⟩:=hcut
     have HID:=Lib.hid hid
     have HS1:=Lib.hid hS1
     clear hid hS1 c0 c1 f1 HS0
     go_upto_if 55 with fail
     go_cut [] (fun wy=>∃ (q:Nat) (hI:Bool) (x:ConS) (cn:Con) (r4:List UInt8),q≤2∧(un=true→q=0∧hI=false)∧IniOf pre T hI x cn∧PS b g wr wy (fldA ⟨B,id,q,T,[102,cx],hI,x⟩) r4)
     case first =>
      cases un
      ·have hsu:(u.size:Int)≤1000:=by rw [HU.out.size];exact hpre
       obtain ⟨uP,huP⟩:∃ y,u++⟨#[80]⟩=y:=⟨_,rfl⟩
       obtain ⟨uU,huU⟩:∃ y,u++⟨#[85]⟩=y:=⟨_,rfl⟩
       have huPl:uP.toList=pre++[80]:=by rw [← huP];exact (HU.out.cat (Tx.of [80])).toL
       have huUl:uU.toList=pre++[85]:=by rw [← huU];exact (HU.out.cat (Tx.of [85])).toL
       have HUP:=Lib.hid huPl
       have HUU:=Lib.hid huUl
       clear huPl huUl
       go_upto_region 9 with fail
       go_cut [] (fun wy=>∃ (q:Nat) (r4:List UInt8),q≤2∧PS b g wr wy (fldA ⟨B,id,q,T,[102,cx],false,conZ⟩) r4)
       case first =>
        obtain ⟨ga,hga⟩:∃ ga,wc.heap.size=ga:=⟨_,rfl⟩
        have hA:=Blk.new wc #[.int .i64 0,.int .i64 0,.int .i64 1,.int .i64 2] 3
        rw [hga] at hA
        have HA:=Lib.hid hA
        have hgg:g<ga:=by rw [← hga];exact HS1.out.blk.lt
        have HSa:=Lib.hid (HS1.out.nx (nx0 wc (.cells #[.int .i64 0,.int .i64 0,.int .i64 1,.int .i64 2] 3)))
        clear hA
        go_wp2_with fail
        refine (num_any b 4 r3 _ HSa.out.pk (by decide) (by decide)).mono ?_;rintro e w5 ⟨rfl,hP5,hO5⟩
        have hkn5:=numP_lt 4 (by decide) r3
        generalize numP 4 r3=N5 at *
        obtain ⟨n5,r5⟩:=N5
        dsimp only at hkn5 hP5 ⊢
        have HS5:=Lib.hid (HSa.out.step hgb hO5 hP5)
        have hA5:=hO5.blk HA.out (by omega)
        have a0:w5.cell? ⟨ga,0,none⟩=some (.int .i64 0):=hA5.cell 0
        have a1:w5.cell? ⟨ga,1,none⟩=some (.int .i64 0):=hA5.cell 1
        have a2:w5.cell? ⟨ga,2,none⟩=some (.int .i64 1):=hA5.cell 2
        have a3:w5.cell? ⟨ga,3,none⟩=some (.int .i64 2):=hA5.cell 3
        have c2:w5.cell? ⟨g,2,none⟩=some (.int .i64 0):=HS5.out.ce 2
        have f2:=HS5.out.fr 2
        clear hA5 hO5 hP5 hga
        rcases (show n5=0∨n5=1∨n5=2∨n5=3 by omega) with rfl | rfl | rfl | rfl
        ·go_wp2_with fail
         go_meet
         case rel=>exact ⟨0,r5,by decide,HS5.out.put hgb hgw 2 _⟩
        ·go_wp2_with fail
         go_meet
         case rel=>exact ⟨0,r5,by decide,HS5.out.put hgb hgw 2 _⟩
        ·go_wp2_with fail
         go_meet
         case rel=>exact ⟨1,r5,by decide,HS5.out.put hgb hgw 2 _⟩
        ·go_wp2_with fail
         go_meet
         case rel=>exact ⟨2,r5,by decide,HS5.out.put hgb hgw 2 _⟩
       case rest =>
       obtain ⟨q,r4,hq,hS2⟩:=hcut
       have HS2:=Lib.hid hS2
       clear hS2 HS1
       have c2:wc.cell? ⟨g,2,none⟩=some (.int .i64 (q:Int)):=HS2.out.ce 2
       have c3:wc.cell? ⟨g,3,none⟩=some (.string ⟨T.toArray⟩):=HS2.out.ce 3
       have hTl:(⟨T.toArray⟩:ByteArray).toList=T:=(Tx.of T).toL
       obtain ⟨tT,htT⟩:∃ tT:ByteArray,Hid ((⟨T.toArray⟩:ByteArray)=tT):=⟨_,rfl⟩
       rw [htT.out] at hTl c3
       go_upto_region 10 with fail
       go_cut [83] (fun v wy=>∃ (bb:Bool) (r5:List UInt8),v = .bool bb∧PS b g wr wy (fldA ⟨B,id,q,T,[102,cx],false,conZ⟩) r5)
       case first =>
        by_cases hq1:q=1
        ·have b1:((q:Int) == 1)=true:=by rw [hq1];rfl
         have b1':(q:Int)=1:=by omega
         obtain ⟨e1,he1⟩:∃ e1,(T == pre++[80])=e1:=⟨_,rfl⟩
         obtain ⟨e2,he2⟩:∃ e2,(T == pre++[85])=e2:=⟨_,rfl⟩
         have k1:(tT.toList == uP.toList)=e1:=by rw [hTl,HUP.out];exact he1
         have k2:(tT.toList == uU.toList)=e2:=by rw [hTl,HUU.out];exact he2
         have j1:(T == uP.toList)=e1:=by rw [HUP.out];exact he1
         have j2:(T == uU.toList)=e2:=by rw [HUU.out];exact he2
         have hnum:=Lib.hid (num_any b 4 r4 wc HS2.out.pk (by decide) (by decide))
         have hkn5:=numP_lt 4 (by decide) r4
         obtain ⟨⟨n5,r5⟩,hN5⟩:∃ x,numP 4 r4=x:=⟨_,rfl⟩
         rw [hN5] at hnum hkn5
         have HNUM:Hid (Calls Tryz.prog 12 #[.pointer (some ⟨b,0,none⟩),.int .i64 4] wc fun e w'=>e = .returned (.int .i64 (n5:Int))∧Pk w' b r5∧Oth b wc w'):=hnum.out
         clear hnum hN5 he1 he2 hq1
         cases e1 with
         | true =>
          go_wp2_with fail
          refine HNUM.out.mono ?_;rintro e w5 ⟨rfl,hP5,hO5⟩
          have HS5:=Lib.hid (HS2.out.step hgb hO5 hP5)
          clear hP5 hO5
          go_wp2_with fail
          go_meet
          case rel=>exact ⟨_,r5,rfl,HS5.out⟩
         | false =>
          cases e2 with
          | true =>
           go_wp2_with fail
           refine HNUM.out.mono ?_;rintro e w5 ⟨rfl,hP5,hO5⟩
           have HS5:=Lib.hid (HS2.out.step hgb hO5 hP5)
           clear hP5 hO5
           go_wp2_with fail
           go_meet
           case rel=>exact ⟨_,r5,rfl,HS5.out⟩
          | false =>
           go_wp2_with fail
           go_meet
           case rel=>exact ⟨_,r4,rfl,HS2.out⟩
        ·have b1:((q:Int) == 1)=false:=by rw [beq_eq_false_iff_ne];omega
         have b1':¬ (q:Int)=1:=by omega
         go_wp2_with fail
         go_meet
         case rel=>exact ⟨_,r4,rfl,HS2.out⟩
       case rest =>
       obtain ⟨bb,r5,rfl,hS3⟩:=hcut
       have HS3:=Lib.hid hS3
       clear hS3 HS2 c2 c3 hTl
       have c2:wc.cell? ⟨g,2,none⟩=some (.int .i64 (q:Int)):=HS3.out.ce 2
       have f2:=HS3.out.fr 2
       go_upto_if 83 with fail
       go_cut [] (fun wy=>∃ q:Nat,q≤2∧PS b g wr wy (fldA ⟨B,id,q,T,[102,cx],false,conZ⟩) r5)
       case first =>
        cases bb
        ·go_wp2_with fail
         go_meet
         case rel=>exact ⟨q,hq,HS3.out⟩
        ·go_wp2_with fail
         go_meet
         case rel=>exact ⟨0,by decide,HS3.out.put hgb hgw 2 _⟩
       case rest =>
       obtain ⟨q6,hq6,hS6⟩:=hcut
       have HS6:=Lib.hid hS6
       clear hS6 HS3 c2 f2 hq
       go_wp2_with fail
       refine (num_any b 6 r5 _ HS6.out.pk (by decide) (by decide)).mono ?_;rintro e w7 ⟨rfl,hP7,hO7⟩
       have hkn7:=numP_lt 6 (by decide) r5
       generalize numP 6 r5=N7 at *
       obtain ⟨n7,r7⟩:=N7
       dsimp only at hkn7 hP7 ⊢
       have HS7:=Lib.hid (HS6.out.step hgb hO7 hP7)
       clear hO7 hP7
       by_cases h7:n7=0
       ·subst h7
        have c3:w7.cell? ⟨g,3,none⟩=some (.string ⟨T.toArray⟩):=HS7.out.ce 3
        rw [htT.out] at c3
        have htl:(T.length:Int)≤10000:=by
         obtain ⟨rt,hrt⟩:=HTy.out
         have:=typ_len pre 3 rt
         rw [← hrt] at this
         omega
        go_wp2_with fail
        refine (init_any b tT u T pre r7 w7 (by rw [← htT.out];exact Tx.of T) HU.out hpre htl HS7.out.pk).mono ?_;rintro e w8 ⟨rfl,hP8,hO8⟩
        have HS8:=Lib.hid (HS7.out.step hgb hO8 hP8)
        obtain ⟨I,hI⟩:∃ I,Hid ((initP T pre r7).1=I):=⟨_,rfl⟩
        have c5:w8.cell? ⟨g,5,none⟩=some (.bool false):=HS8.out.ce 5
        have c6:w8.cell? ⟨g,6,none⟩=some (.int .i64 0):=HS8.out.ce 6
        have c7:w8.cell? ⟨g,7,none⟩=some (.int .i64 0):=HS8.out.ce 7
        have c8:w8.cell? ⟨g,8,none⟩=some (.int .u64 0):=HS8.out.ce 8
        have c9:w8.cell? ⟨g,9,none⟩=some (.string ⟨#[]⟩):=HS8.out.ce 9
        have c10:w8.cell? ⟨g,10,none⟩=some (.slice none 0 0):=HS8.out.ce 10
        have f5:=HS8.out.fr 5
        have f6:=HS8.out.fr 6
        have f7:=HS8.out.fr 7
        have f8:=HS8.out.fr 8
        have f9:=HS8.out.fr 9
        have f10:=HS8.out.fr 10
        rw [hI.out]
        unfold conC
        clear hO8 hP8 c3
        go_wp2_with fail
        go_meet
        case rel =>
         exact ⟨q6,true,conOS I,conO I,_,hq6,(fun h=>by cases h),.inr ⟨rfl,r7,by rw [hI.out],by rw [hI.out]⟩,(((((HS8.out.put hgb hgw 5 (.bool true)).put hgb hgw 6 (.int .i64 (I.k:Int))).put hgb hgw 7 (.int .i64 I.n)).put hgb hgw 8 (.int .u64 (I.d:Int))).put hgb hgw 9 (.string ⟨I.s.toArray⟩)).put hgb hgw 10 (.slice none 0 0)⟩
       ·have b7:((n7:Int) == 0)=false:=by rw [beq_eq_false_iff_ne];omega
        have b7':¬ (n7:Int)=0:=by omega
        go_wp2_with fail
        go_meet
        case rel=>exact ⟨q6,false,conZ,con0,r7,hq6,(fun h=>by cases h),.inl ⟨rfl,rfl,rfl⟩,HS7.out⟩
      ·go_wp2_with fail
       go_meet
       case rel=>exact ⟨0,false,conZ,con0,r3,by decide,fun _=>⟨rfl,rfl⟩,.inl ⟨rfl,rfl,rfl⟩,HS1.out⟩
     case rest =>
     obtain ⟨q,hI,x,cn,r4,hq,hun,hini,hS2⟩:=hcut
     have HS2:=Lib.hid hS2
     have HUN:=Lib.hid hun
     have HINI:=Lib.hid hini
     clear hS2 hun hini HS1
     obtain ⟨xk,xn,xd,xs,xl⟩:=x
     obtain ⟨rfl,hcn,hii⟩:=HINI.out.nil
     have HPF:Hid (PFld pre un fs.length ⟨B,id,q,T,[102,cx],hI,cn⟩):=by
      rw [HFL.out]
      refine ⟨⟨nn,hnn,?_⟩,hq,HTy.out,?_,hii,HUN.out⟩
      ·show id=_
       rw [HID.out]
       cases B
       ·rfl
       ·exact hi0.out.symm
      ·show [102,cx]=_
       rw [hcx.out]
     have HCN:=Lib.hid hcn
     have HX:Hid (∀ w P,RF w P ⟨B,id,q,T,[102,cx],hI,⟨xk,xn,xd,xs,.slice none 0 0⟩⟩ ⟨B,id,q,T,[102,cx],hI,cn⟩):=by
      intro w P
      refine ⟨rfl,rfl,rfl,rfl,rfl,rfl,?_⟩
      show RC 13 w P ⟨xk,xn,xd,xs,.slice none 0 0⟩ cn
      rw [HCN.out]
      exact RC.mk RepL.nil_
     have HONE:Hid (∀ v ∈ (fldA ⟨B,id,q,T,[102,cx],hI,⟨xk,xn,xd,xs,.slice none 0 0⟩⟩).toList,v.oneCell'=true):=by
      intro v hv
      simp [fldA,bt] at hv
      rcases hv with rfl | rfl | rfl | rfl | rfl | rfl | rfl | rfl | rfl | rfl | rfl <;> rfl
     have HLF2:=Lib.hid (RepL.oth RF.lasts HLF.out HS2.out.oth hb0)
     have HG:=Lib.hid fun g e=>(HLF.out.own_lt g e).1
     have h63:(fs.length:Int)≤100000:=by have:=HFL.out;omega
     have hBw:B0≤wc.heap.size:=Nat.le_trans (by have h1:=HO2.out.size;have h2:=HWB.out;omega) HS2.out.oth.size
     have c0:wc.cell? ⟨g,0,none⟩=some (.bool B):=HS2.out.ce 0
     have c1:wc.cell? ⟨g,1,none⟩=some (.int .i64 id):=HS2.out.ce 1
     have c2:wc.cell? ⟨g,2,none⟩=some (.int .i64 (q:Int)):=HS2.out.ce 2
     have c3:wc.cell? ⟨g,3,none⟩=some (.string ⟨T.toArray⟩):=HS2.out.ce 3
     have c4:wc.cell? ⟨g,4,none⟩=some (.string ⟨[102,cx].toArray⟩):=HS2.out.ce 4
     have c5:wc.cell? ⟨g,5,none⟩=some (.bool hI):=HS2.out.ce 5
     have c6:wc.cell? ⟨g,6,none⟩=some (.int .i64 (xk:Int)):=HS2.out.ce 6
     have c7:wc.cell? ⟨g,7,none⟩=some (.int .i64 xn):=HS2.out.ce 7
     have c8:wc.cell? ⟨g,8,none⟩=some (.int .u64 (xd:Int)):=HS2.out.ce 8
     have c9:wc.cell? ⟨g,9,none⟩=some (.string ⟨xs.toArray⟩):=HS2.out.ce 9
     have c10:wc.cell? ⟨g,10,none⟩=some (.slice none 0 0):=HS2.out.ce 10
     clear hcn hii hnn hq
     go_wp2_with (at_builtin;go_must (refine wpList_appL _ RF.lasts infoF Tryz.underlying53 rfl (by decide) (by decide) fldA_size rfl _ _ rfl B0 b (.slice lA fs.length lc) fs ⟨B,id,q,T,[102,cx],hI,⟨xk,xn,xd,xs,.slice none 0 0⟩⟩ ⟨B,id,q,T,[102,cx],hI,cn⟩ rfl (RepL.nx RF.lasts HLF2.out (nx0 _ _)) HONE.out _ rfl (fun j hj=>cell_newP (by simp)) (HX.out _ _) h63 (Nat.le_trans hBw (nx0 _ _).size) hb0 ?_;intro v2 w2 hl2 hf2 hk2;have HL2:=Lib.hid hl2;have HF2:=Lib.hid hf2;have HK2:=Lib.hid hk2;clear hl2 hf2 hk2))
     go_roundw
     case rel =>
      have hn1:=HS2.out.nx (nx0 wc (.cells (fldA ⟨B,id,q,T,[102,cx],hI,⟨xk,xn,xd,xs,.slice none 0 0⟩⟩) 75))
      have hown:∀ k,(Value.slice lA fs.length lc).ownBlock=some k→B0≤k:=fun k e=>HG.out k e
      refine ⟨i+1,fs++[(⟨B,id,q,T,[102,cx],hI,cn⟩:Fld)],r4,by go_num,by omega,hn1.pk.keep fun k hk=>HK2.out k (Nat.lt_of_le_of_lt hk hn1.pk.lt) (fun e=>by have:=hown k e;omega),HL2.out,by rw [List.length_append,HFL.out];rfl,HALL.out.snoc HPF.out,HF2.out.toOth ((HO2.out.trans hn1.oth)) hown (Nat.le_of_eq HWB.out)⟩
     case measure=>simp [intOf];omega
  ·have hn1:¬ i<n:=fun h=>hlt (.inl h)
   have g1:decide ((i:Int)<(n:Int))=false:=decide_eq_false (by omega)
   have g1':¬ (i:Int)<(n:Int):=by omega
   have HRES:Hid (PFldsR pre un b w B0 u9 wr) :=
    ⟨fs,r2,hlf,hall,by omega,fun h=>by
     have:¬ i=0:=fun h0=>hlt (.inr ⟨h,h0⟩)
     omega,hP2,hO2⟩
   clear hP2 hlf hO2 hall hn1
   cases un with
   | false =>
    clear hlt
    go_wp2_with fail
    go_ret
    exact ⟨_,rfl,HRES.out⟩
   | true =>
    have h0:¬ i=0:=fun h0=>hlt (.inr ⟨rfl,h0⟩)
    have g2:((i:Int) == 0)=false:=by rw [beq_eq_false_iff_ne];omega
    have g2':¬ (i:Int)=0:=by omega
    clear hlt h0
    go_wp2_with fail
    go_ret
    exact ⟨_,rfl,HRES.out⟩
end Go.Proofs.YteclejplbphkpaaGreat
