/- The document's play: choices read off numbers. The document's play: types' texts. -/
import Derived.Test.YteclejplbphkpaaGreatG13
import Derived.Deep.CutBlock
import Derived.Deep.DeepCutAuto
set_option linter.unusedVariables false
set_option linter.unusedSimpArgs false
set_option linter.unnecessarySimpa false
namespace Go.Proofs.YteclejplbphkpaaGreat
open Go.RowKit
theorem Tx.cat {s t:ByteArray} {a b:List UInt8} (h:Tx s a) (g:Tx t b):Tx (s++t) (a++b):=by
 unfold Tx at *
 rw [← h,← g]
 simp [ByteArray.data_append]
def numP (m:Nat):List UInt8→Nat×List UInt8
 | []=>(0,[])
 | x :: r=>(x.toNat % m,r)
theorem numP_lt (m:Nat) (hm:0<m) (r:List UInt8):(numP m r).1<m:=by
 cases r with
 | nil=>exact hm
 | cons x r=>exact Nat.mod_lt _ hm
def Pk (w:World) (b:Nat) (r:List UInt8):Prop:=∃ (A:Option Addr) (c n:Nat) (xs:List UInt8),Blk w b b #[.slice A xs.length c,.int .i64 (n:Int)] 59∧xs.length≤1000∧n≤xs.length∧r=xs.drop n ∧
 (xs≠[]→∃ ab off,A=some ⟨ab,off,none⟩∧ab<b∧∀ j (h:j<xs.length),w.cell? ⟨ab,off+j,none⟩=some (bv xs[j]))
theorem Pk.nx {w w':World} {b:Nat} {r:List UInt8} (h:Pk w b r) (hn:Nx w w'):Pk w' b r:=by
 obtain ⟨A,c,n,xs,hB,h1,h2,h3,h4⟩:=h
 refine ⟨A,c,n,xs,hB.below hn,h1,h2,h3,fun h=>?_⟩
 obtain ⟨ab,off,e,hab,hc⟩:=h4 h
 refine ⟨ab,off,e,hab,fun j hj=>?_⟩
 rw [← hc j hj]
 unfold World.cell?
 simp only
 rw [hn.block ab (Nat.lt_trans hab hB.lt)]
theorem Pk.lt {w:World} {b:Nat} {r:List UInt8} (h:Pk w b r):b<w.heap.size:=by
 obtain ⟨A,c,n,xs,hB,-⟩:=h
 exact hB.lt
theorem Pk.put {w:World} {b g:Nat} {r:List UInt8} (h:Pk w b r) (hg:b<g) (i:Nat) (v:Value):Pk (w.setCell ⟨g,i,none⟩ v) b r:=by
 obtain ⟨A,c,n,xs,hB,h1,h2,h3,h4⟩:=h
 refine ⟨A,c,n,xs,hB.other (by omega) i v,h1,h2,h3,fun h=>?_⟩
 obtain ⟨ab,off,e,hab,hc⟩:=h4 h
 refine ⟨ab,off,e,hab,fun j hj=>?_⟩
 rw [← hc j hj]
 unfold World.cell?
 simp only [World.setCell]
 rw [Array.getElem?_modify,if_neg (by omega)]
theorem Pk.put5 {w:World} {b g:Nat} {r:List UInt8} {v0 v1 v2 v3 v4:Value} (h:Pk w b r) (hg:b<g) :
  Pk (((((w.setCell ⟨g,0,none⟩ v0).setCell ⟨g,1,none⟩ v1).setCell ⟨g,2,none⟩ v2).setCell ⟨g,3,none⟩ v3).setCell ⟨g,4,none⟩ v4) b r :=
 ((((h.put hg 0 v0).put hg 1 v1).put hg 2 v2).put hg 3 v3).put hg 4 v4
set_option maxRecDepth 100000 in
set_option maxHeartbeats 3200000 in
theorem num_any (b m:Nat) (r:List UInt8) (w:World) (hP:Pk w b r) (hm:0<m) (hm2:(m:Int)≤1000) :
  Calls Tryz.prog 12 #[.pointer (some ⟨b,0,none⟩),.int .i64 (m:Int)] w fun e w'=>e = .returned (.int .i64 ((numP m r).1:Nat))∧Pk w' b (numP m r).2∧Oth b w w':=by
 have HP:=Lib.hid hP
 obtain ⟨A,c,n,xs,hB,h1,h2,h3,h4⟩:=hP
 have HB:=Lib.hid hB
 have H4:=Lib.hid h4
 have c0:w.cell? ⟨b,0,none⟩=some (.slice A xs.length c):=hB.cell 0
 have c1:w.cell? ⟨b,1,none⟩=some (.int .i64 (n:Int)):=hB.cell 1
 have f1:w.frozen? ⟨b,1,none⟩=false:=hB.free 1
 clear hB h4
 by_cases hlt:n<xs.length
 ·have k1:decide ((n:Int) ≥ (xs.length:Int))=false:=decide_eq_false (by omega)
  have k2:¬ xs.length≤n:=by omega
  have k3:(n:Int)≤1000:=by omega
  obtain ⟨ab,off,rfl,hab,hcell⟩:=H4.out (by intro h;rw [h] at hlt;simp at hlt)
  have hx:=hcell n hlt
  have HCELL:=Lib.hid hcell
  obtain ⟨x,hxe⟩:∃ x,xs[n]=x:=⟨_,rfl⟩
  rw [hxe] at hx
  have hr:r=x :: xs.drop (n+1):=by rw [h3,List.drop_eq_getElem_cons hlt,hxe]
  have HR:=Lib.hid hr
  have HX:=Lib.hid hxe
  have k4:((m:Int) == 0)=false:=by rw [beq_eq_false_iff_ne];omega
  have k5:¬ m=0:=by omega
  have ek:((n+1:Nat):Int)=(n:Int)+1:=by omega
  clear h3 hr hxe H4 hcell
  unfold bv at hx
  go_enter Tryz.func12,Tryz.ntmps12
  go_wp2_with fail
  go_quiet (fail)
  go_upto_region 4 with fail
  generalize hW:World.setCell _ _ _=w1
  have HB1:Hid (Blk w1 b b #[.slice (some ⟨ab,off,none⟩) xs.length c,.int .i64 ((n+1:Nat):Int)] 59):=by rw [← hW,← ek];exact (HB.out.drew _).put 1 _
  have HO1:Hid (Oth b w w1):=by rw [← hW];exact (Oth.nx ((Nx.refl _).dr _)).own
  have hx1:w1.cell? ⟨ab,off+n,none⟩=some (.int .u8 (x.toNat:Int)):=by
   rw [← hx]
   unfold World.cell?
   simp only
   rw [HO1.out.block ab (Nat.lt_trans hab HB.out.lt) (by omega)]
  clear hW c0 c1 f1 hx
  have c0:w1.cell? ⟨b,0,none⟩=some (.slice (some ⟨ab,off,none⟩) xs.length c):=HB1.out.cell 0
  have c1:w1.cell? ⟨b,1,none⟩=some (.int .i64 ((n:Int)+1)):=by rw [← ek];exact HB1.out.cell 1
  go_wp2_with fail
  go_quiet (fail)
  go_wp2_with fail
  go_ret
  rw [HR.out]
  refine ⟨congrArg (fun v=>Ending.returned (Value.int .i64 v)) ?_,⟨some ⟨ab,off,none⟩,c,n+1,xs,HB1.out.drew _,h1,hlt,rfl,fun _=>⟨ab,off,rfl,hab,fun j hj=>?_⟩⟩,HO1.out.trans (Oth.nx ((Nx.refl _).dr _))⟩
  ·have hx256:=x.toNat_lt
   rw [show RowKit.wrap64 (x.toNat:Int)=(x.toNat:Int) by unfold RowKit.wrap64;omega]
   show Int.tmod (x.toNat:Int) (m:Int)=((x.toNat % m:Nat):Int)
   rw [Int.ofNat_tmod]
  ·rw [← HCELL.out j hj]
   show w1.cell? _=_
   unfold World.cell?
   simp only
   rw [HO1.out.block ab (Nat.lt_trans hab HB.out.lt) (by omega)]
 ·have k1:decide ((n:Int) ≥ (xs.length:Int))=true:=decide_eq_true (by omega)
  have k2:xs.length≤n:=by omega
  have hr:r=[]:=by rw [h3,List.drop_eq_nil_iff];exact k2
  subst hr
  clear h3 H4
  go_enter Tryz.func12,Tryz.ntmps12
  go_wp2_with fail
  go_quiet (fail)
  go_wp2_with fail
  go_ret
  exact ⟨rfl,HP.out.nx ((Nx.refl _).dr _),Oth.nx ((Nx.refl _).dr _)⟩
end Go.Proofs.YteclejplbphkpaaGreat
namespace Go.Proofs.YteclejplbphkpaaGreat
open Go.RowKit
theorem row_at (us:List ByteArray) (k:Nat) (h:k<us.length):((us.map Value.string).toArray)[k]? = some (.string us[k]):=by
 simp [h]
def Txs (us:List ByteArray) (Ls:List (List UInt8)):Prop:=us=Ls.map fun l=>⟨l.toArray⟩
theorem Txs.at_ {us:List ByteArray} {Ls:List (List UInt8)} (h:Txs us Ls) (k:Nat) (hk:k<Ls.length):∃ h1:k<us.length,Tx us[k] (Ls.getD k []):=by
 unfold Txs at h
 subst h
 refine ⟨by simpa using hk,?_⟩
 rw [List.getElem_map,List.getD_eq_getElem?_getD,List.getElem?_eq_getElem hk]
 exact Tx.of _
def b_i32:List UInt8:=[105,51,50]
def b_string:List UInt8:=[115,116,114,105,110,103]
def b_bool:List UInt8:=[98,111,111,108]
def b_i64:List UInt8:=[105,54,52]
def b_binary:List UInt8:=[98,105,110,97,114,121]
def b_double:List UInt8:=[100,111,117,98,108,101]
def b_i8:List UInt8:=[105,56]
def b_i16:List UInt8:=[105,49,54]
def keyL (pre:List UInt8):List (List UInt8):=[b_i32,b_string,b_bool,pre++[69],b_i64,b_binary,b_double,b_i8]
def keyP (pre r:List UInt8):List UInt8×List UInt8:=((keyL pre).getD (numP 8 r).1 [],(numP 8 r).2)
set_option maxRecDepth 100000 in
set_option maxHeartbeats 3200000 in
theorem key_any (b:Nat) (u:ByteArray) (pre r:List UInt8) (w:World) (hP:Pk w b r) (hu:Tx u pre) (hpre:(pre.length:Int)≤1000) :
  Calls Tryz.prog 49 #[.pointer (some ⟨b,0,none⟩),.string u] w fun e w'=>∃ t,e = .returned (.string t)∧Tx t (keyP pre r).1∧Pk w' b (keyP pre r).2∧Oth b w w':=by
 have HP:=Lib.hid hP
 obtain ⟨uE,huE⟩:∃ uE,u++⟨#[69]⟩=uE:=⟨_,rfl⟩
 have hE:Tx uE (pre++[69]):=by rw [← huE];exact hu.cat (Tx.of [69])
 have HE:=Lib.hid hE
 have HU:=Lib.hid hu
 have hsz:(u.size:Int)≤1000:=by rw [hu.size];exact hpre
 have hbl:=hP.lt
 obtain ⟨g,hg⟩:∃ g,w.heap.size=g:=⟨_,rfl⟩
 rw [hg] at hbl
 clear hP hE hu
 go_enter Tryz.func49,Tryz.ntmps49
 go_wp2_with fail
 have hB0:=Blk.new w #[.string ⟨#[105,51,50]⟩,.string ⟨#[115,116,114,105,110,103]⟩,.string ⟨#[98,111,111,108]⟩,.string uE,.string ⟨#[105,54,52]⟩,.string ⟨#[98,105,110,97,114,121]⟩,.string ⟨#[100,111,117,98,108,101]⟩,.string ⟨#[105,56]⟩] 9
 rw [hg] at hB0
 have hO0:Oth b w (w.alloc (.cells #[.string ⟨#[105,51,50]⟩,.string ⟨#[115,116,114,105,110,103]⟩,.string ⟨#[98,111,111,108]⟩,.string uE,.string ⟨#[105,54,52]⟩,.string ⟨#[98,105,110,97,114,121]⟩,.string ⟨#[100,111,117,98,108,101]⟩,.string ⟨#[105,56]⟩] 9)):=Oth.nx (nx0 _ _)
 refine (num_any b 8 r _ (HP.out.nx (nx0 _ _)) (by decide) (by decide)).mono ?_;rintro e w2 ⟨rfl,hP2,hO2⟩
 have hB2:=hO2.blk hB0 (by omega)
 have htx:Txs [⟨#[105,51,50]⟩,⟨#[115,116,114,105,110,103]⟩,⟨#[98,111,111,108]⟩,uE,⟨#[105,54,52]⟩,⟨#[98,105,110,97,114,121]⟩,⟨#[100,111,117,98,108,101]⟩,⟨#[105,56]⟩] (keyL pre):=by
  unfold Txs keyL
  rw [HE.out.eq];rfl
 have hk8:=numP_lt 8 (by decide) r
 obtain ⟨h1,h2⟩:=htx.at_ (numP 8 r).1 hk8
 have hc:=(hB2.cell (numP 8 r).1).trans (row_at _ _ h1)
 have HO:=Lib.hid (hO0.trans hO2)
 have hfin:Hid (keyP pre r=((keyL pre).getD (numP 8 r).1 [],(numP 8 r).2)):=rfl
 generalize (List.getD (keyL pre) (numP 8 r).1 [])=T at *
 generalize numP 8 r=N at *
 obtain ⟨k,r2⟩:=N
 dsimp only at hk8 h1 h2 hc hP2 hfin ⊢
 obtain ⟨v,hv⟩:∃ v,([⟨#[105,51,50]⟩,⟨#[115,116,114,105,110,103]⟩,⟨#[98,111,111,108]⟩,uE,⟨#[105,54,52]⟩,⟨#[98,105,110,97,114,121]⟩,⟨#[100,111,117,98,108,101]⟩,⟨#[105,56]⟩]:List ByteArray)[k]'h1=v:=⟨_,rfl⟩
 rw [hv] at hc h2
 have H2:=Lib.hid h2
 have HP2:=Lib.hid hP2
 have hk:(k:Int)<8:=by omega
 clear hv h2 htx hB0 hO0 hB2 hO2 hP2
 go_wp2_with fail
 go_ret
 rw [hfin.out]
 exact ⟨_,rfl,H2.out,HP2.out,HO.out⟩
def typL (pre:List UInt8):List (List UInt8):=[b_i32,b_string,b_bool,b_i8,b_i16,b_i64,b_double,b_binary,pre++[69],pre++[84],b_i32,b_string,pre++[80],pre++[85]]
def b_list:List UInt8:=[108,105,115,116,60]
def b_set:List UInt8:=[115,101,116,60]
def b_map:List UInt8:=[109,97,112,60]
def typP (pre:List UInt8):Nat→List UInt8→List UInt8×List UInt8
 | 0,r=>((typL pre).getD ((numP 18 r).1 % 12) [],(numP 18 r).2)
 | d+1,r =>
  if (numP 18 r).1<14 then ((typL pre).getD (numP 18 r).1 [],(numP 18 r).2)
  else if (numP 18 r).1<16 then (b_list++(typP pre d (numP 18 r).2).1++[62],(typP pre d (numP 18 r).2).2)
  else if (numP 18 r).1=16 then (b_set++(keyP pre (numP 18 r).2).1++[62],(keyP pre (numP 18 r).2).2)
  else (b_map++(keyP pre (numP 18 r).2).1++[44]++(typP pre d (keyP pre (numP 18 r).2).2).1++[62],(typP pre d (keyP pre (numP 18 r).2).2).2)
theorem getD_len (Ls:List (List UInt8)) (k n:Nat) (h:∀ l ∈ Ls,l.length≤n):(Ls.getD k []).length≤n:=by
 rw [List.getD_eq_getElem?_getD]
 cases hk:Ls[k]? with
 | none=>exact Nat.zero_le _
 | some l=>exact h l (List.mem_of_getElem? hk)
theorem key_len (pre r:List UInt8):(keyP pre r).1.length≤pre.length+6:=by
 unfold keyP
 refine getD_len _ _ _ fun l hl=>?_
 simp [keyL,b_i32,b_string,b_bool,b_i64,b_binary,b_double,b_i8] at hl
 rcases hl with rfl | rfl | rfl | rfl | rfl | rfl | rfl | rfl <;> simp
theorem typL_len (pre:List UInt8) (k:Nat):((typL pre).getD k []).length≤pre.length+6:=by
 refine getD_len _ _ _ fun l hl=>?_
 simp [typL,b_i32,b_string,b_bool,b_i64,b_i16,b_binary,b_double,b_i8] at hl
 rcases hl with rfl | rfl | rfl | rfl | rfl | rfl | rfl | rfl | rfl | rfl | rfl | rfl | rfl | rfl <;> simp
theorem typ_len (pre:List UInt8) (d:Nat) (r:List UInt8):(typP pre d r).1.length≤(pre.length+13) * (d+1):=by
 induction d generalizing r with
 | zero=>have:=typL_len pre ((numP 18 r).1 % 12);unfold typP;dsimp only;omega
 | succ d ih =>
  have h1:=typL_len pre (numP 18 r).1
  have h2:=key_len pre (numP 18 r).2
  have e:(pre.length+13) * (d+1+1)=(pre.length+13) * (d+1)+(pre.length+13):=Nat.mul_succ _ _
  have e0:pre.length+13≤(pre.length+13) * (d+1):=Nat.le_mul_of_pos_right _ (Nat.succ_pos _)
  unfold typP
  split
  ·dsimp only;omega
  ·split
   ·have:=ih (numP 18 r).2
    simp [b_list] at this ⊢;omega
   ·split
    ·simp [b_set] at h2 ⊢;omega
    ·have:=ih (keyP pre (numP 18 r).2).2
     simp [b_map] at this h2 ⊢;omega
set_option maxRecDepth 100000 in
set_option maxHeartbeats 12800000 in
theorem typ_any (b:Nat) (u:ByteArray) (pre:List UInt8) (hu:Tx u pre) (hpre:(pre.length:Int)≤1000):∀ (d deep:Nat) (r:List UInt8) (w:World),deep+d=3→Pk w b r →
  Calls Tryz.prog 26 #[.pointer (some ⟨b,0,none⟩),.string u,.int .i64 (deep:Int)] w fun e w'=>∃ t,e = .returned (.string t)∧Tx t (typP pre d r).1∧Pk w' b (typP pre d r).2∧Oth b w w':=by
 have hsu:(u.size:Int)≤1000:=by rw [hu.size];exact hpre
 have HU0:=Lib.hid hu
 obtain ⟨uE,huE⟩:∃ x,u++⟨#[69]⟩=x:=⟨_,rfl⟩
 obtain ⟨uT,huT⟩:∃ x,u++⟨#[84]⟩=x:=⟨_,rfl⟩
 obtain ⟨uP,huP⟩:∃ x,u++⟨#[80]⟩=x:=⟨_,rfl⟩
 obtain ⟨uU,huU⟩:∃ x,u++⟨#[85]⟩=x:=⟨_,rfl⟩
 have HE:Hid (Tx uE (pre++[69])):=by rw [← huE];exact hu.cat (Tx.of [69])
 have HT:Hid (Tx uT (pre++[84])):=by rw [← huT];exact hu.cat (Tx.of [84])
 have HPP:Hid (Tx uP (pre++[80])):=by rw [← huP];exact hu.cat (Tx.of [80])
 have HU:Hid (Tx uU (pre++[85])):=by rw [← huU];exact hu.cat (Tx.of [85])
 clear hu
 intro d
 induction d with
 | zero =>
  intro deep r w hd hP
  have hdd:decide ((deep:Int) > 2)=true:=decide_eq_true (by omega)
  have HP:=Lib.hid hP
  have hbl:=hP.lt
  clear hP
  go_enter Tryz.func26,Tryz.ntmps26
  go_wp2_with fail
  refine (num_any b 18 r _ HP.out (by decide) (by decide)).mono ?_;rintro e w1 ⟨rfl,hP1,hO1⟩
  have hk18:=numP_lt 18 (by decide) r
  obtain ⟨k,r2,hN⟩:∃ k r2,numP 18 r=(k,r2):=⟨_,_,rfl⟩
  rw [hN] at hP1 hk18 ⊢
  dsimp only at hP1 hk18 ⊢
  obtain ⟨k1,hk1⟩:∃ k1,k % 12=k1:=⟨_,rfl⟩
  have hkt:(k:Int).tmod 12=(k1:Int):=by rw [← hk1];rfl
  have hk12:k1<12:=by omega
  have hfin:Hid (typP pre 0 r=((typL pre).getD k1 [],r2)):=by unfold Hid typP;rw [hN];dsimp only;rw [hk1]
  have HK1:=Lib.hid hk1
  clear hk1 hN
  go_upto_region 5 with fail
  generalize hW:World.alloc _ _=w2
  obtain ⟨g,hg⟩:∃ g,w1.heap.size=g:=⟨_,rfl⟩
  rw [hg]
  have HB2:Hid (Blk w2 g g #[.string ⟨#[105,51,50]⟩,.string ⟨#[115,116,114,105,110,103]⟩,.string ⟨#[98,111,111,108]⟩,.string ⟨#[105,56]⟩,.string ⟨#[105,49,54]⟩,.string ⟨#[105,54,52]⟩,.string ⟨#[100,111,117,98,108,101]⟩,.string ⟨#[98,105,110,97,114,121]⟩,.string uE,.string uT,.string ⟨#[105,51,50]⟩,.string ⟨#[115,116,114,105,110,103]⟩,.string uP,.string uU] 9):=by rw [← hW,← hg];exact Blk.new _ _ _
  have HP2:Hid (Pk w2 b r2):=by rw [← hW];exact hP1.nx (nx0 _ _)
  have HO2:Hid (Oth b w w2):=by rw [← hW];exact hO1.trans (Oth.nx (nx0 _ _))
  have hgb:b<g:=by rw [← hg];exact hP1.lt
  clear hW hP1 hO1 hg
  have d14:decide ((k1:Int)<14)=true:=decide_eq_true (by omega)
  have d14b:(k1:Int)<14:=by omega
  have htx:Txs [⟨#[105,51,50]⟩,⟨#[115,116,114,105,110,103]⟩,⟨#[98,111,111,108]⟩,⟨#[105,56]⟩,⟨#[105,49,54]⟩,⟨#[105,54,52]⟩,⟨#[100,111,117,98,108,101]⟩,⟨#[98,105,110,97,114,121]⟩,uE,uT,⟨#[105,51,50]⟩,⟨#[115,116,114,105,110,103]⟩,uP,uU] (typL pre):=by
   unfold Txs typL
   rw [HE.out.eq,HT.out.eq,HPP.out.eq,HU.out.eq];rfl
  obtain ⟨h1,h2⟩:=htx.at_ k1 (show k1<(typL pre).length from (by omega:k1<14))
  have hc:=(HB2.out.cell k1).trans (row_at _ _ h1)
  obtain ⟨v,hv⟩:∃ v,([⟨#[105,51,50]⟩,⟨#[115,116,114,105,110,103]⟩,⟨#[98,111,111,108]⟩,⟨#[105,56]⟩,⟨#[105,49,54]⟩,⟨#[105,54,52]⟩,⟨#[100,111,117,98,108,101]⟩,⟨#[98,105,110,97,114,121]⟩,uE,uT,⟨#[105,51,50]⟩,⟨#[115,116,114,105,110,103]⟩,uP,uU]:List ByteArray)[k1]'h1=v:=⟨_,rfl⟩
  rw [hv] at hc h2
  have H2:=Lib.hid h2
  clear hv h2 htx
  go_wp2_with fail
  go_ret
  rw [hfin.out]
  exact ⟨_,rfl,H2.out,HP2.out,HO2.out⟩
 | succ d ih =>
  intro deep r w hd hP
  have hdd:decide ((deep:Int) > 2)=false:=decide_eq_false (by omega)
  have hdd2:(deep:Int)≤2:=by omega
  have HP:=Lib.hid hP
  have hbl:=hP.lt
  clear hP
  go_enter Tryz.func26,Tryz.ntmps26
  go_wp2_with fail
  refine (num_any b 18 r _ HP.out (by decide) (by decide)).mono ?_;rintro e w1 ⟨rfl,hP1,hO1⟩
  have hk18:=numP_lt 18 (by decide) r
  obtain ⟨k,r2,hN⟩:∃ k r2,numP 18 r=(k,r2):=⟨_,_,rfl⟩
  rw [hN] at hP1 hk18 ⊢
  dsimp only at hP1 hk18 ⊢
  have hfin:Hid (typP pre (d+1) r=if k<14 then ((typL pre).getD k [],r2)
    else if k<16 then (b_list++(typP pre d r2).1++[62],(typP pre d r2).2)
    else if k=16 then (b_set++(keyP pre r2).1++[62],(keyP pre r2).2)
    else (b_map++(keyP pre r2).1++[44]++(typP pre d (keyP pre r2).2).1++[62],(typP pre d (keyP pre r2).2).2)):=by
   unfold Hid;conv=>{ lhs;unfold typP };rw [hN]
  have hd4:d≤2:=by omega
  have hlen:∀ x:List UInt8,(x.length:Int)≤(pre.length+13) * (d+1)→(x.length:Int)≤3100:=by
   intro x hx
   have h1:(pre.length+13) * (d+1)≤1013 * 3:=Nat.mul_le_mul (by omega) (by omega)
   have h2:((pre.length:Int)+13) * ((d:Int)+1)≤3039:=by exact_mod_cast h1
   omega
  have HLEN:=Lib.hid hlen
  have ed:((deep+1:Nat):Int)=(deep:Int)+1:=by omega
  have ih2:∀ (r:List UInt8) (w:World),Pk w b r→Calls Tryz.prog 26 #[.pointer (some ⟨b,0,none⟩),.string u,.int .i64 ((deep:Int)+1)] w fun e w'=>∃ t,e = .returned (.string t)∧Tx t (typP pre d r).1∧Pk w' b (typP pre d r).2∧Oth b w w':=by
   intro r w h
   have:=ih (deep+1) r w (by omega) h
   rw [ed] at this
   exact this
  have IH:=Lib.hid ih2
  clear ih2
  clear ih hlen hN
  go_upto_region 5 with fail
  generalize hW:World.alloc _ _=w2
  obtain ⟨g,hg⟩:∃ g,w1.heap.size=g:=⟨_,rfl⟩
  rw [hg]
  have HB2:Hid (Blk w2 g g #[.string ⟨#[105,51,50]⟩,.string ⟨#[115,116,114,105,110,103]⟩,.string ⟨#[98,111,111,108]⟩,.string ⟨#[105,56]⟩,.string ⟨#[105,49,54]⟩,.string ⟨#[105,54,52]⟩,.string ⟨#[100,111,117,98,108,101]⟩,.string ⟨#[98,105,110,97,114,121]⟩,.string uE,.string uT,.string ⟨#[105,51,50]⟩,.string ⟨#[115,116,114,105,110,103]⟩,.string uP,.string uU] 9):=by rw [← hW,← hg];exact Blk.new _ _ _
  have HP2:Hid (Pk w2 b r2):=by rw [← hW];exact hP1.nx (nx0 _ _)
  have HO2:Hid (Oth b w w2):=by rw [← hW];exact hO1.trans (Oth.nx (nx0 _ _))
  have hgb:b<g:=by rw [← hg];exact hP1.lt
  clear hW hP1 hO1 hg
  by_cases h14:k<14
  ·rw [if_pos h14] at hfin
   have d14:decide ((k:Int)<14)=true:=decide_eq_true (by omega)
   have d14b:(k:Int)<14:=by omega
   have htx:Txs [⟨#[105,51,50]⟩,⟨#[115,116,114,105,110,103]⟩,⟨#[98,111,111,108]⟩,⟨#[105,56]⟩,⟨#[105,49,54]⟩,⟨#[105,54,52]⟩,⟨#[100,111,117,98,108,101]⟩,⟨#[98,105,110,97,114,121]⟩,uE,uT,⟨#[105,51,50]⟩,⟨#[115,116,114,105,110,103]⟩,uP,uU] (typL pre):=by
    unfold Txs typL
    rw [HE.out.eq,HT.out.eq,HPP.out.eq,HU.out.eq];rfl
   obtain ⟨h1,h2⟩:=htx.at_ k (show k<(typL pre).length from h14)
   have hc:=(HB2.out.cell k).trans (row_at _ _ h1)
   obtain ⟨v,hv⟩:∃ v,([⟨#[105,51,50]⟩,⟨#[115,116,114,105,110,103]⟩,⟨#[98,111,111,108]⟩,⟨#[105,56]⟩,⟨#[105,49,54]⟩,⟨#[105,54,52]⟩,⟨#[100,111,117,98,108,101]⟩,⟨#[98,105,110,97,114,121]⟩,uE,uT,⟨#[105,51,50]⟩,⟨#[115,116,114,105,110,103]⟩,uP,uU]:List ByteArray)[k]'h1=v:=⟨_,rfl⟩
   rw [hv] at hc h2
   have H2:=Lib.hid h2
   clear hv h2 htx
   go_wp2_with fail
   go_ret
   rw [hfin.out]
   exact ⟨_,rfl,H2.out,HP2.out,HO2.out⟩
  ·rw [if_neg h14] at hfin
   have d14:decide ((k:Int)<14)=false:=decide_eq_false (by omega)
   by_cases h16:k<16
   ·rw [if_pos h16] at hfin
    have hl:=typ_len pre d r2
    have hl2:=HLEN.out (typP pre d r2).1 (by exact_mod_cast hl)
    have h45:((k:Int) == 14)=true∨((k:Int) == 14)=false∧((k:Int) == 15)=true:=by
     by_cases h:k=14
     ·left;rw [beq_iff_eq];omega
     ·right;exact ⟨by rw [beq_eq_false_iff_ne];omega,by rw [beq_iff_eq];omega⟩
    clear hl h14
    rcases h45 with b14 | ⟨b14,b15⟩
    all_goals
     go_wp2_with fail
     refine (IH.out r2 w2 HP2.out).mono ?_;rintro e w3 ⟨t,rfl,ht,hP3,hO3⟩
     have hts:(t.size:Int)≤3100:=by rw [ht.size];exact hl2
     have HT3:=Lib.hid ht
     clear ht
     go_wp2_with fail
     go_ret
     rw [hfin.out]
     exact ⟨_,rfl,((Tx.of b_list).cat HT3.out).cat (Tx.of [62]),hP3,HO2.out.trans hO3⟩
   ·rw [if_neg h16] at hfin
    have b14:((k:Int) == 14)=false:=by rw [beq_eq_false_iff_ne];omega
    have b15:((k:Int) == 15)=false:=by rw [beq_eq_false_iff_ne];omega
    have hkl:=key_len pre r2
    have hkl2:((keyP pre r2).1.length:Int)≤1006:=by omega
    by_cases hk16:k=16
    ·rw [if_pos hk16] at hfin
     have b16:((k:Int) == 16)=true:=by rw [beq_iff_eq];omega
     clear h14 h16 hkl hk16
     go_wp2_with fail
     refine (key_any b u pre r2 w2 HP2.out HU0.out hpre).mono ?_;rintro e w3 ⟨t,rfl,ht,hP3,hO3⟩
     have hts:(t.size:Int)≤1006:=by rw [ht.size];exact hkl2
     have HT3:=Lib.hid ht
     clear ht
     go_wp2_with fail
     go_ret
     rw [hfin.out]
     exact ⟨_,rfl,((Tx.of b_set).cat HT3.out).cat (Tx.of [62]),hP3,HO2.out.trans hO3⟩
    ·rw [if_neg hk16] at hfin
     have b16:((k:Int) == 16)=false:=by rw [beq_eq_false_iff_ne];omega
     have hl:=typ_len pre d (keyP pre r2).2
     have hl2:=HLEN.out (typP pre d (keyP pre r2).2).1 (by exact_mod_cast hl)
     clear h14 h16 hkl hk16 hl
     go_wp2_with fail
     refine (key_any b u pre r2 w2 HP2.out HU0.out hpre).mono ?_;rintro e w3 ⟨t,rfl,ht,hP3,hO3⟩
     have hts:(t.size:Int)≤1006:=by rw [ht.size];exact hkl2
     have HT3:=Lib.hid ht
     clear ht
     go_wp2_with fail
     refine (IH.out _ w3 hP3).mono ?_;rintro e w4 ⟨t4,rfl,ht4,hP4,hO4⟩
     have hts4:(t4.size:Int)≤3100:=by rw [ht4.size];exact hl2
     have HT4:=Lib.hid ht4
     clear ht4
     go_wp2_with fail
     go_ret
     rw [hfin.out]
     exact ⟨_,rfl,((((Tx.of b_map).cat HT3.out).cat (Tx.of [44])).cat HT4.out).cat (Tx.of [62]),hP4,(HO2.out.trans hO3).trans hO4⟩
end Go.Proofs.YteclejplbphkpaaGreat
