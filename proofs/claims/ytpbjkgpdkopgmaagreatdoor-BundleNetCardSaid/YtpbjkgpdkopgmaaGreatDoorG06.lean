/- The contracts of big: a row that the call makes and writes; order, sums, differences. The contracts of big: sums, differences, products, powers of ten. The contracts of big: products, powers of ten. The contracts of big: powers of ten, shifts. -/
import Derived.Test.YtpbjkgpdkopgmaaGreatDoorG05
import Derived.Test.YtpbjkgpdkopgmaaGreatDoorG01
set_option linter.unusedVariables false
set_option linter.unusedSimpArgs false
set_option linter.unnecessarySimpa false
namespace Go.Proofs.YtpbjkgpdkopgmaaGreatDoor
open Go.RowKit
structure Row (w:World) (B g off cap:Nat) (xs:List UInt32):Prop where
 hB:B≤g
 hg:g<w.heap.size
 hn:xs.length≤cap
 hm:cap≤maxLen
 hs:∀ j,j<cap→(w.cell? ⟨g,off+j,none⟩).isSome=true∧w.frozen? ⟨g,off+j,none⟩=false
 hc:∀ j (h:j<xs.length),w.cell? ⟨g,off+j,none⟩=some (uv xs[j])
theorem Row.rd {w:World} {B g off cap:Nat} {xs:List UInt32} (h:Row w B g off cap xs):Rd uv w (some ⟨g,off,none⟩) xs:=fun _=>⟨g,off,rfl,h.hg,h.hc⟩
theorem Row.gen {w:World} {B g off cap:Nat} {xs:List UInt32} (h:Row w B g off cap xs):OwnG uv w B (.slice (some ⟨g,off,none⟩) xs.length cap) xs:=.inr ⟨g,off,cap,rfl,h.hB,h.hg,h.hn,h.hm,h.hs,h.hc⟩
theorem Row.of_gen {w:World} {B g off cap n:Nat} {xs:List UInt32} (h:OwnG uv w B (.slice (some ⟨g,off,none⟩) n cap) xs):Row w B g off cap xs:=by
 rcases h with ⟨h,_⟩ | ⟨g',off',cap',h1,h2,h3,h4,h5,h6,h7⟩
 ·cases h
 ·injection h1 with e1 e2 e3;injection e1 with e1;injection e1 with e4 e5;subst e4 e5 e3;exact ⟨h2,h3,h4,h5,h6,h7⟩
theorem Row.below {w w':World} {B g off cap:Nat} {xs:List UInt32} (h:Row w B g off cap xs) (hb:Below w.heap.size w w'):Row w' B g off cap xs:=Row.of_gen (h.gen.below hb)
theorem Row.less {w:World} {B B' g off cap:Nat} {xs:List UInt32} (h:Row w B g off cap xs) (hB:B'≤B):Row w B' g off cap xs:={ h with hB:=Nat.le_trans hB h.hB }
theorem Row.set_ {w:World} {B g off cap i:Nat} {xs:List UInt32} {y:UInt32} (h:Row w B g off cap xs) (hi:i<xs.length):Row (w.setCell ⟨g,off+i,none⟩ (uv y)) B g off cap (xs.set i y) :=
 Row.of_gen (h.gen.set_ hi)
theorem Row.drew {w:World} {B g off cap:Nat} {xs:List UInt32} (h:Row w B g off cap xs):Row w.drew B g off cap xs:=⟨h.hB,h.hg,h.hn,h.hm,h.hs,h.hc⟩
theorem Row.cell {w:World} {B g off cap:Nat} {xs:List UInt32} (h:Row w B g off cap xs) {i a:Nat} (hi:i<xs.length) (ha:Hid (ent xs i=a)):w.cell? ⟨g,off+i,none⟩=some (.int .u32 (a:Int)):=by
 rw [h.hc i hi,← ha.out,uv,ent,List.getD,List.getElem?_eq_getElem hi];rfl
theorem Row.free {w:World} {B g off cap:Nat} {xs:List UInt32} (h:Row w B g off cap xs) {i:Nat} (hi:i<xs.length):w.frozen? ⟨g,off+i,none⟩=false:=(h.hs i (Nat.lt_of_lt_of_le hi h.hn)).2
theorem Row.put {w:World} {B g off cap i:Nat} {xs:List UInt32} (h:Row w B g off cap xs) (hi:i<xs.length) (n:Nat):Row (w.setCell ⟨g,off+i,none⟩ (uv (UInt32.ofNat n))) B g off cap (xs.set i (UInt32.ofNat n)):=h.set_ hi
theorem rd_cell {w:World} {A:Option Addr} {xs:List UInt32} (h:Rd uv w A xs) {i a:Nat} (hi:i<xs.length) (ha:Hid (ent xs i=a)):∃ b off,A=some ⟨b,off,none⟩∧b<w.heap.size∧w.cell? ⟨b,off+i,none⟩=some (.int .u32 (a:Int)):=by
 obtain ⟨b,off,h1,h2,h3⟩:=h.at_ hi
 refine ⟨b,off,h1,h2,?_⟩
 rw [h3,← ha.out,uv,ent,List.getD,List.getElem?_eq_getElem hi];rfl
section
variable {P:Program} (w:World) {ops:Array Oper} {rest:List Oper} {o:Oper} {a:Act} {Q:Exit→Act→World→Prop}
theorem wpList_mke {t e:TypeId} {by_:Nat} (T:ElT P t e by_) (hz0:∀ i,P.info? e=some i→i.zero=some (uv 0)) (hgd:o.guard=none) (l c:Operand) (hop:o.op=Op.makeSlice t l c)
  (B:Nat) (kl kc:IntKind) (N:Int) (hl:a.eval l = .int kl N) (hc:a.eval c = .int kc N) (h0:0≤N) (hby:by_ * N≤281474976710656) (hm:N≤281474976710656) (hB:B≤w.heap.size)
  (h:∀ g off cap w' (zs:List UInt32),Row w' B g off cap zs→Hid (zs=List.replicate N.toNat 0)→(zs.length:Int)≤N→N≤(zs.length:Int)→Below B w w'→w.heap.size≤g→wpList P ops Q rest (a.put o.dst (.slice (some ⟨g,off,none⟩) zs.length cap)) w'):wpList P ops Q (o :: rest) a w:=by
 obtain ⟨i,z,hi,hz,h1,h2,h3⟩:=T.inf
 obtain rfl:z=uv 0:=by have:=hz0 i hi;rw [hz] at this;injection this
 refine wpList_plain hgd fun K hK=>?_
 have hrun:=run_make (P:=P) w t e i (uv 0) T.ht hi hz kl kc N N h0 (Int.le_refl _) (by rw [h2];exact hby) (by omega)
 rw [h1,Nat.mul_one] at hrun
 have hmc:(madeCells (uv 0).cells N.toNat).toList=List.replicate N.toNat (uv 0):=by
  rw [show (uv 0).cells=#[uv 0] from rfl]
  apply List.ext_getElem
  ·simp [madeCells]
  ·intro j h1 h2
   simp [madeCells,Nat.mod_one]
 have hsz:(madeCells (uv 0).cells N.toNat).size=N.toNat:=by rw [← Array.length_toList,hmc];simp
 have hown:OwnG uv (w.alloc (.cells (madeCells (uv 0).cells N.toNat) e)) B (.slice (some ⟨w.heap.size,0,none⟩) (List.replicate N.toNat (0:UInt32)).length N.toNat) (List.replicate N.toNat 0) :=
  Own.gen (e:=e) ⟨by simp,.inr ⟨w.heap.size,N.toNat,_,rfl,hB,heap_alloc_new w _,by simp,by simp only [maxLen];omega,by omega,by rw [hmc];simp⟩⟩
 have:=hK _ _ (h _ _ _ _ _ (Row.of_gen hown) rfl (by rw [List.length_replicate];omega) (by rw [List.length_replicate];omega) ((Below.refl B w).alloc hB _) (Nat.le_refl _))
 unfold Oper.wp execOp
 simp only [hop,Sem.run_bind,Sem.run_pure,Result.andThen_ok,hl,hc,hrun]
 simp only [List.length_replicate] at this
 exact this
end
theorem trim_n (A:Option Addr) (xs:List UInt32) (n c:Nat) (w:World) (hn:Hid (xs.length=n)) (hr:Rd uv w A xs) (hc:xs.length≤c) (hm:c≤maxLen) (hl:(xs.length:Int)≤1000000) :
  Calls Tryz.prog 251 #[.slice A n c] w fun e w'=>∃ v',e = .returned v'∧IsNum w v' (val xs)∧w=w':=by
 have:=hn.out;subst this;exact trim_any A xs c w hr hc hm hl
theorem cmpI_len (x y:Nat) (h:(limbs x).length≠(limbs y).length):cmpZ (limbs x).length (limbs y).length=cmpI x y:=by
 unfold cmpZ cmpI
 rcases Nat.lt_or_ge (limbs x).length (limbs y).length with h1 | h1
 ·rw [if_pos (by omega),if_pos (limbs_less _ _ h1)]
 ·have h2:=limbs_less y x (by omega)
  rw [if_neg (by omega),if_pos (by omega),if_neg (by omega),if_pos h2]
set_option maxRecDepth 100000 in
set_option maxHeartbeats 1600000 in
theorem cmp_any (A:Option Addr) (xs:List UInt32) (c:Nat) (B:Option Addr) (ys:List UInt32) (d:Nat) (w:World) (hr:Rd uv w A xs) (hc:xs.length≤c) (hm:c≤maxLen) (hl:(xs.length:Int)≤1000000) (hs:Rd uv w B ys) (hd:ys.length≤d) (hm2:d≤maxLen) (hl2:(ys.length:Int)≤1000000) :
  Calls Tryz.prog 268 #[.slice A xs.length c,.slice B ys.length d] w fun e w'=>e = .returned (.int .i64 (cmpI (val xs) (val ys)))∧Below w.heap.size w w':=by
 go_enter Tryz.func268,Tryz.ntmps268
 go_wp2_with fail
 refine (trim_any A xs c _ hr hc hm hl).mono ?_;rintro e w1 ⟨v1,rfl,hn1,rfl⟩
 obtain ⟨A1,c1,us,rfl,hr1,hc1,hm1,hl1,HU,HVU⟩:=hn1.open_ xs.length (val_lt xs)
 clear hn1
 go_wp2_with fail
 refine (trim_any B ys d _ hs hd hm2 hl2).mono ?_;rintro e w1 ⟨v2,rfl,hn2,rfl⟩
 obtain ⟨A2,c2,vs,rfl,hr2,hc2,hm2',hl2',HW,HVW⟩:=hn2.open_ ys.length (val_lt ys)
 clear hn2
 have hul:(us.length:Int)≤1000000:=by omega
 have hvl:(vs.length:Int)≤1000000:=by omega
 clear hl1 hl2'
 by_cases hlen:us.length=vs.length
 ·have b1:((us.length:Int) != (vs.length:Int))=false:=by rw [hlen];simp
  have HLEN:=Lib.hid hlen
  have hle:us.length≤vs.length:=by omega
  clear hlen
  go_wp2_with fail
  go_loopw [5] (fun v wr=>∃ m:Nat,v = .int .i64 ((m:Int) - 1)∧m≤us.length∧Hid (∀ j,m≤j→ent us j=ent vs j)∧Nx w wr) (fun v _=>(intOf v+1).toNat)
  case atStart =>
   refine ⟨us.length,rfl,Nat.le_refl _,fun j hj=>?_,Nx.refl _⟩
   have:=HLEN.out
   unfold ent
   rw [List.getD,List.getD,List.getElem?_eq_none (by omega),List.getElem?_eq_none (by omega)]
  case round =>
   obtain ⟨m,rfl,hm,HE,hb⟩:=hrel
   rcases m with _ | m
   ·have hz:Hid (cmpI (val xs) (val ys)=0):=by
     have:=val_ext us vs fun j=>HE.out j (Nat.zero_le _)
     rw [HVU.out,HVW.out] at this
     unfold Hid cmpI;rw [this];simp
    go_wp2_with fail
    go_ret
    refine ⟨?_,hb⟩
    rw [hz.out]
    rfl
   ·obtain ⟨a,HX⟩:∃ a,Hid (ent us m=a):=⟨_,rfl⟩
    obtain ⟨b,HY⟩:∃ b,Hid (ent vs m=b):=⟨_,rfl⟩
    obtain ⟨b1',off1,rfl,hb1',hcx⟩:=rd_cell (hr1.below hb) (i:=m) (by omega) HX
    obtain ⟨b2',off2,rfl,hb2',hcy⟩:=rd_cell (hr2.below hb) (i:=m) (by omega) HY
    have hmv:m<vs.length:=by omega
    have hmu:m<us.length:=by omega
    by_cases hab:a=b
    ·subst hab
     have g1:((a:Int) != (a:Int))=false:=by simp
     go_upto_region 7 with (fail)
     refine wp_region_hyb [(0,true),(1,true),(2,true),(3,true),(4,true),(5,true),(6,true),(7,true),(8,true)] (by kernel_rfl) (by kernel_rfl) ?_
     have f1:∀ x:Gr wr,x.1.cell? ⟨b1',off1+m,none⟩=some (.int .u32 (a:Int)):=fun x=>(x.2.cell (by exact hb1')).trans hcx
     have f2:∀ x:Gr wr,x.1.cell? ⟨b2',off2+m,none⟩=some (.int .u32 (a:Int)):=fun x=>(x.2.cell (by exact hb2')).trans hcy
     iterate 9 (refine hyb_calm rfl (fun K hK=>?_);go_simp;refine hK _ ?_;clear hK K)
     clear f1 f2
     refine hyb_nil (fun w3 hn3=>?_)
     go_wp2_with fail
     go_roundw
     case rel =>
      refine ⟨m,by go_num,by omega,fun j hj=>?_,hb.trans hn3⟩
      by_cases hjm:j=m
      ·subst hjm;rw [HX.out,HY.out]
      ·exact HE.out j (by omega)
     case measure=>simp [intOf]
    ·have g1:((a:Int) != (b:Int))=true:=by simp;omega
     have hz:Hid (cmpZ a b=cmpI (val xs) (val ys)):=by
      unfold Hid
      rw [← HVU.out,← HVW.out]
      unfold cmpZ cmpI
      rcases Nat.lt_or_ge a b with h | h
      ·rw [if_pos (by omega),if_pos (val_less us vs m HE.out (by rw [HX.out,HY.out];exact h))]
      ·have h3:=val_less vs us m (fun j hj=>(HE.out j hj).symm) (by rw [HX.out,HY.out];omega)
       rw [if_neg (by omega),if_pos (by omega),if_neg (by omega),if_pos h3]
     clear hab
     go_upto_region 7 with (fail)
     refine wp_region_hyb [(0,true),(1,true),(2,true),(3,true),(4,true),(5,true),(6,true),(7,true),(8,true)] (by kernel_rfl) (by kernel_rfl) ?_
     have f1:∀ x:Gr wr,x.1.cell? ⟨b1',off1+m,none⟩=some (.int .u32 (a:Int)):=fun x=>(x.2.cell (by exact hb1')).trans hcx
     have f2:∀ x:Gr wr,x.1.cell? ⟨b2',off2+m,none⟩=some (.int .u32 (b:Int)):=fun x=>(x.2.cell (by exact hb2')).trans hcy
     iterate 9 (refine hyb_calm rfl (fun K hK=>?_);go_simp;refine hK _ ?_;clear hK K)
     refine hyb_nil (fun w3 hn3=>?_)
     have f1':∀ x:Gr w3,x.1.cell? ⟨b1',off1+m,none⟩=some (.int .u32 (a:Int)):=fun x=>f1 ⟨x.1,hn3.trans x.2⟩
     have f2':∀ x:Gr w3,x.1.cell? ⟨b2',off2+m,none⟩=some (.int .u32 (b:Int)):=fun x=>f2 ⟨x.1,hn3.trans x.2⟩
     clear f1 f2
     go_upto_region 8 with (fail)
     refine wp_region_hyb [(0,true),(1,true),(2,true),(3,true),(4,true),(5,true),(6,true),(7,true),(8,false),(9,true)] (by kernel_rfl) (by kernel_rfl) ?_
     iterate 8 (refine hyb_calm rfl (fun K hK=>?_);go_simp;refine hK _ ?_;clear hK K)
     clear f1' f2'
     refine hyb_alone rfl (fun w4 hn4 K hK=>?_)
     go_simp
     refine (cmpU32_any a b _).mono ?_;rintro e w' ⟨rfl,rfl⟩
     refine hK _ _ (Nx.refl _) ?_
     clear hK K
     refine hyb_calm rfl (fun K hK=>?_);go_simp;refine hK _ ?_;clear hK K
     refine hyb_nil (fun w5 hn5=>?_)
     go_wp2
     go_ret
     refine ⟨?_,hb.trans (hn3.trans (hn4.trans hn5))⟩
     rw [← hz.out]
     rfl
 ·have b1:((us.length:Int) != (vs.length:Int))=true:=by simp;omega
  have hz:Hid (cmpZ us.length vs.length=cmpI (val xs) (val ys)):=by
   unfold Hid
   rw [HU.out,HW.out] at hlen ⊢
   exact cmpI_len _ _ hlen
  clear hlen
  go_wp2_with fail
  refine (cmpInt_any _ _ _).mono ?_;rintro e w' ⟨rfl,rfl⟩
  rw [hz.out]
  go_wp2_with fail
  go_ret
  exact ⟨rfl,Below.refl _ _⟩
end Go.Proofs.YtpbjkgpdkopgmaaGreatDoor
namespace Go.Proofs.YtpbjkgpdkopgmaaGreatDoor
open Go.RowKit
theorem set_zero (l:List UInt32) (i n:Nat) (hi:i<l.length) (h0:ent l i=0):val (l.set i (UInt32.ofNat n))=val l+4294967296 ^ i * (n % 4294967296):=by
 have:=val_set l i hi (UInt32.ofNat n)
 have h0':(l.getD i 0).toNat=0:=h0
 rw [h0',UInt32.toNat_ofNat'] at this
 simpa using this
theorem ent_set_ne (l:List UInt32) (i j:Nat) (y:UInt32) (h:i≠j):ent (l.set i y) j=ent l j:=by
 unfold ent;rw [List.getD,List.getD,List.getElem?_set_ne h]
theorem ent_zeros (n j:Nat):ent (List.replicate n 0) j=0:=by
 unfold ent;rw [List.getD,List.getElem?_replicate];split <;> rfl
set_option maxRecDepth 100000 in
set_option maxHeartbeats 1600000 in
theorem add_any (A:Option Addr) (xs:List UInt32) (c:Nat) (B:Option Addr) (ys:List UInt32) (d:Nat) (w:World) (hr:Rd uv w A xs) (hc:xs.length≤c) (hl:(xs.length:Int)≤100000) (hs:Rd uv w B ys) (hd:ys.length≤d) (hl2:(ys.length:Int)≤100000) :
  Calls Tryz.prog 249 #[.slice A xs.length c,.slice B ys.length d] w fun e w'=>∃ v',e = .returned v'∧IsNum w' v' (val xs+val ys)∧Below w.heap.size w w':=by
 obtain ⟨M,hM,hM1,hM2,hM3⟩:∃ M:Nat,max (xs.length:Int) (ys.length:Int)=(M:Int)∧xs.length≤M∧ys.length≤M∧(M:Int)≤100000:=by
  by_cases h:xs.length<ys.length
  ·exact ⟨ys.length,by omega,by omega,by omega,hl2⟩
  ·exact ⟨xs.length,by omega,by omega,by omega,hl⟩
 go_enter Tryz.func249,Tryz.ntmps249
 go_wp2_with (at_make;go_must (refine wpList_mke _ uT uZ rfl _ _ rfl w.heap.size _ _ ((M:Int)+1) rfl rfl (by omega) (by omega) (by omega) (Nat.le_refl _) ?_;intro g off cap w1 zs hrow1 HZ1 hz1 hz2 hb1 hg1))
 clear hM
 have HR:=Lib.hid hrow1
 clear hrow1
 go_loopw [6,18] (fun v i wr=>∃ (k cc:Nat) (os:List UInt32),i = .int .i64 k∧v = .int .u64 cc∧cc≤1∧k≤zs.length∧os.length≤zs.length∧zs.length≤os.length ∧
  Hid (val os+cc * 4294967296 ^ k=val xs % 4294967296 ^ k+val ys % 4294967296 ^ k)∧Hid (∀ j,k≤j→ent os j=0)∧Row wr w.heap.size g off cap os∧Below w.heap.size w wr) (fun _ i _=>zs.length - (intOf i).toNat)
 case atStart =>
  refine ⟨0,0,zs,rfl,rfl,by omega,by omega,by omega,by omega,?_,?_,HR.out,hb1⟩
  ·unfold Hid;rw [HZ1.out,val_zeros];simp [Nat.mod_one]
  ·intro j _;rw [HZ1.out];exact ent_zeros _ _
 case round =>
  obtain ⟨k,cc,os,rfl,rfl,hcc,hk,ho1,ho2,HV,HE,hrow,hbel⟩:=hrel
  have hrw:=hr.below hbel
  have hsw:=hs.below hbel
  by_cases hlt:k<zs.length
  ·obtain ⟨a,HX⟩:∃ a,Hid (ent xs k=a):=⟨_,rfl⟩
   obtain ⟨b,HY⟩:∃ b,Hid (ent ys k=b):=⟨_,rfl⟩
   have la:(a:Int)≤4294967295:=by rw [← HX.out];exact ent_le xs k
   have lb:(b:Int)≤4294967295:=by rw [← HY.out];exact ent_le ys k
   have h0:Hid (ent os k=0):=HE.out k (Nat.le_refl _)
   have hco:=hrow.cell (by omega) h0
   have hfo:=hrow.free (i:=k) (by omega)
   have HST:=Lib.hid (hrow.put (i:=k) (by omega) (a+b+cc))
   have HBS:=Lib.hid (hbel.setCell (p:=⟨g,off+k,none⟩) hrow.hB (uv (UInt32.ofNat (a+b+cc))))
   have b1:decide (k<zs.length)=true:=decide_eq_true hlt
   clear hrow
   go_wp2_with fail
   refine (elem_any A xs c k _ hrw hc (by omega) (by omega)).mono ?_;rintro e w' ⟨rfl,rfl⟩
   rw [HX.out]
   go_wp2_with fail
   refine (elem_any B ys d k _ hsw hd (by omega) (by omega)).mono ?_;rintro e w' ⟨rfl,rfl⟩
   rw [HY.out]
   go_wp2_with fail
   go_roundw
   case rel =>
    have hu:Value.int .u32 (((a:Int)+b+cc) % 4294967296)=uv (UInt32.ofNat (a+b+cc)):=uv_ofNat _ _ (by omega)
    rw [hu]
    refine ⟨k+1,(a+b+cc) / 4294967296,os.set k (UInt32.ofNat (a+b+cc)),by go_num,by go_num,by omega,by omega,by simpa using ho1,by simpa using ho2,?_,?_,HST.out,HBS.out⟩
    ·unfold Hid
     have:=add_step (val os) cc (4294967296 ^ k) (val xs) (val ys) (a+b+cc) (by rw [← HX.out,← HY.out,ent_val,ent_val];omega) HV.out
     rw [set_zero os k _ (by omega) h0.out,Nat.pow_succ]
     exact this
    ·intro j hj
     rw [ent_set_ne _ _ _ _ (by omega)]
     exact HE.out j (by omega)
   case measure=>simp [intOf];omega
  ·obtain rfl:k=zs.length:=by omega
   have b1:decide (zs.length<zs.length)=false:=decide_eq_false (by omega)
   have hfin:Hid (val os=val xs+val ys):=by
    unfold Hid
    have h:=HV.out
    have h1:=val_lt xs
    have h2:=val_lt ys
    have h3:4294967296 ^ xs.length≤4294967296 ^ M:=Nat.pow_le_pow_right (by decide) hM1
    have h4:4294967296 ^ ys.length≤4294967296 ^ M:=Nat.pow_le_pow_right (by decide) hM2
    have h5:4294967296 ^ zs.length=4294967296 ^ M * 4294967296:=by rw [show zs.length=M+1 from by omega,Nat.pow_succ]
    rw [h5,Nat.mod_eq_of_lt (by omega),Nat.mod_eq_of_lt (by omega)] at h
    rcases (by omega:cc=0∨cc=1) with rfl | rfl <;> omega
   have HL:Hid (os.length=zs.length):=by unfold Hid;omega
   go_wp2_with fail
   refine (trim_n _ os _ cap _ HL hrow.rd hrow.hn hrow.hm (by omega)).mono ?_;rintro e w2 ⟨v2,rfl,hn2,rfl⟩
   rw [hfin.out] at hn2
   go_wp2_with fail
   go_ret
   exact ⟨_,rfl,hn2,hbel⟩
end Go.Proofs.YtpbjkgpdkopgmaaGreatDoor
namespace Go.Proofs.YtpbjkgpdkopgmaaGreatDoor
open Go.RowKit
set_option maxRecDepth 100000 in
set_option maxHeartbeats 1600000 in
theorem mul_any (A:Option Addr) (xs:List UInt32) (c:Nat) (B:Option Addr) (ys:List UInt32) (d:Nat) (w:World) (hr:Rd uv w A xs) (hc:xs.length≤c) (hl:(xs.length:Int)≤100000) (hs:Rd uv w B ys) (hd:ys.length≤d) (hl2:(ys.length:Int)≤100000) :
  Calls Tryz.prog 250 #[.slice A xs.length c,.slice B ys.length d] w fun e w'=>∃ v',e = .returned v'∧IsNum w' v' (val xs * val ys)∧Below w.heap.size w w':=by
 go_enter Tryz.func250,Tryz.ntmps250
 go_wp2_with (at_make;go_must (refine wpList_mke _ uT uZ rfl _ _ rfl w.heap.size _ _ ((xs.length:Int)+ys.length) rfl rfl (by omega) (by omega) (by omega) (Nat.le_refl _) ?_;intro g off cap w1 zs hrow1 HZ1 hz1 hz2 hb1 hg1))
 have HR:=Lib.hid hrow1
 clear hrow1 hg1
 go_loopw [20] (fun v wr=>∃ (i:Nat) (os:List UInt32),v = .int .i64 i∧i≤xs.length∧os.length≤zs.length∧zs.length≤os.length∧Hid (val os=val (xs.take i) * val ys)∧Hid (∀ j,i+ys.length≤j→ent os j=0) ∧
  Row wr w.heap.size g off cap os∧Below w.heap.size w wr) (fun v _=>xs.length - (intOf v).toNat)
 case atStart =>
  refine ⟨0,zs,rfl,Nat.zero_le _,Nat.le_refl _,Nat.le_refl _,?_,?_,HR.out,hb1⟩
  ·unfold Hid;rw [HZ1.out,val_zeros];simp [val]
  ·intro j _;rw [HZ1.out];exact ent_zeros _ _
 case round =>
  obtain ⟨i,os,rfl,hi,ho1,ho2,HV,HE,hrow,hbel⟩:=hrel
  by_cases hlt:i<xs.length
  ·obtain ⟨a,HX⟩:∃ a,Hid (ent xs i=a):=⟨_,rfl⟩
   have la:(a:Int)≤4294967295:=by rw [← HX.out];exact ent_le xs i
   have b0:decide (i<xs.length)=true:=decide_eq_true hlt
   obtain ⟨bx,offx,rfl,hbx,hcx⟩:=rd_cell (hr.below hbel) hlt HX
   have HO:=Lib.hid hrow
   clear hrow
   go_wp2_with fail
   obtain ⟨wo,rfl⟩:∃ wo:World,wo=wr:=⟨_,rfl⟩
   go_loopw [8,27] (fun v u wq=>∃ (k cc:Nat) (us:List UInt32),u = .int .i64 k∧v = .int .u64 cc∧(cc:Int)≤4294967295∧k≤ys.length∧us.length≤zs.length∧zs.length≤us.length ∧
    Hid (val us+cc * 4294967296 ^ (i+k)=val (xs.take i) * val ys+a * (val ys % 4294967296 ^ k) * 4294967296 ^ i)∧Hid (∀ j,i+ys.length≤j→ent us j=0) ∧
    Row wq w.heap.size g off cap us∧Below w.heap.size w wq) (fun _ u _=>ys.length - (intOf u).toNat)
   case atStart=>exact ⟨0,0,os,rfl,rfl,by omega,Nat.zero_le _,ho1,ho2,by unfold Hid;rw [HV.out];simp [Nat.mod_one],HE,HO.out,hbel⟩
   case round =>
    obtain ⟨k,cc,us,rfl,rfl,hcc,hk,hu1,hu2,HU,HF,hgw,hbw⟩:=hrel
    by_cases hlk:k<ys.length
    ·obtain ⟨b,HY⟩:∃ b,Hid (ent ys k=b):=⟨_,rfl⟩
     obtain ⟨o,HO2⟩:∃ o,Hid (ent us (i+k)=o):=⟨_,rfl⟩
     have lb:(b:Int)≤4294967295:=by rw [← HY.out];exact ent_le ys k
     have lo:(o:Int)≤4294967295:=by rw [← HO2.out];exact ent_le us (i+k)
     have lab:(a:Int) * (b:Int)≤18446744065119617025:=by
      have:=Int.mul_le_mul la lb (by omega) (by omega)
      omega
     have lab0:0≤(a:Int) * (b:Int):=Int.mul_nonneg (by omega) (by omega)
     obtain ⟨by_,offy,eB,hby,hcy⟩:=rd_cell (hs.below hbw) hlk HY
     subst eB
     have hco:=hgw.cell (i:=i+k) (by omega) HO2
     have hf1:=hgw.free (i:=i+k) (by omega)
     have HST:=Lib.hid (hgw.put (i:=i+k) (by omega) (cc+o+a * b))
     have HBS:=Lib.hid (hbw.setCell (p:=⟨g,off+(i+k),none⟩) hgw.hB (uv (UInt32.ofNat (cc+o+a * b))))
     have hik:i+k<zs.length:=by omega
     have b1:decide (k<ys.length)=true:=decide_eq_true hlk
     clear hgw
     go_wp2_with fail
     go_roundw
     case rel =>
      have hcast:((cc+o+a * b:Nat):Int)=(a:Int) * b+o+cc:=by rw [Int.natCast_add,Int.natCast_add,Int.natCast_mul];omega
      have hu:Value.int .u32 (((a:Int) * b+o+cc) % 4294967296)=uv (UInt32.ofNat (cc+o+a * b)):=uv_ofNat _ _ (by omega)
      have hS:cc+o+a * b≤18446744073709551615:=by omega
      rw [hu]
      refine ⟨k+1,(cc+o+a * b) / 4294967296,us.set (i+k) (UInt32.ofNat (cc+o+a * b)),by go_num,congrArg (Value.int IntKind.u64) (by omega),by omega,by omega,by simpa using hu1,by simpa using hu2,?_,?_,HST.out,HBS.out⟩
      ·unfold Hid
       have hset:=val_set us (i+k) (by omega) (UInt32.ofNat (cc+o+a * b))
       have ho:(us.getD (i+k) 0).toNat=o:=HO2.out
       rw [ho,UInt32.toNat_ofNat'] at hset
       have hyk:b=val ys / 4294967296 ^ k % 4294967296:=by rw [← HY.out,ent_val]
       have:=mul_step (val us) _ cc (4294967296 ^ (i+k)) (4294967296 ^ i) (val (xs.take i) * val ys) a b o (cc+o+a * b) (val ys) (4294967296 ^ k) (Nat.pow_add _ _ _) rfl hyk hset HU.out
       rw [← Nat.add_assoc,Nat.pow_succ,Nat.pow_succ]
       exact this
      ·intro j hj
       rw [ent_set_ne _ _ _ _ (by omega)]
       exact HF.out j hj
     case measure=>simp [intOf];omega
    ·obtain rfl:k=ys.length:=by omega
     have b1:decide (ys.length<ys.length)=false:=decide_eq_false (by omega)
     have hz:Hid (ent us (i+ys.length)=0):=HF.out _ (Nat.le_refl _)
     have hco:=hgw.cell (i:=i+ys.length) (by omega) hz
     have hf1:=hgw.free (i:=i+ys.length) (by omega)
     have HST:=Lib.hid (hgw.put (i:=i+ys.length) (by omega) cc)
     have HBS:=Lib.hid (hbw.setCell (p:=⟨g,off+(i+ys.length),none⟩) hgw.hB (uv (UInt32.ofNat cc)))
     have hik:i+ys.length<zs.length:=by omega
     clear hgw
     go_wp2_with fail
     go_roundw
     case rel =>
      have hu:Value.int .u32 (cc:Int)=uv (UInt32.ofNat cc):=uv_ofNat _ _ (by omega)
      rw [hu]
      refine ⟨i+1,us.set (i+ys.length) (UInt32.ofNat cc),by go_num,by omega,by simpa using hu1,by simpa using hu2,?_,?_,HST.out,HBS.out⟩
      ·unfold Hid
       have hset:=set_zero us (i+ys.length) cc (by omega) hz.out
       rw [Nat.mod_eq_of_lt (a:=cc) (by omega)] at hset
       have hU:=HU.out
       rw [Nat.mod_eq_of_lt (val_lt ys)] at hU
       rw [hset,List.take_succ_eq_append_getElem hlt,val_snoc,List.length_take,Nat.min_eq_left (by omega),Nat.add_mul,Nat.mul_comm (4294967296 ^ (i+ys.length)),hU]
       have hx:xs[i].toNat=a:=by rw [← HX.out,ent,List.getD,List.getElem?_eq_getElem hlt];rfl
       rw [hx,Nat.mul_comm (4294967296 ^ i) a,Nat.mul_assoc a,Nat.mul_assoc a,Nat.mul_comm (val ys)]
      ·intro j hj
       rw [ent_set_ne _ _ _ _ (by omega)]
       exact HF.out j (by omega)
     case measure=>simp [intOf];omega
  ·obtain rfl:i=xs.length:=by omega
   have b0:decide (xs.length<xs.length)=false:=decide_eq_false (by omega)
   have hfin:Hid (val os=val xs * val ys):=by unfold Hid;rw [HV.out,List.take_length]
   have HLL:Hid (os.length=zs.length):=by unfold Hid;omega
   go_wp2_with fail
   refine (trim_n _ os _ cap _ HLL hrow.rd hrow.hn hrow.hm (by omega)).mono ?_;rintro e w2 ⟨v2,rfl,hn2,rfl⟩
   rw [hfin.out] at hn2
   go_wp2_with fail
   go_ret
   exact ⟨_,rfl,hn2,hbel⟩
end Go.Proofs.YtpbjkgpdkopgmaaGreatDoor
namespace Go.Proofs.YtpbjkgpdkopgmaaGreatDoor
open Go.RowKit
theorem and_one64i (i:Nat) (hi:i<9223372036854775808):bits BinOp.and IntKind.i64 (i:Int) 1=((i % 2:Nat):Int):=by
 have t63:(2:Int) ^ 63=9223372036854775808:=by decide
 have h:=bits_mask .i64 63 (by decide) (fun n h0 h1=>by rw [t63] at h1;rw [IntKind.wrap_i64];omega) 1 (by decide) (i:Int) (by omega) (by rw [t63];omega)
 have e:((2:Int) ^ 1 - 1)=1:=by decide
 rw [e] at h
 rw [h]
 omega
theorem ten_step (a b m N:Nat) (h:a * b ^ m=N):(m % 2=1→(a * b) * (b * b) ^ (m / 2)=N)∧(m % 2=0→a * (b * b) ^ (m / 2)=N):=by
 have e:(b * b) ^ (m / 2)=b ^ (2 * (m / 2)):=by rw [← Nat.pow_two,← Nat.pow_mul]
 rw [e]
 constructor
 ·intro h1
  rw [Nat.mul_assoc,← Nat.pow_succ',show (2 * (m / 2)).succ=m from by omega,h]
 ·intro h1
  rw [show 2 * (m / 2)=m from by omega,h]
theorem ten_bound (n:Nat):10 ^ n<4294967296 ^ (n+1) :=
 Nat.lt_of_le_of_lt (Nat.pow_le_pow_left (show 10≤4294967296 by decide) n) (Nat.pow_lt_pow_right (by decide) (Nat.lt_succ_self n))
set_option maxRecDepth 100000 in
set_option maxHeartbeats 800000 in
theorem ten_any (n:Nat) (w:World) (hn:n≤1000) :
  Calls Tryz.prog 256 #[.int .i64 n] w fun e w'=>∃ v',e = .returned v'∧IsNum w' v' (10 ^ n)∧Below w.heap.size w w':=by
 go_enter Tryz.func256,Tryz.ntmps256
 go_wp2_with fail
 refine (of_any 1 _ (by decide)).mono ?_;rintro e w1 ⟨v1,rfl,hn1,hb1⟩
 go_wp2_with fail
 refine (of_any 10 _ (by decide)).mono ?_;rintro e w2 ⟨v2,rfl,hn2,hb2⟩
 have hn12:=hn1.below hb2
 have hb:=nx hb1 hb2
 go_wp2_with fail
 go_loopw [0,3,4] (fun i p s wr=>∃ m a b:Nat,i = .int .i64 m∧m≤n∧IsNum wr p a∧IsNum wr s b∧Hid (a * b ^ m=10 ^ n)∧Below w.heap.size w wr) (fun i _ _ _=>(intOf i).toNat)
 case atStart=>exact ⟨n,1,10,rfl,Nat.le_refl _,hn12,hn2,Nat.one_mul _,hb⟩
 case round =>
  obtain ⟨m,a,b,rfl,hm,hp,hs,HE,hbel⟩:=hrel
  by_cases h0:m=0
  ·subst h0
   have hfin:a=10 ^ n:=by have:=HE.out;simpa using this
   have HP:=Lib.hid (hp.cast hfin)
   clear hfin
   go_wp2_with fail
   go_ret
   exact ⟨_,rfl,HP.out,hbel⟩
  ·have hpos:0<a * b ^ m:=by rw [HE.out];exact Nat.pow_pos (by decide)
   have ha0:0<a:=Nat.pos_of_mul_pos_right hpos
   have hbm0:0<b ^ m:=Nat.pos_of_mul_pos_left hpos
   have ha:a≤10 ^ n:=by rw [← HE.out];exact Nat.le_mul_of_pos_right _ hbm0
   have hb1':b≤10 ^ n:=by
    rw [← HE.out]
    refine Nat.le_trans ?_ (Nat.le_mul_of_pos_left _ ha0)
    exact Nat.le_self_pow h0 b
   have hA:a<4294967296 ^ (n+1):=Nat.lt_of_le_of_lt ha (ten_bound n)
   have hB:b<4294967296 ^ (n+1):=Nat.lt_of_le_of_lt hb1' (ten_bound n)
   obtain ⟨A1,c1,us,rfl,hr1,hc1,hm1,hl1,-,HV1⟩:=hp.open_ (n+1) hA
   obtain ⟨A2,c2,vs,rfl,hr2,hc2,hm2,hl2,-,HV2⟩:=hs.open_ (n+1) hB
   have hand:=and_one64i m (by omega)
   have st:=ten_step a b m _ HE.out
   have HS:=Lib.hid st
   have hmp:0<m:=by omega
   clear st hA hB hb1' ha hbm0 ha0 hpos h0
   by_cases hodd:m % 2=1
   ·rw [hodd] at hand
    have HOdd:=Lib.hid hodd
    clear hodd
    go_wp2_with fail
    refine (mul_any A1 us c1 A2 vs c2 _ hr1 hc1 (by omega) hr2 hc2 (by omega)).mono ?_;rintro e w3 ⟨v3,rfl,hn3,hb3⟩
    have hr23:=hr2.below hb3
    go_wp2_with fail
    refine (mul_any A2 vs c2 A2 vs c2 _ hr23 hc2 (by omega) hr23 hc2 (by omega)).mono ?_;rintro e w4 ⟨v4,rfl,hn4,hb4⟩
    have hn34:=hn3.below hb4
    rw [HV1.out,HV2.out] at hn34
    rw [HV2.out] at hn4
    go_wp2_with fail
    go_roundw
    case rel=>exact ⟨m / 2,a * b,b * b,by go_num,by omega,hn34,hn4,HS.out.1 HOdd.out,nx (nx hbel hb3) hb4⟩
    case measure=>simp [intOf];omega
   ·have hev:m % 2=0:=by omega
    rw [hev] at hand
    have HEv:=Lib.hid hev
    clear hev hodd
    go_wp2_with fail
    refine (mul_any A2 vs c2 A2 vs c2 _ hr2 hc2 (by omega) hr2 hc2 (by omega)).mono ?_;rintro e w4 ⟨v4,rfl,hn4,hb4⟩
    have hp4:=hp.below hb4
    rw [HV2.out] at hn4
    go_wp2_with fail
    go_roundw
    case rel=>exact ⟨m / 2,a,b * b,by go_num,by omega,hp4,hn4,HS.out.2 HEv.out,nx hbel hb4⟩
    case measure=>simp [intOf];omega
end Go.Proofs.YtpbjkgpdkopgmaaGreatDoor
