/- The contract of big: one digit of a quotient. The contract of big: quotients. The contract of big: quotients, the walk. The contracts of big over numbers that are read, whatever noughts stand behind; the laws' own first question. -/
import Derived.Test.YtpbjkgpdkopgmaaGreatDoorG07
import Derived.Laws.CopyOwn
set_option linter.unusedVariables false
set_option linter.unusedSimpArgs false
set_option linter.unnecessarySimpa false
namespace Go.Proofs.YtpbjkgpdkopgmaaGreatDoor
open Go.RowKit
theorem digit_guess (us ds:List UInt32) (m hi dt qh G:Nat) (hU:us.length=m+2) (hD:ds.length=m+1) (hhi:ent us m+ent us (m+1) * 4294967296=hi) (hdt:ent ds m=dt) (hdt0:0<dt) (hq:hi / dt=qh)
  (hlt:val us<4294967296 * val ds) (hG:qh≤G∨4294967295≤G):val us / val ds≤G:=by
 rcases hG with hG | hG
 ·have hP:0<4294967296 ^ m:=Nat.pow_pos (by decide)
  have h1:=val_lt us
  have h2:=val_lt ds
  rw [hU,show m+2=m+1+1 from rfl,Nat.pow_succ,Nat.pow_succ] at h1
  rw [hD,Nat.pow_succ] at h2
  have h3:val us / 4294967296 ^ m<4294967296 * 4294967296:=Nat.div_lt_of_lt_mul (by rw [← Nat.mul_assoc];exact h1)
  have h4:val ds / 4294967296 ^ m<4294967296:=Nat.div_lt_of_lt_mul h2
  have h5:val us / 4294967296 ^ m=hi:=by
   rw [← hhi,ent_val,ent_val,Nat.pow_succ,← Nat.div_div_eq_div_mul]
   generalize val us / 4294967296 ^ m=W at *
   omega
  have h6:val ds / 4294967296 ^ m=dt:=by
   rw [← hdt,ent_val,Nat.mod_eq_of_lt h4]
  refine Nat.le_trans ?_ hG
  rw [← hq,Nat.le_div_iff_mul_le hdt0,← h5,Nat.le_div_iff_mul_le hP,Nat.mul_assoc]
  refine Nat.le_trans (Nat.mul_le_mul_left _ ?_) (Nat.div_mul_le_self (val us) (val ds))
  rw [← h6];exact Nat.div_mul_le_self _ _
 ·have:val us / val ds<4294967296:=Nat.div_lt_of_lt_mul (by rw [Nat.mul_comm];exact hlt)
  omega
set_option maxRecDepth 100000 in
set_option maxHeartbeats 1600000 in
theorem digit_any (B g off L cap m:Nat) (us:List UInt32) (D:Option Addr) (ds:List UInt32) (dc:Nat) (w:World) (hrow:Row w B g off cap us) (hL:Hid (us.length=L)) (hL1:L≤ds.length+1) (hL2:ds.length+1≤L)
  (hr:Rdx g w D ds) (hd:ds.length≤dc) (hl:(ds.length:Int)≤90000) (hm1:ds.length≤m+1) (hm2:m+1≤ds.length) (htop:Hid (ent ds m≠0)) (hlt:Hid (val us<4294967296 * val ds)) :
  Calls Tryz.prog 275 #[.slice (some ⟨g,off,none⟩) L cap,.slice D ds.length dc] w fun e w'=>∃ us',e = .returned (.int .u32 (val us / val ds:Nat))∧Hid (us'.length=L)∧Row w' B g off cap us'∧Only g off (off+L) w w'∧Hid (val us'=val us % val ds):=by
 obtain ⟨u1,HU1⟩:∃ u,Hid (ent us ds.length=u):=⟨_,rfl⟩
 obtain ⟨u0,HU0⟩:∃ u,Hid (ent us m=u):=⟨_,rfl⟩
 obtain ⟨dt,HD⟩:∃ u,Hid (ent ds m=u):=⟨_,rfl⟩
 have lu1:(u1:Int)≤4294967295:=by rw [← HU1.out];exact ent_le us _
 have lu0:(u0:Int)≤4294967295:=by rw [← HU0.out];exact ent_le us _
 have ld:(dt:Int)≤4294967295:=by rw [← HD.out];exact ent_le ds _
 have ld0:0<dt:=by have:=htop.out;rw [HD.out] at this;omega
 have hUL:us.length=ds.length+1:=by have:=hL.out;omega
 have hc1:=hrow.cell (i:=ds.length) (by omega) HU1
 have hc0:=hrow.cell (i:=m) (by omega) HU0
 obtain ⟨bx,offx,rfl,hbx,hcx⟩:=rd_cell hr.rd (i:=m) (by omega) HD
 clear hUL
 have hgl:=hrow.hg
 have i1:IntKind.i64.wrap ((ds.length:Int) - 1)=(m:Int):=by rw [IntKind.wrap_i64];omega
 have i2:m<L:=by omega
 have i3:ds.length<L:=by omega
 have i4:m<ds.length:=by omega
 obtain ⟨hi,HH⟩:∃ hi,Hid (u0+u1 * 4294967296=hi):=⟨_,rfl⟩
 have hor:bits .or .u64 (IntKind.u64.wrap (IntKind.u64.wrap (u1:Int) * 4294967296)) (IntKind.u64.wrap (u0:Int))=(hi:Int):=by
  have e:∀ x:Int,IntKind.u64.wrap x=x % 18446744073709551616:=fun x=>by simp [IntKind.wrap,IntKind.bits,IntKind.signed]
  have e1:(u1:Int) % 18446744073709551616=u1:=by omega
  have e0:(u0:Int) % 18446744073709551616=u0:=by omega
  have e2:(u1:Int) * 4294967296 % 18446744073709551616=u1 * 4294967296:=by omega
  rw [e,e,e,e1,e2,e0,or_lo u0 u1 lu0 lu1,HH.out]
 have lhi:(hi:Int)≤18446744073709551615:=by have:=HH.out;omega
 go_enter Tryz.func275,Tryz.ntmps275
 go_upto_region 2 with (fail)
 have f1:∀ x:Gr w,x.1.cell? ⟨g,off+ds.length,none⟩=some (.int .u32 (u1:Int)):=fun x=>(x.2.cell (by exact hgl)).trans hc1
 have f0:∀ x:Gr w,x.1.cell? ⟨g,off+m,none⟩=some (.int .u32 (u0:Int)):=fun x=>(x.2.cell (by exact hgl)).trans hc0
 refine wp_region_hyb [(0,true),(1,true),(2,true),(3,true),(4,true),(5,true),(6,true),(7,true),(8,true),(9,true),(10,true),(11,true),(12,true),(13,true)] (by kernel_rfl) (by kernel_rfl) ?_
 iterate 14 (refine hyb_calm rfl (fun K hK=>?_);go_simp;refine hK _ ?_;clear hK K)
 clear f1 f0
 refine hyb_nil (fun w1 hn1=>?_)
 have hrow1:=hrow.below hn1
 have honly1:=(Only.refl g off (off+L) w).nx hgl hn1
 have hrx1:=hr.only honly1
 have hcx1:w1.cell? ⟨bx,offx+m,none⟩=some (.int .u32 (dt:Int)):=(hn1.cell (by exact hbx)).trans hcx
 clear hrow hcx hc1 hc0 i1 hor
 have i1:((ds.length:Int) - 1)=(m:Int):=by omega
 obtain ⟨qh,HQ⟩:∃ qh,Hid (hi / dt=qh):=⟨_,rfl⟩
 have hqh:qh≤hi:=by rw [← HQ.out];exact Nat.div_le_self _ _
 have hdv:IntKind.u64.wrap ((hi:Int) / (dt:Int))=(qh:Int):=by
  have e:∀ x:Int,IntKind.u64.wrap x=x % 18446744073709551616:=fun x=>by simp [IntKind.wrap,IntKind.bits,IntKind.signed]
  have e2:(hi:Int) / (dt:Int)=(qh:Int):=by rw [← HQ.out];rfl
  rw [e,e2];omega
 obtain ⟨G,hG,hG1,hG2,hG3,hGm,hGn⟩:∃ G:Nat,(if (4294967295:Int)<(qh:Int) then (4294967295:Int) else (qh:Int))=(G:Int)∧G≤4294967295∧G≤qh∧(qh≤G∨4294967295≤G)∧min (4294967295:Int) (qh:Int)=(G:Int)∧min (qh:Int) (4294967295:Int)=(G:Int):=by
  by_cases h:(4294967295:Int)<(qh:Int)
  ·exact ⟨4294967295,by rw [if_pos h];rfl,by omega,by omega,by omega,by omega,by omega⟩
  ·exact ⟨qh,by rw [if_neg h],by omega,by omega,by omega,by omega,by omega⟩
 have hguess:Hid (val us / val ds≤G):=digit_guess us ds m hi dt qh G (by have:=hL.out;omega) (by omega) (by have:=HH.out;rw [HU0.out,show m+1=ds.length from by omega,HU1.out];exact this) HD.out ld0 HQ.out hlt.out (by omega)
 go_wp2_with fail
 clear hG hG2 hG3 hGm hGn hqh hdv
 refine (takeTimes_any B g off L cap us _ ds dc G _ hrow1 hL hL1 hL2 hrx1 hd (by omega) (by omega)).mono ?_;rintro e w2 ⟨us2,be2,rfl,hL2',hrow2,honly2,HT2⟩
 have honly12:=honly1.trans honly2
 have HR2:=Lib.hid hrow2
 clear hrow1 hrow2 honly1 honly2 hrx1 hcx1 i1
 have hD0:Hid (0<val ds):=by
  unfold Hid
  rcases Nat.eq_zero_or_pos (val ds) with h | h
  ·have:=hlt.out;rw [h] at this;omega
  ·exact h
 go_wp2_with fail
 go_loopw [7,8] (fun gv bv wr=>∃ (gq:Nat) (be:Bool) (ts:List UInt32),gv = .int .u64 gq∧bv = .bool be∧gq≤4294967295∧Hid (val us / val ds≤gq)∧Hid (ts.length=L) ∧
  Hid (val ts+gq * val ds=val us+(if be then 4294967296 ^ L else 0))∧Row wr B g off cap ts∧Only g off (off+L) w wr) (fun gv _ _=>(intOf gv).toNat)
 case atStart =>
  refine ⟨G,be2,us2,rfl,rfl,hG1,hguess,hL2',?_,HR2.out,honly12⟩
  have:=HT2.out;unfold Taken at this;rw [hL.out] at this;exact this
 case round =>
  obtain ⟨gq,be,ts,rfl,rfl,hgq,HQ1,HL,HV,hrow,honly⟩:=hrel
  cases be
  ·have hfin:Hid (val us / val ds=gq∧val ts=val us % val ds):=by
    have h:=HV.out
    simp only [Bool.false_eq_true,if_false,Nat.add_zero] at h
    have h1:gq≤val us / val ds:=(Nat.le_div_iff_mul_le hD0.out).2 (by omega)
    have h2:=HQ1.out
    have h3:gq=val us / val ds:=by omega
    have h4:=Nat.div_add_mod (val us) (val ds)
    rw [← h3,Nat.mul_comm] at h4
    exact ⟨h3.symm,by omega⟩
   go_wp2_with fail
   go_ret
   refine ⟨ts,?_,HL,hrow,honly,hfin.out.2⟩
   rw [hfin.out.1]
   rfl
  ·have hgt:val us<gq * val ds:=by
    have h:=HV.out
    have h1:=val_lt ts
    rw [HL.out] at h1
    simp only [if_true] at h
    omega
   have hg1:1≤gq:=by
    rcases Nat.eq_zero_or_pos gq with h | h
    ·rw [h,Nat.zero_mul] at hgt;omega
    ·exact h
   have HGT:=Lib.hid hgt
   clear hgt
   have hrx:=hr.only honly
   go_wp2_with fail
   refine (addBack_any B g off L cap ts _ ds dc _ hrow HL hL1 hL2 hrx hd (by omega)).mono ?_;rintro e w3 ⟨us3,be3,rfl,hL3,hrow3,honly3,HA3⟩
   clear hrow hrx
   go_wp2_with fail
   go_roundw
   case rel =>
    refine ⟨gq - 1,!be3,us3,by go_num,rfl,by omega,?_,hL3,?_,hrow3,honly.trans honly3⟩
    ·have:val us / val ds<gq:=(Nat.div_lt_iff_lt_mul hD0.out).2 HGT.out
     unfold Hid;omega
    ·have h:=HV.out
     have h3:=HA3.out
     unfold Added at h3
     rw [HL.out] at h3
     have h4:gq * val ds=(gq - 1) * val ds+val ds:=by
      rw [← Nat.succ_mul];congr 1;omega
     unfold Hid
     cases be3 <;> simp at h h3 ⊢ <;> omega
   case measure=>simp [intOf];omega
end Go.Proofs.YtpbjkgpdkopgmaaGreatDoor
namespace Go.Proofs.YtpbjkgpdkopgmaaGreatDoor
open Go.RowKit
theorem Row.of_block {w:World} {B g:Nat} {xs:List UInt32} (h:w.heap[g]? = some (.cells (xs.map uv).toArray 200 (0,0))) (hB:B≤g) (hm:xs.length≤maxLen):Row w B g 0 xs.length xs:=by
 have hlt:g<w.heap.size:=by
  rcases Nat.lt_or_ge g w.heap.size with h' | h'
  ·exact h'
  ·rw [Array.getElem?_eq_none h'] at h;cases h
 refine ⟨hB,hlt,Nat.le_refl _,hm,fun j hj=>⟨?_,?_⟩,fun j hj=>?_⟩
 ·rw [Nat.zero_add,cell_of_row w g j _ _ (0,0) h];simp [hj]
 ·simp [World.frozen?,h]
 ·rw [Nat.zero_add,cell_of_row w g j _ _ (0,0) h];simp [hj]
section
variable {P:Program} (w:World) {ops:Array Oper} {rest:List Oper} {o:Oper} {a:Act} {Q:Exit→Act→World→Prop}
theorem wpList_mkw {t e:TypeId} {by_:Nat} (T:ElT P t e by_) (hz0:∀ i,P.info? e=some i→i.zero=some (uv 0)) (hgd:o.guard=none) (l c:Operand) (hop:o.op=Op.makeSlice t l c)
  (kl kc:IntKind) (N:Int) (hl:a.eval l = .int kl N) (hc:a.eval c = .int kc N) (h0:0≤N) (hby:by_ * N≤281474976710656) (hm:N≤281474976710656)
  (h:∀ g off w' (zs:List UInt32),Hid (off=0∧w'.heap[g]? = some (.cells (zs.map uv).toArray e (0,0)))→Hid (zs=List.replicate N.toNat 0)→(zs.length:Int)≤N→N≤(zs.length:Int)→Below w.heap.size w w'→w.heap.size≤g→wpList P ops Q rest (a.put o.dst (.slice (some ⟨g,off,none⟩) zs.length zs.length)) w'):wpList P ops Q (o :: rest) a w:=by
 obtain ⟨i,z,hi,hz,h1,h2,h3⟩:=T.inf
 obtain rfl:z=uv 0:=by have:=hz0 i hi;rw [hz] at this;injection this
 refine wpList_plain hgd fun K hK=>?_
 have hrun:=run_make (P:=P) w t e i (uv 0) T.ht hi hz kl kc N N h0 (Int.le_refl _) (by rw [h2];exact hby) (by omega)
 rw [h1,Nat.mul_one] at hrun
 have hmc:(madeCells (uv 0).cells N.toNat).toList=List.replicate N.toNat (uv 0):=by
  rw [show (uv 0).cells=#[uv 0] from rfl]
  apply List.ext_getElem
  ·simp [madeCells]
  ·intro j h1 h2
   simp [madeCells,Nat.mod_one]
 have hma:madeCells (uv 0).cells N.toNat=((List.replicate N.toNat (0:UInt32)).map uv).toArray:=by
  apply Array.toList_inj.1
  rw [hmc];simp
 have:=hK _ _ (h w.heap.size 0 (w.alloc (.cells (madeCells (uv 0).cells N.toNat) e)) (List.replicate N.toNat 0) ⟨rfl,by rw [← hma];exact heap_alloc_new w _⟩ rfl (by rw [List.length_replicate];omega) (by rw [List.length_replicate];omega) ((Below.refl _ w).alloc (Nat.le_refl _) _) (Nat.le_refl _))
 unfold Oper.wp execOp
 simp only [hop,Sem.run_bind,Sem.run_pure,Result.andThen_ok,hl,hc,hrun]
 simp only [List.length_replicate] at this
 exact this
theorem wpList_slR {t e:TypeId} {by_:Nat} (T:ElT P t e by_) (hgd:o.guard=none) (x pl ph:Operand) (ho:o.op = .slice t x (some pl) (some ph) none)
  (g off n c:Nat) (hx:a.eval x = .slice (some ⟨g,off,none⟩) n c) (hc:n≤c) (l m:Nat) (kl kh:IntKind) (li hi:Int) (hlo:a.eval pl = .int kl li) (hhi:a.eval ph = .int kh hi)
  (e1:li=l) (e2:hi=((l+m:Nat):Int)) (h0:0<m) (h2:l+m≤n)
  (hK:wpList P ops Q rest (a.put o.dst (.slice (some ⟨g,off+l,none⟩) m (c - l))) w):wpList P ops Q (o :: rest) a w:=by
 refine wpList_plain hgd fun K hK'=>?_
 subst e1 e2
 have hrun:=run_sl (P:=P) w T (A:=some ⟨g,off,none⟩) (n:=n) (c:=c) hc (some (a.eval pl)) (some (a.eval ph)) l (l+m:Nat) (by omega) (by omega) (by omega) (.inr ⟨kl,by rw [hlo]⟩) (.inr ⟨kh,by rw [hhi]⟩)
 have hs:Go.sliced (some ⟨g,off,none⟩) (l:Int).toNat ((l+m:Nat):Int).toNat c 1 = .slice (some ⟨g,off+l,none⟩) m (c - l):=by
  have:¬ c=l:=by omega
  simp only [Int.toNat_natCast]
  have e3:l+m - l=m:=by omega
  by_cases h0:l=0 <;> simp [Go.sliced,this,Addr.add,e3,h0]
  all_goals omega
 rw [hs] at hrun
 have:=hK' _ _ hK
 unfold Oper.wp execOp
 simp only [ho,Sem.run_bind,Sem.run_pure,Result.andThen_ok,hx]
 rw [show Option.map a.eval (some pl)=some (a.eval pl) from rfl,show Option.map a.eval (some ph)=some (a.eval ph) from rfl,show Option.map a.eval (none:Option Operand)=none from rfl,run_sliceAt_slice w t _ _ _ _ (by simp [Program.elem,T.ht]),hrun]
 exact this
end
end Go.Proofs.YtpbjkgpdkopgmaaGreatDoor
namespace Go.Proofs.YtpbjkgpdkopgmaaGreatDoor
open Go.RowKit
theorem val_split (l:List UInt32) (k:Nat):val l=val (l.take k)+4294967296 ^ k * val (l.drop k):=by
 by_cases h:k≤l.length
 ·have:=val_append (l.take k) (l.drop k)
  rw [List.take_append_drop,List.length_take,Nat.min_eq_left h] at this
  exact this
 ·rw [List.take_of_length_le (by omega),List.drop_eq_nil_of_le (by omega)];simp [val]
theorem val_head (l:List UInt32) (k:Nat):val (l.drop k)=ent l k+4294967296 * val (l.drop (k+1)):=by
 by_cases h:k<l.length
 ·rw [List.drop_eq_getElem_cons h,val_cons,ent,List.getD,List.getElem?_eq_getElem h];rfl
 ·rw [List.drop_eq_nil_of_le (by omega),List.drop_eq_nil_of_le (by omega),ent,List.getD,List.getElem?_eq_none (by omega)];rfl
theorem div_start (rs:List UInt32) (X Y s lx k m:Nat) (h:val rs=X * 2 ^ s) (hX:X<4294967296 ^ lx) (hY:4294967296 ^ m≤Y) (hk:lx≤k+m):val (rs.drop k)<Y * 2 ^ s:=by
 have h1:=val_split rs k
 have hs:0<2 ^ s:=Nat.pow_pos (by decide)
 have h2:X * 2 ^ s<4294967296 ^ k * (Y * 2 ^ s):=by
  rw [← Nat.mul_assoc]
  refine Nat.mul_lt_mul_of_pos_right ?_ hs
  refine Nat.lt_of_lt_of_le hX (Nat.le_trans (Nat.pow_le_pow_right (by decide) hk) ?_)
  rw [Nat.pow_add]
  exact Nat.mul_le_mul_left _ hY
 exact Nat.lt_of_mul_lt_mul_left (a:=4294967296 ^ k) (by omega)
theorem div_round (rs:List UInt32) (D k m L:Nat) (hL:L=m+2) (hD:D<4294967296 ^ (m+1)) (h:val (rs.drop (k+1))<D) :
  val ((rs.take (k+L)).drop k)<4294967296 * D∧val (rs.drop (k+L))=0:=by
 have h1:=val_head rs k
 have h2:=ent_le rs k
 have h3:val (rs.drop k)<4294967296 * D:=by omega
 have h4:=val_split (rs.drop k) L
 rw [List.drop_drop] at h4
 have h5:(rs.take (k+L)).drop k=(rs.drop k).take L:=by rw [List.drop_take];congr 1;omega
 rw [h5]
 have h6:4294967296 * D<4294967296 ^ L:=by
  rw [hL,show m+2=(m+1)+1 from rfl,Nat.pow_succ,Nat.mul_comm]
  exact Nat.mul_lt_mul_of_pos_right hD (by decide)
 rcases Nat.eq_zero_or_pos (val (rs.drop (k+L))) with h7 | h7
 ·exact ⟨by omega,h7⟩
 ·have:4294967296 ^ L * 1≤4294967296 ^ L * val (rs.drop (k+L)):=Nat.mul_le_mul_left _ h7
  omega
theorem div_next (rs us':List UInt32) (D k L Q V U:Nat) (hk:k≤rs.length) (hU:val ((rs.take (k+L)).drop k)=U) (h0:val (rs.drop (k+L))=0) (hL:us'.length=L) (hu:val us'=U % D) (hD:0<D) (h:val rs+D * Q=V) :
  val (rs.take k++(us'++rs.drop (k+L)))+D * (Q+4294967296 ^ k * (U / D))=V∧val ((rs.take k++(us'++rs.drop (k+L))).drop k)<D:=by
 have ht:(rs.take k).length=k:=by rw [List.length_take];omega
 have h1:val (rs.take k++(us'++rs.drop (k+L)))=val (rs.take k)+4294967296 ^ k * (U % D):=by
  rw [val_append,val_append,h0,ht,hu];simp
 have h2:=val_split rs k
 have h3:=val_split (rs.drop k) L
 have h5:(rs.take (k+L)).drop k=(rs.drop k).take L:=by rw [List.drop_take];congr 1;omega
 rw [List.drop_drop,h0,← h5,hU,Nat.mul_zero,Nat.add_zero] at h3
 rw [h3] at h2
 constructor
 ·rw [h1,Nat.mul_add,Nat.mul_left_comm]
  have h6:=Nat.div_add_mod U D
  have h7:4294967296 ^ k * U=4294967296 ^ k * (D * (U / D))+4294967296 ^ k * (U % D):=by rw [← Nat.mul_add,h6]
  omega
 ·rw [List.drop_append,List.drop_eq_nil_of_le (by omega),ht,Nat.sub_self,List.drop_zero,List.nil_append,val_append,h0,hu]
  simpa using Nat.mod_lt _ hD
theorem Row.cut {w:World} {B g off cap l m:Nat} {xs:List UInt32} (h:Row w B g off cap xs) (h1:l+m≤xs.length) (h2:l≤cap):Row w B g (off+l) (cap - l) ((xs.take (l+m)).drop l):=by
 have hl:((xs.take (l+m)).drop l).length=m:=by rw [List.length_drop,List.length_take];omega
 have:=h.hn
 refine ⟨h.hB,h.hg,by omega,by have:=h.hm;omega,fun j hj=>?_,fun j hj=>?_⟩
 ·rw [Nat.add_assoc];exact h.hs (l+j) (by omega)
 ·rw [List.getElem_drop,List.getElem_take,Nat.add_assoc];exact h.hc (l+j) (by omega)
theorem Row.splice {w w':World} {B g off cap l m:Nat} {xs us:List UInt32} (h:Row w B g off cap xs) (h1:l+m≤xs.length) (ho:Only g (off+l) (off+l+m) w w') (hu:Row w' B g (off+l) (cap - l) us) (hm:us.length=m) :
  Row w' B g off cap (xs.take l++(us++xs.drop (l+m))):=by
 have hlen:(xs.take l++(us++xs.drop (l+m))).length=xs.length:=by
  simp only [List.length_append,List.length_take,List.length_drop];omega
 refine ⟨h.hB,Nat.lt_of_lt_of_le h.hg ho.size,by rw [hlen];exact h.hn,h.hm,fun j hj=>⟨ho.isSome _ (h.hs j hj).1,(ho.frozen _).trans (h.hs j hj).2⟩,fun j hj=>?_⟩
 by_cases c1:j<l
 ·rw [ho.cell _ (by omega),h.hc j (by omega),List.getElem_append_left (by rw [List.length_take];omega),List.getElem_take]
 ·by_cases c2:j<l+m
  ·have:=hu.hc (j - l) (by omega)
   rw [show off+l+(j - l)=off+j from by omega] at this
   rw [this,List.getElem_append_right (by rw [List.length_take];omega),List.getElem_append_left (by rw [List.length_take];omega)]
   congr 3;rw [List.length_take];omega
  ·rw [ho.cell _ (by omega),h.hc j (by omega),List.getElem_append_right (by rw [List.length_take];omega),List.getElem_append_right (by rw [List.length_take];omega),List.getElem_drop]
   congr 3;rw [List.length_take];omega
theorem shiftDown_n (A:Option Addr) (xs:List UInt32) (n c e s:Nat) (w:World) (hn:Hid (xs.length=n)) (hr:Rd uv w A xs) (hc:xs.length≤c) (hl:(xs.length:Int)≤100000) (he:(e:Int)≤100000) (hs:(s:Int)≤31) :
  Calls Tryz.prog 273 #[.slice A n c,.int .i64 e,.int .i64 s] w fun e' w'=>∃ v',e' = .returned v'∧IsNum w' v' (val xs / 4294967296 ^ e / 2 ^ s)∧Below w.heap.size w w':=by
 have:=hn.out;subst this;exact shiftDown_any A xs c e s w hr hc hl he hs
theorem blen_le (x:Nat) (h:(x:Int)≤4294967295):blen x≤32:=by
 unfold blen
 split
 ·decide
 ·rename_i hx0
  have:Nat.log2 x<32:=(Nat.log2_lt hx0).2 (by omega)
  omega
theorem div_norm (n m s:Nat) (hl:(limbs n).length=m+1) (hs:blen (ent (limbs n) m)+s=32):n * 2 ^ s<4294967296 ^ (m+1)∧4294967296 ^ m≤n∧(limbs (n * 2 ^ s)).length=m+1:=by
 have hb:=blen_top (limbs n) m hl (limbs_top n m hl)
 have h0:=limbs_top n m hl
 rw [val_limbs] at hb
 have hn0:n≠0:=by rintro rfl;simp [limbs_zero] at hl
 have hlt:n<2 ^ (blen n):=by
  unfold blen;rw [if_neg hn0];exact (Nat.log2_lt hn0).1 (Nat.lt_succ_self _)
 have h1:n * 2 ^ s<4294967296 ^ (m+1):=by
  have:(4294967296:Nat) ^ (m+1)=2 ^ blen n * 2 ^ s:=by
   rw [show (4294967296:Nat)=2 ^ 32 from rfl,← Nat.pow_mul,← Nat.pow_add];congr 1;omega
  rw [this]
  exact Nat.mul_lt_mul_of_pos_right hlt (Nat.pow_pos (by decide))
 have h2:4294967296 ^ m≤n:=by
  have:=ent_val (limbs n) m
  rw [val_limbs] at this
  rcases Nat.lt_or_ge n (4294967296 ^ m) with h | h
  ·rw [Nat.div_eq_of_lt h] at this;exact absurd this h0
  ·exact h
 have h3:n≤n * 2 ^ s:=Nat.le_mul_of_pos_right _ (Nat.pow_pos (by decide))
 refine ⟨h1,h2,?_⟩
 have h4:=limbs_len (n * 2 ^ s) (m+1) h1
 rcases Nat.lt_or_ge (limbs (n * 2 ^ s)).length (m+1) with h | h
 ·exfalso
  have h5:=val_lt (limbs (n * 2 ^ s))
  rw [val_limbs] at h5
  have h6:(4294967296:Nat) ^ (limbs (n * 2 ^ s)).length≤4294967296 ^ m:=Nat.pow_le_pow_right (by decide) (by omega)
  omega
 ·omega
set_option maxRecDepth 100000 in
set_option maxHeartbeats 3200000 in
theorem div_any (A:Option Addr) (xs:List UInt32) (c:Nat) (B:Option Addr) (ys:List UInt32) (d:Nat) (w:World) (hr:Rd uv w A xs) (hc:xs.length≤c) (hl:(xs.length:Int)≤50000) (hs:Rd uv w B ys) (hd:ys.length≤d) (hm2:d≤maxLen) (hl2:(ys.length:Int)≤50000) :
  Calls Tryz.prog 266 #[.slice A xs.length c,.slice B ys.length d] w fun e w'=>∃ q r ok,e = .returned (.tuple #[q,r,.bool ok])∧DivN w' (val xs) (val ys) q r ok∧Below w.heap.size w w':=by
 by_cases hy0:val ys=0
 ·have HY:=Lib.hid hy0
  clear hy0
  go_enter Tryz.func266,Tryz.ntmps266
  go_wp2_with fail
  refine (trim_any B ys d _ hs hd hm2 (by omega)).mono ?_;rintro e w1 ⟨v1,rfl,hn1,rfl⟩
  obtain ⟨A1,c1,ns,rfl,-,-,-,-,HN,-⟩:=hn1.open_ ys.length (val_lt ys)
  have hd:((ns.length:Int) == 0)=true:=by rw [HN.out,HY.out];rfl
  clear hn1
  go_wp2_with fail
  go_ret3
  refine ⟨_,_,_,rfl,?_,Below.refl _ _⟩
  unfold DivN
  rw [if_pos HY.out]
  exact ⟨rfl,rfl,rfl⟩
 ·have HY:=Lib.hid hy0
  clear hy0
  go_enter Tryz.func266,Tryz.ntmps266
  go_wp2_with fail
  refine (trim_any B ys d _ hs hd hm2 (by omega)).mono ?_;rintro e w1 ⟨v1,rfl,hn1,rfl⟩
  obtain ⟨A1,c1,ns,rfl,hr1,hc1,hm1,hl1,HN,HVN⟩:=hn1.open_ ys.length (val_lt ys)
  clear hn1
  have hpos:ns.length≠0:=by
   intro h
   apply HY.out
   rw [← HVN.out,List.eq_nil_of_length_eq_zero h];rfl
  obtain ⟨m,hm⟩:∃ m,ns.length=m+1:=⟨ns.length - 1,by omega⟩
  have hlm:(limbs (val ys)).length=m+1:=by rw [← HN.out];exact hm
  obtain ⟨tp,HTP⟩:∃ tp,Hid (ent ns m=tp):=⟨_,rfl⟩
  have ltp:(tp:Int)≤4294967295:=by rw [← HTP.out];exact ent_le ns m
  have htp0:tp≠0:=by rw [← HTP.out,HN.out];exact limbs_top _ _ hlm
  obtain ⟨bl,HBL⟩:∃ bl,Hid (blen tp=bl):=⟨_,rfl⟩
  have hbl1:bl≤32:=by rw [← HBL.out];exact blen_le tp ltp
  have hbl0:1≤bl:=by rw [← HBL.out];unfold blen;rw [if_neg htp0];omega
  obtain ⟨s,hsb⟩:∃ s,bl+s=32:=⟨32 - bl,by omega⟩
  have hnorm:=div_norm (val ys) m s hlm (by rw [← HN.out,HTP.out,HBL.out];exact hsb)
  have HNORM:=Lib.hid hnorm
  have b0:((ns.length:Int) == 0)=false:=by rw [beq_eq_false_iff_ne];omega
  have i1:((ns.length:Int) - 1)=(m:Int):=by omega
  have i2:(32:Int) - (bl:Int)=(s:Int):=by omega
  have hs31:(s:Int)≤31:=by omega
  have hnm1:ns.length≤m+1:=by omega
  have hnm2:m+1≤ns.length:=by omega
  have hm3:(m:Int)≤50000:=by omega
  have hnl:(ns.length:Int)≤50000:=by omega
  obtain ⟨bx,offx,rfl,hbx,hcx⟩:=rd_cell hr1 (i:=m) (by omega) HTP
  have hmn:m<ns.length:=by omega
  clear hnorm hlm hm hpos hsb htp0
  go_wp2_with fail
  refine (length_any tp _ ltp).mono ?_;rintro e w' ⟨rfl,rfl⟩
  rw [HBL.out]
  go_wp2_with fail
  refine (shiftUp_any _ ns c1 0 s _ hr1 hc1 (by omega) (by omega) hs31).mono ?_;rintro e w2 ⟨v2,rfl,hk2,hb2⟩
  obtain ⟨Dv,dc,ds,rfl,hrd,hdc,hdm,hdl,HDS,HVD⟩:=(hk2.cast (show _=val ys * 2 ^ s from by rw [HVN.out,Nat.pow_zero,Nat.one_mul])).open_ (m+1) HNORM.out.1
  have hds:ds.length=m+1:=by rw [HDS.out];exact HNORM.out.2.2
  have hds1:ds.length≤m+1:=by omega
  have hds2:m+1≤ds.length:=by omega
  have htop:Hid (ent ds m≠0):=by unfold Hid;rw [HDS.out];exact limbs_top _ _ HNORM.out.2.2
  have hD0:Hid (0<val ds):=by
   unfold Hid;rw [HVD.out];exact Nat.mul_pos (Nat.pos_of_ne_zero HY.out) (Nat.pow_pos (by decide))
  clear hk2 hds hdl hcx hr1 hbx i1 i2
  have hrw2:=hr.below hb2
  go_wp2_with (at_make;go_must (refine wpList_mkw _ uT uZ rfl _ _ rfl _ _ ((xs.length:Int)+1) rfl rfl (by omega) (by omega) (by omega) ?_;intro gr offr w3 zs HBLK HZ hz1 hz2 hb3 hgr))
  have hb3':=hb3
  have hrw3:=hrw2.below hb3
  refine (shiftUp_any A xs c 0 s _ hrw3 hc (by omega) (by omega) hs31).mono ?_;rintro e w4 ⟨v4,rfl,hk4,hb4⟩
  obtain ⟨A4,c4,vs,rfl,hr4,hc4,hm4,hl4,HVS,HVV⟩:=(hk4.cast (show _=val xs * 2 ^ s from by rw [Nat.pow_zero,Nat.one_mul])).open_ (xs.length+1) (by
   have h1:=val_lt xs
   have h2:2 ^ s≤2 ^ 31:=Nat.pow_le_pow_right (by decide) (by omega)
   rw [Nat.pow_succ]
   exact Nat.lt_of_lt_of_le (Nat.mul_lt_mul_of_pos_right h1 (Nat.pow_pos (by decide))) (Nat.mul_le_mul_left _ (by omega)))
  clear hk4
  have hgr3:gr<w3.heap.size:=by
   rcases Nat.lt_or_ge gr w3.heap.size with h | h
   ·exact h
   ·have:=HBLK.out.2;rw [Array.getElem?_eq_none h] at this;cases this
  have hblk4:w4.heap[gr]? = some (.cells (zs.map uv).toArray 200 (0,0)):=(hb4.block gr hgr3).trans HBLK.out.2
  have HB4:=Lib.hid hblk4
  have hb24:Below w2.heap.size w2 w4:=nx hb3 hb4
  have hvz:vs.length≤zs.length:=by omega
  clear hblk4
  obtain ⟨M,hM,hM1,hM2,hMx⟩:∃ M:Nat,(if (xs.length:Int) - ns.length+1<0 then (0:Int) else (xs.length:Int) - ns.length+1)=(M:Int)∧(xs.length≤M+m)∧(M=0∨M+m≤xs.length)∧max ((xs.length:Int) - ns.length+1) 0=(M:Int):=by
   by_cases h:(xs.length:Int) - ns.length+1<0
   ·exact ⟨0,by rw [if_pos h];rfl,by omega,by omega,by omega⟩
   ·exact ⟨xs.length - m,by rw [if_neg h];omega,by omega,by omega,by omega⟩
  have hMl:(M:Int)≤50000:=by omega
  have HCN:Hid ((vs.map uv).length=Nat.min vs.length zs.length):=by unfold Hid;rw [List.length_map];exact (Nat.min_eq_left hvz).symm
  have HCP:Hid (0<(vs.map uv).length→some (⟨gr,offr,none⟩:Addr)=some ⟨gr,0,none⟩∧∃ ad,A4=some ad∧∀ j v,(vs.map uv)[j]? = some v→w4.cell? (ad.add j)=some v):=by
   intro hp
   rw [List.length_map] at hp
   obtain ⟨b',off',e1,e2,e3⟩:=hr4 hp
   refine ⟨by rw [HBLK.out.1],_,e1,fun j v hv=>?_⟩
   have hj:j<vs.length:=by
    rcases Nat.lt_or_ge j vs.length with h | h
    ·exact h
    ·rw [List.getElem?_eq_none (by simpa using h)] at hv;cases hv
   have hv':v=uv vs[j]:=by simpa [hj] using hv.symm
   rw [Addr.add_lit,hv'];exact e3 j hj
  have HCF:Hid (0+(vs.map uv).length≤(zs.map uv).length):=by unfold Hid;simpa using hvz
  have HC1:Hid (∀ v ∈ vs.map uv,v.oneCell'=true):=by
   intro v hv;obtain ⟨x,_,rfl⟩:=List.mem_map.1 hv;rfl
  go_wp2_with (first
   | ((with_reducible show wpList _ _ _ _ _ _);refine wpList_copy_splice (o:=⟨some 35,_,_,_,_,_⟩) rfl (.tmp 31) (.tmp 34) 198 198 rfl 200 Tryz.underlying198 (by kernel_rfl) _ _ _ _ _ _ rfl rfl gr 0 (zs.map uv) 200 HB4.out (vs.map uv) HCN.out HCP.out HCF.out HC1.out w2.heap.size w2 hb24 hgr ?_;intro w5 HG5 hb5)
   | (at_make;go_must (refine wpList_mkw _ uT uZ rfl _ _ rfl _ _ (M:Int) rfl rfl (by omega) (by omega) (by omega) ?_;intro gq offq w6 zq HBQ HZQ hq1 hq2 hb6 hgq)))
  clear hM hMx
  obtain ⟨rs0,HRS⟩:∃ rs0,Hid (vs++zs.drop vs.length=rs0):=⟨_,rfl⟩
  have HRL:Hid (rs0.length=zs.length):=by
   unfold Hid;rw [← HRS.out,List.length_append,List.length_drop];omega
  have HRV:Hid (val rs0=val xs * 2 ^ s):=by
   unfold Hid
   have h0:val (zs.drop vs.length)=0:=by rw [HZ.out,List.drop_replicate,val_zeros]
   rw [← HRS.out,val_append,h0,HVV.out];simp
  have hblk5:w5.heap[gr]? = some (.cells (rs0.map uv).toArray 200 (0,0)):=by
   have h:=HG5.out
   unfold splice at h
   rw [← HRS.out,List.map_append,List.map_drop]
   simpa using h
  have hrowR5:Row w5 w2.heap.size gr offr zs.length rs0:=by
   have h:=Row.of_block hblk5 hgr (by rw [HRL.out];unfold maxLen;omega)
   rw [HRL.out] at h
   rw [HBLK.out.1];exact h
  have hne:gq≠gr:=by have:=hrowR5.hg;omega
  have HR6:=Lib.hid (hrowR5.below hb6)
  have hrow6:Row w6 w2.heap.size gq offq zq.length zq:=by
   have h:=Row.of_block HBQ.out.2 (B:=w2.heap.size) (Nat.le_trans hb5.size hgq) (by unfold maxLen;omega)
   rw [HBQ.out.1];exact h
  have HQ6:=Lib.hid hrow6
  have hb26:Below w2.heap.size w2 w6:=nx hb5 hb6
  have hzl:zs.length≤xs.length+1:=by omega
  have hzl2:xs.length+1≤zs.length:=by omega
  have hqM1:zq.length≤M:=by omega
  have hqM2:M≤zq.length:=by omega
  clear hblk5 hrowR5 hrow6 hq1 hq2 hz1 hz2 hgr3 hb24 hb3' hrw3 hr4 hc4 hm4 hl4 hvz hgq
  go_wp2_with fail
  go_loopw [10] (fun v wr=>∃ (k:Nat) (rs qs:List UInt32),v = .int .i64 ((k:Int) - 1)∧k≤zq.length∧Hid (rs.length=zs.length)∧Hid (qs.length=zq.length)∧Hid (val rs+val ds * val qs=val xs * 2 ^ s)∧Hid (val (rs.drop k)<val ds)∧Hid (∀ j,j<k→ent qs j=0) ∧
   Row wr w2.heap.size gr offr zs.length rs∧Row wr w2.heap.size gq offq zq.length qs∧Below w2.heap.size w2 wr) (fun v _=>(intOf v+1).toNat)
  case atStart =>
   refine ⟨zq.length,rs0,zq,rfl,Nat.le_refl _,HRL,rfl,?_,?_,?_,HR6.out,HQ6.out,hb26⟩
   ·unfold Hid;rw [HZQ.out,val_zeros,HRV.out];simp
   ·unfold Hid;rw [HVD.out]
    exact div_start rs0 (val xs) (val ys) s xs.length zq.length m HRV.out (val_lt xs) HNORM.out.2.1 (by omega)
   ·intro j _;rw [HZQ.out];exact ent_zeros _ _
  case round =>
   obtain ⟨k,rs,qs,rfl,hk,HRSL,HQL,HV,HLT,HE,hrowR,hrowQ,hbel⟩:=hrel
   rcases k with _ | k
   ·have hfin:Hid (val qs=val xs / val ys∧val rs / 4294967296 ^ 0 / 2 ^ s=val xs % val ys):=by
     have h:=HV.out
     have h2:=HLT.out
     rw [List.drop_zero] at h2
     have h3:val qs=val xs * 2 ^ s / val ds:=by
      rw [← h,Nat.add_mul_div_left _ _ hD0.out,Nat.div_eq_of_lt h2,Nat.zero_add]
     have h4:val rs=val xs * 2 ^ s % val ds:=by
      rw [← h,Nat.add_mul_mod_self_left,Nat.mod_eq_of_lt h2]
     have hp:0<2 ^ s:=Nat.pow_pos (by decide)
     unfold Hid
     rw [h3,h4,HVD.out,Nat.mul_div_mul_right _ _ hp,Nat.mul_mod_mul_right,Nat.pow_zero,Nat.div_one,Nat.mul_div_cancel _ hp]
     exact ⟨rfl,rfl⟩
    have hbw:Below w.heap.size w wr:=nx hb2 hbel
    go_wp2_with fail
    refine (trim_n _ qs _ zq.length _ HQL hrowQ.rd hrowQ.hn hrowQ.hm (by have:=HQL.out;omega)).mono ?_;rintro e w7 ⟨v7,rfl,hn7,rfl⟩
    rw [hfin.out.1] at hn7
    go_wp2_with fail
    refine (shiftDown_n _ rs _ zs.length 0 s _ HRSL hrowR.rd hrowR.hn (by have:=HRSL.out;omega) (by omega) hs31).mono ?_;rintro e w8 ⟨v8,rfl,hn8,hb8⟩
    rw [hfin.out.2] at hn8
    have hn78:=hn7.below hb8
    go_wp2_with fail
    go_ret3
    refine ⟨_,_,_,rfl,?_,nx hbw hb8⟩
    unfold DivN
    rw [if_neg HY.out]
    exact ⟨hn78,hn8,rfl⟩
   ·have hwin:=div_round rs (val ds) k m (ns.length+1) (by omega) (by rw [HVD.out];exact HNORM.out.1) HLT.out
    obtain ⟨us,HUS⟩:∃ us,Hid ((rs.take (k+(ns.length+1))).drop k=us):=⟨_,rfl⟩
    rw [HUS.out] at hwin
    have HWIN:=Lib.hid hwin
    have hkl:k+(ns.length+1)≤zs.length:=by omega
    have hcut:=hrowR.cut (l:=k) (m:=ns.length+1) (by rw [HRSL.out];exact hkl) (by omega)
    rw [HUS.out] at hcut
    have HUL:Hid (us.length=ns.length+1):=by
     unfold Hid;rw [← HUS.out,List.length_drop,List.length_take,HRSL.out];omega
    have hrx:=hrd.rdx hbel hgr
    have hkq:k<zq.length:=by omega
    have hkqs:k<qs.length:=by have:=HQL.out;omega
    clear hwin
    go_wp2_with ((with_reducible show wpList _ _ _ _ _ _);refine wpList_slR (o:=⟨some 60,_,_,_,_,_⟩) _ uT rfl (.tmp 53) (.tmp 54) (.tmp 59) rfl gr offr zs.length zs.length rfl (Nat.le_refl _) k (ns.length+1) _ _ _ _ rfl rfl (by omega) (by omega) (by omega) hkl ?_)
    refine (digit_any w2.heap.size gr (offr+k) (ns.length+1) (zs.length - k) m us Dv ds dc _ hcut HUL (by omega) (by omega) hrx hdc (by omega) hds1 hds2 htop HWIN.out.1).mono ?_;rintro e w7 ⟨us',rfl,HUL',hrowU,honly,HUV⟩
    obtain ⟨dg,HDG⟩:∃ dg,Hid (val us / val ds=dg):=⟨_,rfl⟩
    have hdg:(dg:Int)≤4294967295:=by
     have h:=HWIN.out.1
     have:val us / val ds<4294967296:=Nat.div_lt_of_lt_mul (by rw [Nat.mul_comm];exact h)
     rw [HDG.out] at this;omega
    rw [HDG.out]
    have hrowR7:=hrowR.splice (l:=k) (m:=ns.length+1) (by rw [HRSL.out];exact hkl) honly hrowU HUL'.out
    have hrowQ7:=hrowQ.only honly hne
    have hb7:=honly.below hgr hbel.size
    have hbel7:=hbel.trans hb7
    have hq0:Hid (ent qs k=0):=HE.out k (Nat.lt_succ_self k)
    have hcq:=hrowQ7.cell hkqs hq0
    have hfq:=hrowQ7.free hkqs
    have hst:=hrowQ7.put hkqs dg
    have HST:=Lib.hid hst
    have HRR:=Lib.hid ((hrowR7.only (g':=gq) (lo:=offq+k) (hi:=offq+k+1) ((Only.refl gq (offq+k) (offq+k+1) w7).setCell (i:=offq+k) (Nat.le_refl _) (by omega) (uv (UInt32.ofNat dg))) (Ne.symm hne)))
    have HBS:=Lib.hid (hbel7.setCell (p:=⟨gq,offq+k,none⟩) hrowQ7.hB (uv (UInt32.ofNat dg)))
    clear hrowR hrowQ hcut hrowU hrowR7 hrowQ7 hst hrx hb7 hbel7 honly
    go_wp2_with fail
    go_roundw
    case rel =>
     rw [uv_ofNat dg (dg:Int) (by omega)]
     have hnx:=div_next rs us' (val ds) k (ns.length+1) (val qs) (val xs * 2 ^ s) (val us) (by have:=HRSL.out;omega) (by rw [HUS.out]) HWIN.out.2 HUL'.out HUV.out hD0.out HV.out
     rw [HDG.out] at hnx
     refine ⟨k,rs.take k++(us'++rs.drop (k+(ns.length+1))),qs.set k (UInt32.ofNat dg),by go_num,by omega,?_,?_,?_,hnx.2,?_,HRR.out,HST.out,HBS.out⟩
     ·have h1:=HRSL.out
      have h2:=HUL'.out
      unfold Hid
      simp only [List.length_append,List.length_take,List.length_drop];omega
     ·unfold Hid;rw [List.length_set];exact HQL.out
     ·unfold Hid
      rw [set_zero qs k dg hkqs hq0.out,Nat.mod_eq_of_lt (by omega)]
      exact hnx.1
     ·intro j hj
      rw [ent_set_ne _ _ _ _ (by omega)]
      exact HE.out j (by omega)
    case measure=>simp [intOf]
end Go.Proofs.YtpbjkgpdkopgmaaGreatDoor
namespace Go.Proofs.YtpbjkgpdkopgmaaGreatDoor
open Go.RowKit
theorem add_n (v u:Value) (a b K:Nat) (w:World) (h:Num w v a K) (g:Num w u b K) (hK:(K:Int)≤5000) :
  Calls Tryz.prog 249 #[v,u] w fun e w'=>∃ v',e = .returned v'∧IsNum w' v' (a+b)∧Below w.heap.size w w':=by
 obtain ⟨A,c,xs,rfl,h2,h3,h4,h5,rfl⟩:=h
 obtain ⟨B,d,ys,rfl,g2,g3,g4,g5,rfl⟩:=g
 exact add_any A xs c B ys d w h2 h3 (by omega) g2 g3 (by omega)
theorem mul_n (v u:Value) (a b K:Nat) (w:World) (h:Num w v a K) (g:Num w u b K) (hK:(K:Int)≤5000) :
  Calls Tryz.prog 250 #[v,u] w fun e w'=>∃ v',e = .returned v'∧IsNum w' v' (a * b)∧Below w.heap.size w w':=by
 obtain ⟨A,c,xs,rfl,h2,h3,h4,h5,rfl⟩:=h
 obtain ⟨B,d,ys,rfl,g2,g3,g4,g5,rfl⟩:=g
 exact mul_any A xs c B ys d w h2 h3 (by omega) g2 g3 (by omega)
theorem div_n (v u:Value) (a b K:Nat) (w:World) (h:Num w v a K) (g:Num w u b K) (hK:(K:Int)≤5000) :
  Calls Tryz.prog 266 #[v,u] w fun e w'=>∃ q r ok,e = .returned (.tuple #[q,r,.bool ok])∧DivN w' a b q r ok∧Below w.heap.size w w':=by
 obtain ⟨A,c,xs,rfl,h2,h3,h4,h5,rfl⟩:=h
 obtain ⟨B,d,ys,rfl,g2,g3,g4,g5,rfl⟩:=g
 exact div_any A xs c B ys d w h2 h3 (by omega) g2 g3 g4 (by omega)
theorem cmp_n (v u:Value) (a b K:Nat) (w:World) (h:Num w v a K) (g:Num w u b K) (hK:(K:Int)≤5000) :
  Calls Tryz.prog 268 #[v,u] w fun e w'=>e = .returned (.int .i64 (cmpI a b))∧Below w.heap.size w w':=by
 obtain ⟨A,c,xs,rfl,h2,h3,h4,h5,rfl⟩:=h
 obtain ⟨B,d,ys,rfl,g2,g3,g4,g5,rfl⟩:=g
 exact cmp_any A xs c B ys d w h2 h3 h4 (by omega) g2 g3 g4 (by omega)
theorem shl_n (v:Value) (a K:Nat) (n:Int) (w:World) (h:Num w v a K) (hK:(K:Int)≤5000) (hn1 : -100000≤n) (hn2:n≤100000) :
  Calls Tryz.prog 265 #[v,.int .i64 n] w fun e w'=>∃ v',e = .returned v'∧IsNum w' v' (shV a n)∧Below w.heap.size w w':=by
 obtain ⟨A,c,xs,rfl,h2,h3,h4,h5,rfl⟩:=h
 exact shl_any A xs c n w h2 h3 h4 (by omega) hn1 hn2
theorem bits_n (v:Value) (a K:Nat) (w:World) (h:Num w v a K) (hK:(K:Int)≤5000) :
  Calls Tryz.prog 252 #[v] w fun e w'=>e = .returned (.int .i64 (blen a:Nat))∧w=w':=by
 obtain ⟨A,c,xs,rfl,h2,h3,h4,h5,rfl⟩:=h
 exact bits_any A xs c w h2 h3 h4 (by omega)
theorem low_n (v:Value) (a K:Nat) (w:World) (h:Num w v a K) (hK:(K:Int)≤5000) :
  Calls Tryz.prog 267 #[v] w fun e w'=>e = .returned (.int .u64 (a % 18446744073709551616:Nat))∧w=w':=by
 obtain ⟨A,c,xs,rfl,h2,h3,h4,h5,rfl⟩:=h
 exact low_any A xs c w h2 h3 (by omega)
end Go.Proofs.YtpbjkgpdkopgmaaGreatDoor
