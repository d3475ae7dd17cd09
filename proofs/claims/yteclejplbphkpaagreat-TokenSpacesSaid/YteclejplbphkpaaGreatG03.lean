/- The contract of big: quotients. The contract of big: quotients, the walk (what is plain of it). The contracts of big: entries, how many bits a word has, lists without noughts behind, order, the low bits. The contracts of big: a row that the call makes and writes; order, sums, differences. The contracts of big: sums, differences, products, powers of ten. -/
import Derived.Test.YteclejplbphkpaaGreatG02
import Derived.Laws.CopyOwn
import Derived.Test.YteclejplbphkpaaGreatG01
set_option linter.unusedVariables false
set_option linter.unusedSimpArgs false
set_option linter.unnecessarySimpa false
namespace Go.Proofs.YteclejplbphkpaaGreat
open Go.RowKit
theorem Row.of_block {w:World} {B g:Nat} {xs:List UInt32} (h:w.heap[g]? = some (.cells (xs.map uv).toArray 85 (0,0))) (hB:B≤g) (hm:xs.length≤maxLen):Row w B g 0 xs.length xs:=by
 have hlt:g<w.heap.size:=by
  rcases Nat.lt_or_ge g w.heap.size with h' | h'
  ·exact h'
  ·rw [Array.getElem?_eq_none h'] at h;cases h
 refine ⟨hB,hlt,Nat.le_refl _,hm,fun j hj=>⟨?_,?_⟩,fun j hj=>?_⟩
 ·rw [Nat.zero_add,cell_of_row w g j _ _ (0,0) h];simp [hj]
 ·simp [World.frozen?,h]
 ·rw [Nat.zero_add,cell_of_row w g j _ _ (0,0) h];simp [hj]
section
variable {P:Program} (w:World) {ops:Array Oper} {rest:List Oper} {o:Oper} {a:Act} {Q:Exit→Act→World→Prop}
theorem wpList_mkw {t e:TypeId} {by_:Nat} (T:ElT P t e by_) (hz0:∀ i,P.info? e=some i→i.zero=some (uv 0)) (hgd:o.guard=none) (l c:Operand) (hop:o.op=Op.makeSlice t l c)
  (kl kc:IntKind) (N:Int) (hl:a.eval l = .int kl N) (hc:a.eval c = .int kc N) (h0:0≤N) (hby:by_ * N≤281474976710656) (hm:N≤281474976710656)
  (h:∀ g off w' (zs:List UInt32),Hid (off=0∧w'.heap[g]? = some (.cells (zs.map uv).toArray e (0,0)))→Hid (zs=List.replicate N.toNat 0)→(zs.length:Int)≤N→N≤(zs.length:Int)→Below w.heap.size w w'→w.heap.size≤g→wpList P ops Q rest (a.put o.dst (.slice (some ⟨g,off,none⟩) zs.length zs.length)) w'):wpList P ops Q (o :: rest) a w:=by
 obtain ⟨i,z,hi,hz,h1,h2,h3⟩:=T.inf
 obtain rfl:z=uv 0:=by have:=hz0 i hi;rw [hz] at this;injection this
 refine wpList_plain hgd fun K hK=>?_
 have hrun:=run_make (P:=P) w t e i (uv 0) T.ht hi hz kl kc N N h0 (Int.le_refl _) (by rw [h2];exact hby) (by omega)
 rw [h1,Nat.mul_one] at hrun
 have hmc:(madeCells (uv 0).cells N.toNat).toList=List.replicate N.toNat (uv 0):=by
  rw [show (uv 0).cells=#[uv 0] from rfl]
  apply List.ext_getElem
  ·simp [madeCells]
  ·intro j h1 h2
   simp [madeCells,Nat.mod_one]
 have hma:madeCells (uv 0).cells N.toNat=((List.replicate N.toNat (0:UInt32)).map uv).toArray:=by
  apply Array.toList_inj.1
  rw [hmc];simp
 have:=hK _ _ (h w.heap.size 0 (w.alloc (.cells (madeCells (uv 0).cells N.toNat) e)) (List.replicate N.toNat 0) ⟨rfl,by rw [← hma];exact heap_alloc_new w _⟩ rfl (by rw [List.length_replicate];omega) (by rw [List.length_replicate];omega) ((Below.refl _ w).alloc (Nat.le_refl _) _) (Nat.le_refl _))
 unfold Oper.wp execOp
 simp only [hop,Sem.run_bind,Sem.run_pure,Result.andThen_ok,hl,hc,hrun]
 simp only [List.length_replicate] at this
 exact this
theorem wpList_slR {t e:TypeId} {by_:Nat} (T:ElT P t e by_) (hgd:o.guard=none) (x pl ph:Operand) (ho:o.op = .slice t x (some pl) (some ph) none)
  (g off n c:Nat) (hx:a.eval x = .slice (some ⟨g,off,none⟩) n c) (hc:n≤c) (l m:Nat) (kl kh:IntKind) (li hi:Int) (hlo:a.eval pl = .int kl li) (hhi:a.eval ph = .int kh hi)
  (e1:li=l) (e2:hi=((l+m:Nat):Int)) (h0:0<m) (h2:l+m≤n)
  (hK:wpList P ops Q rest (a.put o.dst (.slice (some ⟨g,off+l,none⟩) m (c - l))) w):wpList P ops Q (o :: rest) a w:=by
 refine wpList_plain hgd fun K hK'=>?_
 subst e1 e2
 have hrun:=run_sl (P:=P) w T (A:=some ⟨g,off,none⟩) (n:=n) (c:=c) hc (some (a.eval pl)) (some (a.eval ph)) l (l+m:Nat) (by omega) (by omega) (by omega) (.inr ⟨kl,by rw [hlo]⟩) (.inr ⟨kh,by rw [hhi]⟩)
 have hs:Go.sliced (some ⟨g,off,none⟩) (l:Int).toNat ((l+m:Nat):Int).toNat c 1 = .slice (some ⟨g,off+l,none⟩) m (c - l):=by
  have:¬ c=l:=by omega
  simp only [Int.toNat_natCast]
  have e3:l+m - l=m:=by omega
  by_cases h0:l=0 <;> simp [Go.sliced,this,Addr.add,e3,h0]
  all_goals omega
 rw [hs] at hrun
 have:=hK' _ _ hK
 unfold Oper.wp execOp
 simp only [ho,Sem.run_bind,Sem.run_pure,Result.andThen_ok,hx]
 rw [show Option.map a.eval (some pl)=some (a.eval pl) from rfl,show Option.map a.eval (some ph)=some (a.eval ph) from rfl,show Option.map a.eval (none:Option Operand)=none from rfl,run_sliceAt_slice w t _ _ _ _ (by simp [Program.elem,T.ht]),hrun]
 exact this
end
end Go.Proofs.YteclejplbphkpaaGreat
namespace Go.Proofs.YteclejplbphkpaaGreat
open Go.RowKit
theorem val_split (l:List UInt32) (k:Nat):val l=val (l.take k)+4294967296 ^ k * val (l.drop k):=by
 by_cases h:k≤l.length
 ·have:=val_append (l.take k) (l.drop k)
  rw [List.take_append_drop,List.length_take,Nat.min_eq_left h] at this
  exact this
 ·rw [List.take_of_length_le (by omega),List.drop_eq_nil_of_le (by omega)];simp [val]
theorem val_head (l:List UInt32) (k:Nat):val (l.drop k)=ent l k+4294967296 * val (l.drop (k+1)):=by
 by_cases h:k<l.length
 ·rw [List.drop_eq_getElem_cons h,val_cons,ent,List.getD,List.getElem?_eq_getElem h];rfl
 ·rw [List.drop_eq_nil_of_le (by omega),List.drop_eq_nil_of_le (by omega),ent,List.getD,List.getElem?_eq_none (by omega)];rfl
theorem div_start (rs:List UInt32) (X Y s lx k m:Nat) (h:val rs=X * 2 ^ s) (hX:X<4294967296 ^ lx) (hY:4294967296 ^ m≤Y) (hk:lx≤k+m):val (rs.drop k)<Y * 2 ^ s:=by
 have h1:=val_split rs k
 have hs:0<2 ^ s:=Nat.pow_pos (by decide)
 have h2:X * 2 ^ s<4294967296 ^ k * (Y * 2 ^ s):=by
  rw [← Nat.mul_assoc]
  refine Nat.mul_lt_mul_of_pos_right ?_ hs
  refine Nat.lt_of_lt_of_le hX (Nat.le_trans (Nat.pow_le_pow_right (by decide) hk) ?_)
  rw [Nat.pow_add]
  exact Nat.mul_le_mul_left _ hY
 exact Nat.lt_of_mul_lt_mul_left (a:=4294967296 ^ k) (by omega)
theorem div_round (rs:List UInt32) (D k m L:Nat) (hL:L=m+2) (hD:D<4294967296 ^ (m+1)) (h:val (rs.drop (k+1))<D) :
  val ((rs.take (k+L)).drop k)<4294967296 * D∧val (rs.drop (k+L))=0:=by
 have h1:=val_head rs k
 have h2:=ent_le rs k
 have h3:val (rs.drop k)<4294967296 * D:=by omega
 have h4:=val_split (rs.drop k) L
 rw [List.drop_drop] at h4
 have h5:(rs.take (k+L)).drop k=(rs.drop k).take L:=by rw [List.drop_take];congr 1;omega
 rw [h5]
 have h6:4294967296 * D<4294967296 ^ L:=by
  rw [hL,show m+2=(m+1)+1 from rfl,Nat.pow_succ,Nat.mul_comm]
  exact Nat.mul_lt_mul_of_pos_right hD (by decide)
 rcases Nat.eq_zero_or_pos (val (rs.drop (k+L))) with h7 | h7
 ·exact ⟨by omega,h7⟩
 ·have:4294967296 ^ L * 1≤4294967296 ^ L * val (rs.drop (k+L)):=Nat.mul_le_mul_left _ h7
  omega
theorem div_next (rs us':List UInt32) (D k L Q V U:Nat) (hk:k≤rs.length) (hU:val ((rs.take (k+L)).drop k)=U) (h0:val (rs.drop (k+L))=0) (hL:us'.length=L) (hu:val us'=U % D) (hD:0<D) (h:val rs+D * Q=V) :
  val (rs.take k++(us'++rs.drop (k+L)))+D * (Q+4294967296 ^ k * (U / D))=V∧val ((rs.take k++(us'++rs.drop (k+L))).drop k)<D:=by
 have ht:(rs.take k).length=k:=by rw [List.length_take];omega
 have h1:val (rs.take k++(us'++rs.drop (k+L)))=val (rs.take k)+4294967296 ^ k * (U % D):=by
  rw [val_append,val_append,h0,ht,hu];simp
 have h2:=val_split rs k
 have h3:=val_split (rs.drop k) L
 have h5:(rs.take (k+L)).drop k=(rs.drop k).take L:=by rw [List.drop_take];congr 1;omega
 rw [List.drop_drop,h0,← h5,hU,Nat.mul_zero,Nat.add_zero] at h3
 rw [h3] at h2
 constructor
 ·rw [h1,Nat.mul_add,Nat.mul_left_comm]
  have h6:=Nat.div_add_mod U D
  have h7:4294967296 ^ k * U=4294967296 ^ k * (D * (U / D))+4294967296 ^ k * (U % D):=by rw [← Nat.mul_add,h6]
  omega
 ·rw [List.drop_append,List.drop_eq_nil_of_le (by omega),ht,Nat.sub_self,List.drop_zero,List.nil_append,val_append,h0,hu]
  simpa using Nat.mod_lt _ hD
theorem Row.cut {w:World} {B g off cap l m:Nat} {xs:List UInt32} (h:Row w B g off cap xs) (h1:l+m≤xs.length) (h2:l≤cap):Row w B g (off+l) (cap - l) ((xs.take (l+m)).drop l):=by
 have hl:((xs.take (l+m)).drop l).length=m:=by rw [List.length_drop,List.length_take];omega
 have:=h.hn
 refine ⟨h.hB,h.hg,by omega,by have:=h.hm;omega,fun j hj=>?_,fun j hj=>?_⟩
 ·rw [Nat.add_assoc];exact h.hs (l+j) (by omega)
 ·rw [List.getElem_drop,List.getElem_take,Nat.add_assoc];exact h.hc (l+j) (by omega)
theorem Row.splice {w w':World} {B g off cap l m:Nat} {xs us:List UInt32} (h:Row w B g off cap xs) (h1:l+m≤xs.length) (ho:Only g (off+l) (off+l+m) w w') (hu:Row w' B g (off+l) (cap - l) us) (hm:us.length=m) :
  Row w' B g off cap (xs.take l++(us++xs.drop (l+m))):=by
 have hlen:(xs.take l++(us++xs.drop (l+m))).length=xs.length:=by
  simp only [List.length_append,List.length_take,List.length_drop];omega
 refine ⟨h.hB,Nat.lt_of_lt_of_le h.hg ho.size,by rw [hlen];exact h.hn,h.hm,fun j hj=>⟨ho.isSome _ (h.hs j hj).1,(ho.frozen _).trans (h.hs j hj).2⟩,fun j hj=>?_⟩
 by_cases c1:j<l
 ·rw [ho.cell _ (by omega),h.hc j (by omega),List.getElem_append_left (by rw [List.length_take];omega),List.getElem_take]
 ·by_cases c2:j<l+m
  ·have:=hu.hc (j - l) (by omega)
   rw [show off+l+(j - l)=off+j from by omega] at this
   rw [this,List.getElem_append_right (by rw [List.length_take];omega),List.getElem_append_left (by rw [List.length_take];omega)]
   congr 3;rw [List.length_take];omega
  ·rw [ho.cell _ (by omega),h.hc j (by omega),List.getElem_append_right (by rw [List.length_take];omega),List.getElem_append_right (by rw [List.length_take];omega),List.getElem_drop]
   congr 3;rw [List.length_take];omega
theorem blen_le (x:Nat) (h:(x:Int)≤4294967295):blen x≤32:=by
 unfold blen
 split
 ·decide
 ·rename_i hx0
  have:Nat.log2 x<32:=(Nat.log2_lt hx0).2 (by omega)
  omega
theorem div_norm (n m s:Nat) (hl:(limbs n).length=m+1) (hs:blen (ent (limbs n) m)+s=32):n * 2 ^ s<4294967296 ^ (m+1)∧4294967296 ^ m≤n∧(limbs (n * 2 ^ s)).length=m+1:=by
 have hb:=blen_top (limbs n) m hl (limbs_top n m hl)
 have h0:=limbs_top n m hl
 rw [val_limbs] at hb
 have hn0:n≠0:=by rintro rfl;simp [limbs_zero] at hl
 have hlt:n<2 ^ (blen n):=by
  unfold blen;rw [if_neg hn0];exact (Nat.log2_lt hn0).1 (Nat.lt_succ_self _)
 have h1:n * 2 ^ s<4294967296 ^ (m+1):=by
  have:(4294967296:Nat) ^ (m+1)=2 ^ blen n * 2 ^ s:=by
   rw [show (4294967296:Nat)=2 ^ 32 from rfl,← Nat.pow_mul,← Nat.pow_add];congr 1;omega
  rw [this]
  exact Nat.mul_lt_mul_of_pos_right hlt (Nat.pow_pos (by decide))
 have h2:4294967296 ^ m≤n:=by
  have:=ent_val (limbs n) m
  rw [val_limbs] at this
  rcases Nat.lt_or_ge n (4294967296 ^ m) with h | h
  ·rw [Nat.div_eq_of_lt h] at this;exact absurd this h0
  ·exact h
 have h3:n≤n * 2 ^ s:=Nat.le_mul_of_pos_right _ (Nat.pow_pos (by decide))
 refine ⟨h1,h2,?_⟩
 have h4:=limbs_len (n * 2 ^ s) (m+1) h1
 rcases Nat.lt_or_ge (limbs (n * 2 ^ s)).length (m+1) with h | h
 ·exfalso
  have h5:=val_lt (limbs (n * 2 ^ s))
  rw [val_limbs] at h5
  have h6:(4294967296:Nat) ^ (limbs (n * 2 ^ s)).length≤4294967296 ^ m:=Nat.pow_le_pow_right (by decide) (by omega)
  omega
 ·omega
end Go.Proofs.YteclejplbphkpaaGreat
namespace Go.Proofs.YteclejplbphkpaaGreat
open Go.RowKit
set_option maxHeartbeats 400000 in
theorem elem_any (A:Option Addr) (xs:List UInt32) (c:Nat) (i:Nat) (w:World) (hr:Rd uv w A xs) (hc:xs.length≤c) (hl:(xs.length:Int)≤1000000) (hi:(i:Int)≤1000000000) :
  Calls Tryz.prog 101 #[.slice A xs.length c,.int .i64 i] w fun e w'=>e = .returned (.int .u64 (ent xs i:Nat))∧w=w':=by
 by_cases hlt:i<xs.length
 ·obtain ⟨b,off,rfl,hb,hcell⟩:=hr.at_ (k:=i) hlt
  unfold uv at hcell
  have he:Hid (ent xs i=xs[i].toNat):=by unfold Hid ent;rw [List.getD,List.getElem?_eq_getElem hlt];rfl
  have hx:(xs[i].toNat:Int)≤4294967295:=by have:=xs[i].toNat_lt;omega
  have hd:decide (xs.length≤i)=false:=decide_eq_false (by omega)
  go_enter Tryz.func101,Tryz.ntmps101
  go_wp2
  go_ret
  refine ⟨?_,rfl⟩
  rw [he.out]
  rfl
 ·have he:Hid (ent xs i=0):=by unfold Hid ent;rw [List.getD,List.getElem?_eq_none (by omega)];rfl
  have hd:decide (xs.length≤i)=true:=decide_eq_true (by omega)
  go_enter Tryz.func101,Tryz.ntmps101
  go_wp2
  go_ret
  refine ⟨?_,rfl⟩
  rw [he.out]
  rfl
set_option maxHeartbeats 800000 in
theorem length_any (v:Nat) (w:World) (hv:(v:Int)≤4294967295) :
  Calls Tryz.prog 102 #[.int .u32 v] w fun e w'=>e = .returned (.int .i64 (blen v:Nat))∧w=w':=by
 go_enter Tryz.func102,Tryz.ntmps102
 go_wp2_with fail
 go_loop [0,3] (fun x k=>∃ n u:Nat,k = .int .i64 n∧n≤32∧x = .int .u32 u∧(u:Int)≤4294967295∧Hid (v / 2 ^ n=u)∧Hid (n=0∨2 ^ (n - 1)≤v)) (fun x _=>(intOf x).toNat)
 case atStart=>exact ⟨0,v,rfl,by omega,rfl,hv,by unfold Hid;simp,.inl rfl⟩
 case round =>
  obtain ⟨n,u,rfl,hn,rfl,hu,HU,HN⟩:=hrel
  by_cases h0:0<u
  ·have hd:decide (0<u)=true:=decide_eq_true h0
   have hp:2 ^ n≤v:=by
    rcases Nat.lt_or_ge v (2 ^ n) with h | h
    ·have:=HU.out;rw [Nat.div_eq_of_lt h] at this;omega
    ·exact h
   have hn31:n≤31:=by
    rcases Nat.lt_or_ge 31 n with h | h
    ·have:2 ^ 32≤2 ^ n:=Nat.pow_le_pow_right (by decide) h
     omega
    ·exact h
   have HP:=Lib.hid hp
   clear hp
   go_wp2_with fail
   go_round
   case rel =>
    refine ⟨n+1,u / 2,by go_num,by omega,by go_num,by omega,?_,.inr HP.out⟩
    unfold Hid
    rw [Nat.pow_succ,← Nat.div_div_eq_div_mul,HU.out]
   case measure=>simp [intOf];omega
  ·obtain rfl:u=0:=by omega
   have hfin:Hid (blen v=n):=by
    have h:=HU.out
    have hlt:v<2 ^ n:=(Nat.div_eq_zero_iff_lt (Nat.pow_pos (by decide))).1 h
    exact (bits_unique _ _ hlt HN.out).symm
   go_wp2_with fail
   go_ret
   refine ⟨?_,rfl⟩
   rw [hfin.out]
   rfl
set_option maxHeartbeats 1600000 in
theorem trim_any (A:Option Addr) (xs:List UInt32) (c:Nat) (w:World) (hr:Rd uv w A xs) (hc:xs.length≤c) (hm:c≤maxLen) (hl:(xs.length:Int)≤1000000) :
  Calls Tryz.prog 93 #[.slice A xs.length c] w fun e w'=>∃ v',e = .returned v'∧IsNum w v' (val xs)∧w=w':=by
 unfold maxLen at hm
 go_enter Tryz.func93,Tryz.ntmps93
 go_wp2_with fail
 go_loop [0] (fun v=>∃ A' c' n,v = .slice A' n c'∧n≤xs.length∧n≤c'∧c'≤c∧Rd uv w A' (xs.take n)∧Hid (∀ j,n≤j→xs.getD j 0=0)) (fun v=>lenV v)
 case atStart =>
  refine ⟨A,c,xs.length,rfl,Nat.le_refl _,hc,Nat.le_refl _,?_,fun j hj=>by rw [List.getD,List.getElem?_eq_none hj];rfl⟩
  rw [List.take_length];exact hr
 case round =>
  obtain ⟨A1,c1,n,rfl,hn,hnc,hcc,hr1,HZ⟩:=hrel
  have fin:(n=0∨xs.getD (n - 1) 0≠0)→IsNum w (.slice A1 n c1) (val xs):=fun h=>by
   have e:(xs.take n).length=n:=by rw [List.length_take];omega
   refine ⟨A1,c1,xs.take n,by rw [e],hr1,by omega,by unfold maxLen;omega,take_limbs xs n hn HZ.out h⟩
  rcases n with _ | m
  ·have hz:=Lib.hid (fin (.inl rfl))
   clear fin
   go_wp2_with fail
   go_ret
   exact ⟨_,rfl,hz.out,rfl⟩
  ·have hml:m<xs.length:=by omega
   obtain ⟨b,off,rfl,hb,hcell⟩:∃ b off,A1=some ⟨b,off,none⟩∧b<w.heap.size∧w.cell? ⟨b,off+m,none⟩=some (.int .u32 (xs[m].toNat:Int)):=by
    obtain ⟨b,off,h1,h2,h3⟩:=hr1.at_ (k:=m) (by rw [List.length_take];omega)
    rw [List.getElem_take] at h3
    exact ⟨b,off,h1,h2,h3⟩
   have HG:Hid (xs.getD m 0=xs[m]):=by unfold Hid;rw [List.getD,List.getElem?_eq_getElem (by omega)];rfl
   have HL:Hid ((xs.take (m+1)).length=m+1):=by unfold Hid;rw [List.length_take];omega
   by_cases hx:xs[m]=0
   ·have hb0:((xs[m].toNat:Int) == 0)=true:=by rw [hx];rfl
    have HX:=Lib.hid hx
    clear hx fin
    go_wp2_with (refine wpList_sl (f:=uv) _ uT rfl _ _ _ rfl _ (xs.take (m+1)) c1 (by rw [HL.out];rfl) hr1 (by rw [HL.out];omega) 0 (m:Int) (.inl ⟨rfl,rfl⟩) (.inr ⟨_,_,rfl,rfl⟩) (by omega) (by omega) (by rw [HL.out];omega) ?_;intro A2 ys c2 hcut hc1 hc2;obtain ⟨hr2,HY,hlo,hhi⟩:=hcut)
    go_round
    case rel =>
     have e:ys.length=m:=by omega
     refine ⟨A2,c2,ys.length,rfl,by omega,hc1,by omega,hr2.cast ?_,fun j hj=>?_⟩
     ·rw [e,HY.out];simp [List.take_take]
     ·by_cases hjm:j=m
      ·subst hjm;rw [HG.out,HX.out]
      ·exact HZ.out j (by omega)
    case measure=>simp [lenV];omega
   ·have hb0:((xs[m].toNat:Int) == 0)=false:=by
     rw [beq_eq_false_iff_ne]
     intro h
     exact hx (UInt32.toNat_inj.1 (by simpa using h))
    have hz:=Lib.hid (fin (.inr (by rw [Nat.add_sub_cancel,HG.out];exact hx)))
    clear hx fin
    go_wp2_with fail
    go_ret
    exact ⟨_,rfl,hz.out,rfl⟩
set_option maxHeartbeats 400000 in
theorem nanInt_any (a:Int) (w:World):Calls Tryz.prog 115 #[.int .i64 a] w fun e w'=>e = .returned (.bool false)∧w=w':=by
 have g0:(a != a)=false:=by simp
 go_enter Tryz.func115,Tryz.ntmps115
 go_wp2_with fail
 go_ret
 exact ⟨rfl,rfl⟩
set_option maxHeartbeats 400000 in
theorem nanU32_any (a:Int) (w:World):Calls Tryz.prog 116 #[.int .u32 a] w fun e w'=>e = .returned (.bool false)∧w=w':=by
 have g0:(a != a)=false:=by simp
 go_enter Tryz.func116,Tryz.ntmps116
 go_wp2_with fail
 go_ret
 exact ⟨rfl,rfl⟩
set_option maxHeartbeats 800000 in
theorem cmpInt_any (a b:Int) (w:World):Calls Tryz.prog 111 #[.int .i64 a,.int .i64 b] w fun e w'=>e = .returned (.int .i64 (cmpZ a b))∧w=w':=by
 rcases (by omega:a<b∨(¬ a<b∧b<a)∨(¬ a<b∧¬ b<a)) with h | ⟨h1,h2⟩ | ⟨h1,h2⟩
 ·have hz:Hid (cmpZ a b = -1):=by unfold Hid cmpZ;rw [if_pos h]
  go_enter Tryz.func111,Tryz.ntmps111
  go_wp2_with fail
  refine (nanInt_any a _).mono ?_;rintro e w' ⟨rfl,rfl⟩
  go_wp2_with fail
  refine (nanInt_any b _).mono ?_;rintro e w' ⟨rfl,rfl⟩
  go_wp2_with fail
  go_ret
  exact ⟨by rw [hz.out];rfl,rfl⟩
 ·have hz:Hid (cmpZ a b=1):=by unfold Hid cmpZ;rw [if_neg h1,if_pos h2]
  go_enter Tryz.func111,Tryz.ntmps111
  go_wp2_with fail
  refine (nanInt_any a _).mono ?_;rintro e w' ⟨rfl,rfl⟩
  go_wp2_with fail
  refine (nanInt_any b _).mono ?_;rintro e w' ⟨rfl,rfl⟩
  go_wp2_with fail
  go_ret
  exact ⟨by rw [hz.out];rfl,rfl⟩
 ·have hz:Hid (cmpZ a b=0):=by unfold Hid cmpZ;rw [if_neg h1,if_neg h2]
  go_enter Tryz.func111,Tryz.ntmps111
  go_wp2_with fail
  refine (nanInt_any a _).mono ?_;rintro e w' ⟨rfl,rfl⟩
  go_wp2_with fail
  refine (nanInt_any b _).mono ?_;rintro e w' ⟨rfl,rfl⟩
  go_wp2_with fail
  go_ret
  exact ⟨by rw [hz.out];rfl,rfl⟩
set_option maxHeartbeats 800000 in
theorem cmpU32_any (a b:Int) (w:World):Calls Tryz.prog 112 #[.int .u32 a,.int .u32 b] w fun e w'=>e = .returned (.int .i64 (cmpZ a b))∧w=w':=by
 rcases (by omega:a<b∨(¬ a<b∧b<a)∨(¬ a<b∧¬ b<a)) with h | ⟨h1,h2⟩ | ⟨h1,h2⟩
 ·have hz:Hid (cmpZ a b = -1):=by unfold Hid cmpZ;rw [if_pos h]
  go_enter Tryz.func112,Tryz.ntmps112
  go_wp2_with fail
  refine (nanU32_any a _).mono ?_;rintro e w' ⟨rfl,rfl⟩
  go_wp2_with fail
  refine (nanU32_any b _).mono ?_;rintro e w' ⟨rfl,rfl⟩
  go_wp2_with fail
  go_ret
  exact ⟨by rw [hz.out];rfl,rfl⟩
 ·have hz:Hid (cmpZ a b=1):=by unfold Hid cmpZ;rw [if_neg h1,if_pos h2]
  go_enter Tryz.func112,Tryz.ntmps112
  go_wp2_with fail
  refine (nanU32_any a _).mono ?_;rintro e w' ⟨rfl,rfl⟩
  go_wp2_with fail
  refine (nanU32_any b _).mono ?_;rintro e w' ⟨rfl,rfl⟩
  go_wp2_with fail
  go_ret
  exact ⟨by rw [hz.out];rfl,rfl⟩
 ·have hz:Hid (cmpZ a b=0):=by unfold Hid cmpZ;rw [if_neg h1,if_neg h2]
  go_enter Tryz.func112,Tryz.ntmps112
  go_wp2_with fail
  refine (nanU32_any a _).mono ?_;rintro e w' ⟨rfl,rfl⟩
  go_wp2_with fail
  refine (nanU32_any b _).mono ?_;rintro e w' ⟨rfl,rfl⟩
  go_wp2_with fail
  go_ret
  exact ⟨by rw [hz.out];rfl,rfl⟩
set_option maxHeartbeats 400000 in
theorem low_any (A:Option Addr) (xs:List UInt32) (c:Nat) (w:World) (hr:Rd uv w A xs) (hc:xs.length≤c) (hl:(xs.length:Int)≤1000000) :
  Calls Tryz.prog 106 #[.slice A xs.length c] w fun e w'=>e = .returned (.int .u64 (val xs % 18446744073709551616:Nat))∧w=w':=by
 go_enter Tryz.func106,Tryz.ntmps106
 go_wp2_with fail
 refine (elem_any A xs c 1 _ hr hc hl (by omega)).mono ?_;rintro e w' ⟨rfl,rfl⟩
 have l1:=ent_le xs 1
 go_wp2_with fail
 refine (elem_any A xs c 0 _ hr hc hl (by omega)).mono ?_;rintro e w' ⟨rfl,rfl⟩
 have l0:=ent_le xs 0
 have hv:Hid (val xs % 18446744073709551616=ent xs 0+ent xs 1 * 4294967296):=by
  unfold Hid
  rw [ent_val,ent_val]
  generalize val xs=V
  omega
 go_wp2_with fail
 go_ret
 refine ⟨?_,rfl⟩
 rw [hv.out,← or_lo (ent xs 0) (ent xs 1) l0 l1]
 rfl
set_option maxHeartbeats 400000 in
theorem of_any (n:Nat) (w:World) (hn:(n:Int)≤18446744073709551615) :
  Calls Tryz.prog 79 #[.int .u64 n] w fun e w'=>∃ v',e = .returned v'∧IsNum w' v' n∧Below w.heap.size w w':=by
 have hv:Hid (val [UInt32.ofNat n,UInt32.ofNat (n / 4294967296)]=n):=by
  unfold Hid
  simp only [val,UInt32.toNat_ofNat']
  omega
 have h1:Hid (Value.int .u32 ((n:Int) % 4294967296)=uv (UInt32.ofNat n)):=uv_ofNat _ _ (by omega)
 have h2:Hid (Value.int .u32 ((n:Int) / 4294967296)=uv (UInt32.ofNat (n / 4294967296))):=uv_ofNat _ _ (by omega)
 go_enter Tryz.func79,Tryz.ntmps79
 go_wp2_with fail
 refine (trim_any (some ⟨w.heap.size,0,none⟩) [UInt32.ofNat n,UInt32.ofNat (n / 4294967296)] 2 _ ?_ (by simp) (by simp [maxLen]) (by simp)).mono ?_
 ·rw [h1.out,h2.out]
  exact Rd.litsU [UInt32.ofNat n,UInt32.ofNat (n / 4294967296)] rfl
 rintro e w1 ⟨v1,rfl,hown1,rfl⟩
 rw [hv.out] at hown1
 go_wp2_with fail
 go_ret
 exact ⟨_,rfl,hown1,nx0 w _⟩
set_option maxHeartbeats 800000 in
theorem bits_any (A:Option Addr) (xs:List UInt32) (c:Nat) (w:World) (hr:Rd uv w A xs) (hc:xs.length≤c) (hm:c≤maxLen) (hl:(xs.length:Int)≤200000) :
  Calls Tryz.prog 94 #[.slice A xs.length c] w fun e w'=>e = .returned (.int .i64 (blen (val xs):Nat))∧w=w':=by
 go_enter Tryz.func94,Tryz.ntmps94
 go_wp2_with fail
 refine (trim_any A xs c _ hr hc hm (by omega)).mono ?_;rintro e w1 ⟨v1,rfl,hn1,rfl⟩
 obtain ⟨A1,c1,ys,rfl,hr1,hc1,hm1,hl1,HY,HV⟩:=hn1.open_ xs.length (val_lt xs)
 have hyl:(ys.length:Int)≤200000:=by omega
 by_cases h0:ys.length=0
 ·have hfin:Hid (blen (val xs)=0):=by
   unfold Hid
   rw [← HV.out,List.eq_nil_of_length_eq_zero h0];rfl
  have hd:((ys.length:Int) == 0)=true:=by rw [h0];rfl
  have H0:=Lib.hid h0
  clear h0 hl1
  go_wp2_with fail
  go_ret
  refine ⟨?_,rfl⟩
  rw [hfin.out]
  rfl
 ·obtain ⟨t,ht⟩:∃ t,ys.length=t+1:=⟨ys.length - 1,by omega⟩
  have hd:((ys.length:Int) == 0)=false:=by rw [beq_eq_false_iff_ne];omega
  obtain ⟨b,off,rfl,hb,hcell⟩:=hr1.at_ (k:=t) (by omega)
  obtain ⟨x,HX⟩:∃ x,Hid (ent ys t=x):=⟨_,rfl⟩
  have vx:uv (ys[t]'(by omega)) = .int .u32 (x:Int):=by rw [← HX.out,uv,ent,List.getD,List.getElem?_eq_getElem (by omega)];rfl
  rw [vx] at hcell
  have lx:(x:Int)≤4294967295:=by rw [← HX.out];exact ent_le ys t
  have hfin:Hid (blen (val xs)=32 * t+blen x):=by
   unfold Hid
   rw [← HV.out,← HX.out]
   exact blen_top ys t ht (by rw [HY.out];exact limbs_top _ _ (by rw [← HY.out];exact ht))
  have hbx:(blen x:Int)≤32:=by
   unfold blen
   split
   ·decide
   ·rename_i hx0
    have:Nat.log2 x<32:=(Nat.log2_lt hx0).2 (by omega)
    omega
  have i1:((ys.length:Int) - 1)=(t:Int):=by omega
  have ht1:(t:Int)≤200000:=by omega
  have ht2:t<ys.length:=by omega
  have HT:=Lib.hid ht
  clear ht vx h0
  go_wp2_with fail
  refine (length_any x _ lx).mono ?_;rintro e w' ⟨rfl,rfl⟩
  go_wp2_with fail
  go_ret
  refine ⟨?_,rfl⟩
  rw [hfin.out]
  congr 2
end Go.Proofs.YteclejplbphkpaaGreat
namespace Go.Proofs.YteclejplbphkpaaGreat
open Go.RowKit
section
variable {P:Program} (w:World) {ops:Array Oper} {rest:List Oper} {o:Oper} {a:Act} {Q:Exit→Act→World→Prop}
end
theorem trim_n (A:Option Addr) (xs:List UInt32) (n c:Nat) (w:World) (hn:Hid (xs.length=n)) (hr:Rd uv w A xs) (hc:xs.length≤c) (hm:c≤maxLen) (hl:(xs.length:Int)≤1000000) :
  Calls Tryz.prog 93 #[.slice A n c] w fun e w'=>∃ v',e = .returned v'∧IsNum w v' (val xs)∧w=w':=by
 have:=hn.out;subst this;exact trim_any A xs c w hr hc hm hl
set_option maxRecDepth 100000 in
set_option maxHeartbeats 1600000 in
theorem cmp_any (A:Option Addr) (xs:List UInt32) (c:Nat) (B:Option Addr) (ys:List UInt32) (d:Nat) (w:World) (hr:Rd uv w A xs) (hc:xs.length≤c) (hm:c≤maxLen) (hl:(xs.length:Int)≤1000000) (hs:Rd uv w B ys) (hd:ys.length≤d) (hm2:d≤maxLen) (hl2:(ys.length:Int)≤1000000) :
  Calls Tryz.prog 107 #[.slice A xs.length c,.slice B ys.length d] w fun e w'=>e = .returned (.int .i64 (cmpI (val xs) (val ys)))∧Below w.heap.size w w':=by
 go_enter Tryz.func107,Tryz.ntmps107
 go_wp2_with fail
 refine (trim_any A xs c _ hr hc hm hl).mono ?_;rintro e w1 ⟨v1,rfl,hn1,rfl⟩
 obtain ⟨A1,c1,us,rfl,hr1,hc1,hm1,hl1,HU,HVU⟩:=hn1.open_ xs.length (val_lt xs)
 clear hn1
 go_wp2_with fail
 refine (trim_any B ys d _ hs hd hm2 hl2).mono ?_;rintro e w1 ⟨v2,rfl,hn2,rfl⟩
 obtain ⟨A2,c2,vs,rfl,hr2,hc2,hm2',hl2',HW,HVW⟩:=hn2.open_ ys.length (val_lt ys)
 clear hn2
 have hul:(us.length:Int)≤1000000:=by omega
 have hvl:(vs.length:Int)≤1000000:=by omega
 clear hl1 hl2'
 by_cases hlen:us.length=vs.length
 ·have b1:((us.length:Int) != (vs.length:Int))=false:=by rw [hlen];simp
  have HLEN:=Lib.hid hlen
  have hle:us.length≤vs.length:=by omega
  clear hlen
  go_wp2_with fail
  go_loopw [5] (fun v wr=>∃ m:Nat,v = .int .i64 ((m:Int) - 1)∧m≤us.length∧Hid (∀ j,m≤j→ent us j=ent vs j)∧Nx w wr) (fun v _=>(intOf v+1).toNat)
  case atStart =>
   refine ⟨us.length,rfl,Nat.le_refl _,fun j hj=>?_,Nx.refl _⟩
   have:=HLEN.out
   unfold ent
   rw [List.getD,List.getD,List.getElem?_eq_none (by omega),List.getElem?_eq_none (by omega)]
  case round =>
   obtain ⟨m,rfl,hm,HE,hb⟩:=hrel
   rcases m with _ | m
   ·have hz:Hid (cmpI (val xs) (val ys)=0):=by
     have:=val_ext us vs fun j=>HE.out j (Nat.zero_le _)
     rw [HVU.out,HVW.out] at this
     unfold Hid cmpI;rw [this];simp
    go_wp2_with fail
    go_ret
    refine ⟨?_,hb⟩
    rw [hz.out]
    rfl
   ·obtain ⟨a,HX⟩:∃ a,Hid (ent us m=a):=⟨_,rfl⟩
    obtain ⟨b,HY⟩:∃ b,Hid (ent vs m=b):=⟨_,rfl⟩
    obtain ⟨b1',off1,rfl,hb1',hcx⟩:=rd_cell (hr1.below hb) (i:=m) (by omega) HX
    obtain ⟨b2',off2,rfl,hb2',hcy⟩:=rd_cell (hr2.below hb) (i:=m) (by omega) HY
    have hmv:m<vs.length:=by omega
    have hmu:m<us.length:=by omega
    by_cases hab:a=b
    ·subst hab
     have g1:((a:Int) != (a:Int))=false:=by simp
     go_upto_region 7 with (fail)
     refine wp_region_hyb [(0,true),(1,true),(2,true),(3,true),(4,true),(5,true),(6,true),(7,true),(8,true)] (by kernel_rfl) (by kernel_rfl) ?_
     have f1:∀ x:Gr wr,x.1.cell? ⟨b1',off1+m,none⟩=some (.int .u32 (a:Int)):=fun x=>(x.2.cell (by exact hb1')).trans hcx
     have f2:∀ x:Gr wr,x.1.cell? ⟨b2',off2+m,none⟩=some (.int .u32 (a:Int)):=fun x=>(x.2.cell (by exact hb2')).trans hcy
     iterate 9 (refine hyb_calm rfl (fun K hK=>?_);go_simp;refine hK _ ?_;clear hK K)
     clear f1 f2
     refine hyb_nil (fun w3 hn3=>?_)
     go_wp2_with fail
     go_roundw
     case rel =>
      refine ⟨m,by go_num,by omega,fun j hj=>?_,hb.trans hn3⟩
      by_cases hjm:j=m
      ·subst hjm;rw [HX.out,HY.out]
      ·exact HE.out j (by omega)
     case measure=>simp [intOf]
    ·have g1:((a:Int) != (b:Int))=true:=by simp;omega
     have hz:Hid (cmpZ a b=cmpI (val xs) (val ys)):=by
      unfold Hid
      rw [← HVU.out,← HVW.out]
      unfold cmpZ cmpI
      rcases Nat.lt_or_ge a b with h | h
      ·rw [if_pos (by omega),if_pos (val_less us vs m HE.out (by rw [HX.out,HY.out];exact h))]
      ·have h3:=val_less vs us m (fun j hj=>(HE.out j hj).symm) (by rw [HX.out,HY.out];omega)
       rw [if_neg (by omega),if_pos (by omega),if_neg (by omega),if_pos h3]
     clear hab
     go_upto_region 7 with (fail)
     refine wp_region_hyb [(0,true),(1,true),(2,true),(3,true),(4,true),(5,true),(6,true),(7,true),(8,true)] (by kernel_rfl) (by kernel_rfl) ?_
     have f1:∀ x:Gr wr,x.1.cell? ⟨b1',off1+m,none⟩=some (.int .u32 (a:Int)):=fun x=>(x.2.cell (by exact hb1')).trans hcx
     have f2:∀ x:Gr wr,x.1.cell? ⟨b2',off2+m,none⟩=some (.int .u32 (b:Int)):=fun x=>(x.2.cell (by exact hb2')).trans hcy
     iterate 9 (refine hyb_calm rfl (fun K hK=>?_);go_simp;refine hK _ ?_;clear hK K)
     refine hyb_nil (fun w3 hn3=>?_)
     have f1':∀ x:Gr w3,x.1.cell? ⟨b1',off1+m,none⟩=some (.int .u32 (a:Int)):=fun x=>f1 ⟨x.1,hn3.trans x.2⟩
     have f2':∀ x:Gr w3,x.1.cell? ⟨b2',off2+m,none⟩=some (.int .u32 (b:Int)):=fun x=>f2 ⟨x.1,hn3.trans x.2⟩
     clear f1 f2
     go_upto_region 8 with (fail)
     refine wp_region_hyb [(0,true),(1,true),(2,true),(3,true),(4,true),(5,true),(6,true),(7,true),(8,false),(9,true)] (by kernel_rfl) (by kernel_rfl) ?_
     iterate 8 (refine hyb_calm rfl (fun K hK=>?_);go_simp;refine hK _ ?_;clear hK K)
     clear f1' f2'
     refine hyb_alone rfl (fun w4 hn4 K hK=>?_)
     go_simp
     refine (cmpU32_any a b _).mono ?_;rintro e w' ⟨rfl,rfl⟩
     refine hK _ _ (Nx.refl _) ?_
     clear hK K
     refine hyb_calm rfl (fun K hK=>?_);go_simp;refine hK _ ?_;clear hK K
     refine hyb_nil (fun w5 hn5=>?_)
     go_wp2
     go_ret
     refine ⟨?_,hb.trans (hn3.trans (hn4.trans hn5))⟩
     rw [← hz.out]
     rfl
 ·have b1:((us.length:Int) != (vs.length:Int))=true:=by simp;omega
  have hz:Hid (cmpZ us.length vs.length=cmpI (val xs) (val ys)):=by
   unfold Hid
   rw [HU.out,HW.out] at hlen ⊢
   exact cmpI_len _ _ hlen
  clear hlen
  go_wp2_with fail
  refine (cmpInt_any _ _ _).mono ?_;rintro e w' ⟨rfl,rfl⟩
  rw [hz.out]
  go_wp2_with fail
  go_ret
  exact ⟨rfl,Below.refl _ _⟩
end Go.Proofs.YteclejplbphkpaaGreat
namespace Go.Proofs.YteclejplbphkpaaGreat
open Go.RowKit
set_option maxRecDepth 100000 in
set_option maxHeartbeats 1600000 in
theorem add_any (A:Option Addr) (xs:List UInt32) (c:Nat) (B:Option Addr) (ys:List UInt32) (d:Nat) (w:World) (hr:Rd uv w A xs) (hc:xs.length≤c) (hl:(xs.length:Int)≤100000) (hs:Rd uv w B ys) (hd:ys.length≤d) (hl2:(ys.length:Int)≤100000) :
  Calls Tryz.prog 91 #[.slice A xs.length c,.slice B ys.length d] w fun e w'=>∃ v',e = .returned v'∧IsNum w' v' (val xs+val ys)∧Below w.heap.size w w':=by
 obtain ⟨M,hM,hM1,hM2,hM3⟩:∃ M:Nat,(if xs.length<ys.length then (ys.length:Int) else (xs.length:Int))=(M:Int)∧xs.length≤M∧ys.length≤M∧(M:Int)≤100000:=by
  by_cases h:xs.length<ys.length
  ·exact ⟨ys.length,by rw [if_pos h],by omega,by omega,hl2⟩
  ·exact ⟨xs.length,by rw [if_neg h],by omega,by omega,hl⟩
 go_enter Tryz.func91,Tryz.ntmps91
 go_wp2_with (at_make;go_must (refine wpList_mke _ uT uZ rfl _ _ rfl w.heap.size _ _ ((M:Int)+1) rfl rfl (by omega) (by omega) (by omega) (Nat.le_refl _) ?_;intro g off cap w1 zs hrow1 HZ1 hz1 hz2 hb1 hg1))
 clear hM
 have HR:=Lib.hid hrow1
 clear hrow1
 go_loopw [6,18] (fun v i wr=>∃ (k cc:Nat) (os:List UInt32),i = .int .i64 k∧v = .int .u64 cc∧cc≤1∧k≤zs.length∧os.length≤zs.length∧zs.length≤os.length ∧
  Hid (val os+cc * 4294967296 ^ k=val xs % 4294967296 ^ k+val ys % 4294967296 ^ k)∧Hid (∀ j,k≤j→ent os j=0)∧Row wr w.heap.size g off cap os∧Below w.heap.size w wr) (fun _ i _=>zs.length - (intOf i).toNat)
 case atStart =>
  refine ⟨0,0,zs,rfl,rfl,by omega,by omega,by omega,by omega,?_,?_,HR.out,hb1⟩
  ·unfold Hid;rw [HZ1.out,val_zeros];simp [Nat.mod_one]
  ·intro j _;rw [HZ1.out];exact ent_zeros _ _
 case round =>
  obtain ⟨k,cc,os,rfl,rfl,hcc,hk,ho1,ho2,HV,HE,hrow,hbel⟩:=hrel
  have hrw:=hr.below hbel
  have hsw:=hs.below hbel
  by_cases hlt:k<zs.length
  ·obtain ⟨a,HX⟩:∃ a,Hid (ent xs k=a):=⟨_,rfl⟩
   obtain ⟨b,HY⟩:∃ b,Hid (ent ys k=b):=⟨_,rfl⟩
   have la:(a:Int)≤4294967295:=by rw [← HX.out];exact ent_le xs k
   have lb:(b:Int)≤4294967295:=by rw [← HY.out];exact ent_le ys k
   have h0:Hid (ent os k=0):=HE.out k (Nat.le_refl _)
   have hco:=hrow.cell (by omega) h0
   have hfo:=hrow.free (i:=k) (by omega)
   have HST:=Lib.hid (hrow.put (i:=k) (by omega) (a+b+cc))
   have HBS:=Lib.hid (hbel.setCell (p:=⟨g,off+k,none⟩) hrow.hB (uv (UInt32.ofNat (a+b+cc))))
   have b1:decide (k<zs.length)=true:=decide_eq_true hlt
   clear hrow
   go_wp2_with fail
   refine (elem_any A xs c k _ hrw hc (by omega) (by omega)).mono ?_;rintro e w' ⟨rfl,rfl⟩
   rw [HX.out]
   go_wp2_with fail
   refine (elem_any B ys d k _ hsw hd (by omega) (by omega)).mono ?_;rintro e w' ⟨rfl,rfl⟩
   rw [HY.out]
   go_wp2_with fail
   go_roundw
   case rel =>
    have hu:Value.int .u32 (((a:Int)+b+cc) % 4294967296)=uv (UInt32.ofNat (a+b+cc)):=uv_ofNat _ _ (by omega)
    rw [hu]
    refine ⟨k+1,(a+b+cc) / 4294967296,os.set k (UInt32.ofNat (a+b+cc)),by go_num,by go_num,by omega,by omega,by simpa using ho1,by simpa using ho2,?_,?_,HST.out,HBS.out⟩
    ·unfold Hid
     have:=add_step (val os) cc (4294967296 ^ k) (val xs) (val ys) (a+b+cc) (by rw [← HX.out,← HY.out,ent_val,ent_val];omega) HV.out
     rw [set_zero os k _ (by omega) h0.out,Nat.pow_succ]
     exact this
    ·intro j hj
     rw [ent_set_ne _ _ _ _ (by omega)]
     exact HE.out j (by omega)
   case measure=>simp [intOf];omega
  ·obtain rfl:k=zs.length:=by omega
   have b1:decide (zs.length<zs.length)=false:=decide_eq_false (by omega)
   have hfin:Hid (val os=val xs+val ys):=by
    unfold Hid
    have h:=HV.out
    have h1:=val_lt xs
    have h2:=val_lt ys
    have h3:4294967296 ^ xs.length≤4294967296 ^ M:=Nat.pow_le_pow_right (by decide) hM1
    have h4:4294967296 ^ ys.length≤4294967296 ^ M:=Nat.pow_le_pow_right (by decide) hM2
    have h5:4294967296 ^ zs.length=4294967296 ^ M * 4294967296:=by rw [show zs.length=M+1 from by omega,Nat.pow_succ]
    rw [h5,Nat.mod_eq_of_lt (by omega),Nat.mod_eq_of_lt (by omega)] at h
    rcases (by omega:cc=0∨cc=1) with rfl | rfl <;> omega
   have HL:Hid (os.length=zs.length):=by unfold Hid;omega
   go_wp2_with fail
   refine (trim_n _ os _ cap _ HL hrow.rd hrow.hn hrow.hm (by omega)).mono ?_;rintro e w2 ⟨v2,rfl,hn2,rfl⟩
   rw [hfin.out] at hn2
   go_wp2_with fail
   go_ret
   exact ⟨_,rfl,hn2,hbel⟩
end Go.Proofs.YteclejplbphkpaaGreat
