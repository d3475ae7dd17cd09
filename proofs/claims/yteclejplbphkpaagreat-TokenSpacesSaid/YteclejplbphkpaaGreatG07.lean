/- The contracts of dec's parts of a text: an exponent, the whole number taken apart. The contract of dec's digits as a number (what is plain of it). The contract of dec's digits as a number. The contract of dec.Parse: the document's parse (what is plain of it). -/
import Derived.Test.YteclejplbphkpaaGreatG06
import Derived.Test.YteclejplbphkpaaGreatShelf
import Derived.Test.YteclejplbphkpaaGreatG01
import Derived.Test.YteclejplbphkpaaGreatG04
set_option linter.unusedVariables false
set_option linter.unusedSimpArgs false
set_option linter.unnecessarySimpa false
namespace Go.Proofs.YteclejplbphkpaaGreat
open Go.RowKit
set_option maxRecDepth 100000 in
set_option maxHeartbeats 1600000 in
theorem capped_any (s:ByteArray) (l:List UInt8) (w:World) (hl:Tx s l) (hd:digs l) (hs:(l.length:Int)≤10000) :
  Calls Tryz.prog 100 #[.string s] w fun e w'=>e = .returned (.int .i64 (capF l 0:Nat))∧Below w.heap.size w w':=by
 have HL:=Lib.hid hl
 have HD:=Lib.hid hd
 have hz:(s.size:Int)≤10000:=by rw [hl.size];exact hs
 clear hl hd
 go_enter Tryz.func100,Tryz.ntmps100
 go_wp2_with fail
 go_loopw [3,7] (fun a v wr=>∃ (n m:Nat),v = .int .i64 n∧a = .int .i64 m∧n≤l.length∧m≤401∧Hid (capF (l.take n) 0=m)∧Below w.heap.size w wr) (fun _ v _=>(10000 - intOf v).toNat)
 case atStart=>exact ⟨0,0,rfl,rfl,Nat.zero_le _,by decide,by unfold Hid;simp [capF],Below.refl _ _⟩
 case round =>
  obtain ⟨n,m,rfl,rfl,hn,hm,HM,hb⟩:=hrel
  by_cases hlt:n<l.length
  ·obtain ⟨hp,e0⟩:=HL.out.idx n hlt
   obtain ⟨c,hc⟩:∃ c,l[n]=c:=⟨_,rfl⟩
   rw [hc] at e0
   have hcd:=(isDig_iff c).1 (HD.out c (by rw [← hc];exact List.getElem_mem hlt))
   have h48:(48:Int)≤(c.toNat:Int):=by omega
   have h57:(c.toNat:Int)≤57:=by omega
   obtain ⟨M,hM,hM2⟩:∃ M:Nat,min (10 * (m:Int)+((c.toNat:Int) - 48)) 401=(M:Int)∧M=min (10 * m+digV c) 401:=by
    refine ⟨_,?_,rfl⟩
    unfold digV
    omega
   have HN:Hid (capF (l.take (n+1)) 0=M):=by unfold Hid;rw [capF_take l n hlt 0,HM.out,hc,hM2]
   have hM3:M≤401:=by omega
   clear hM2 hcd hc
   go_wp2_with fail
   go_roundw
   case rel=>exact ⟨n+1,M,by go_num,rfl,hlt,hM3,HN,hb⟩
   case measure=>simp [intOf];omega
  ·have g1:¬ n<s.size:=by rw [HL.out.size];omega
   have HE:Hid (capF l 0=m):=by unfold Hid;rw [← HM.out,List.take_of_length_le (by omega)]
   go_wp2_with fail
   go_ret
   refine ⟨?_,hb⟩
   rw [HE.out];rfl
set_option maxRecDepth 100000 in
set_option maxHeartbeats 1600000 in
theorem exponent_any (s:ByteArray) (c:UInt8) (l:List UInt8) (w:World) (hl:Tx s (c :: l)) (hs:(l.length:Int)≤9000) :
  Calls Tryz.prog 90 #[.string s] w fun e w'=>e = .returned (.tuple #[.int .i64 (expD (c :: l)).1,.bool (expD (c :: l)).2])∧Below w.heap.size w w':=by
 obtain ⟨hp,t,e0,e1,ht,e2,e3⟩:=hl.cons
 have HT:=Lib.hid ht
 clear ht hl
 have gen:(c.toNat=101∨c.toNat=69)→Calls Tryz.prog 90 #[.string s] w fun e w'=>e = .returned (.tuple #[.int .i64 (expD (c :: l)).1,.bool (expD (c :: l)).2])∧Below w.heap.size w w':=by
  intro hc
  have HX:Hid (expD (c :: l)=(if (signS l).1 then -((capF (spanD (signS l).2).1 0:Nat):Int) else ((capF (spanD (signS l).2).1 0:Nat):Int),!(spanD (signS l).2).1.isEmpty && (spanD (signS l).2).2.isEmpty)):=by
   unfold Hid;simp only [expD,if_pos hc]
  obtain ⟨neg,HNEG⟩:∃ b,Hid ((signS l).1=b):=⟨_,rfl⟩
  obtain ⟨r,HR⟩:∃ b,Hid ((signS l).2=b):=⟨_,rfl⟩
  obtain ⟨ds,HDS⟩:∃ b,Hid ((spanD r).1=b):=⟨_,rfl⟩
  obtain ⟨rest,HREST⟩:∃ b,Hid ((spanD r).2=b):=⟨_,rfl⟩
  have hdl:ds.length+rest.length=r.length:=by rw [← HDS.out,← HREST.out];exact spanD_len r
  have hrl:r.length≤l.length:=by rw [← HR.out];exact signS_len l
  have hds:digs ds:=by rw [← HDS.out];exact spanD_digs r
  have HDG:=Lib.hid hds
  clear hds
  rw [HX.out,HNEG.out,HR.out,HDS.out,HREST.out]
  clear HX
  obtain ⟨V,HV,hV2⟩:∃ V:Nat,Hid (capF ds 0=V)∧V≤401:=⟨_,rfl,capF_le ds 0 (by decide)⟩
  rw [HV.out]
  have hsplit:(((c.toNat:Int) != 101)=false)∨(((c.toNat:Int) != 101)=true∧((c.toNat:Int) != 69)=false):=by
   by_cases h:c.toNat=101
   ·exact .inl (by simp [h])
   ·refine .inr ⟨?_,?_⟩
    ·rw [bne_iff_ne];omega
    ·rw [show c.toNat=69 from by omega];rfl
  clear hc
  rcases hsplit with n1 | ⟨n1,n2⟩
  all_goals
   go_enter Tryz.func90,Tryz.ntmps90
   go_wp2_with fail
   refine (cutSign_any t l _ HT.out (by omega)).mono ?_;rintro e w1 ⟨t1,rfl,HT1,hw1⟩
   rw [HNEG.out]
   rw [HR.out] at HT1
   go_wp2_with fail
   refine (cutDigits_any t1 r _ HT1.out (by omega)).mono ?_;rintro e w2 ⟨t2,t3,rfl,HT2,HT3,hw2⟩
   rw [HDS.out] at HT2
   rw [HREST.out] at HT3
   have hb:=nx hw1 hw2
   go_wp2_with fail
   refine (capped_any t2 ds _ HT2.out HDG.out (by omega)).mono ?_;rintro e w3 ⟨rfl,hw3⟩
   have hb:=nx hb hw3
   rw [HV.out]
   have d1:=HT2.out.toL
   have d2:=HT3.out.toL
   cases neg <;> cases ds <;> cases rest
   all_goals
    go_wp2_with fail
    go_ret2
    exact ⟨rfl,⟨hb.os,hb.tape,hb.output,hb.size,hb.block⟩⟩
 by_cases hc:c.toNat=101∨c.toNat=69
 ·exact gen hc
 ·have HX:Hid (expD (c :: l)=(0,false)):=by unfold Hid;simp only [expD,if_neg hc]
  have n1:((c.toNat:Int) != 101)=true:=by rw [bne_iff_ne];omega
  have n2:((c.toNat:Int) != 69)=true:=by rw [bne_iff_ne];omega
  clear gen hc
  rw [HX.out]
  go_enter Tryz.func90,Tryz.ntmps90
  go_wp2_with fail
  go_ret2
  exact ⟨rfl,Below.refl _ _⟩
end Go.Proofs.YteclejplbphkpaaGreat
namespace Go.Proofs.YteclejplbphkpaaGreat
open Go.RowKit
theorem valS_snoc (l:List UInt8) (c:UInt8):valS (l++[c])=10 * valS l+digV c:=by
 unfold valS;rw [List.foldl_append];rfl
theorem digV_lt (c:UInt8) (h:isDig c=true):digV c<10:=by
 have:=(isDig_iff c).1 h
 unfold digV;omega
theorem valS_take (l:List UInt8) (n:Nat) (h:n<l.length):valS (l.take (n+1))=10 * valS (l.take n)+digV l[n]:=by
 rw [List.take_append_getElem h |>.symm,valS_snoc]
theorem valS_lt (l:List UInt8) (h:digs l):∀ n,n≤l.length→valS (l.take n)<10 ^ n:=by
 intro n
 induction n with
 | zero=>intro _;simp [valS]
 | succ n ih =>
  intro hn
  rw [valS_take l n hn,Nat.pow_succ]
  have h1:=ih (by omega)
  have h2:=digV_lt l[n] (h _ (List.getElem_mem hn))
  omega
end Go.Proofs.YteclejplbphkpaaGreat
namespace Go.Proofs.YteclejplbphkpaaGreat
open Go.RowKit
set_option maxRecDepth 100000 in
set_option maxHeartbeats 1600000 in
theorem natural_any (s:ByteArray) (l:List UInt8) (w:World) (hl:Tx s l) (hd:digs l) (hs:(l.length:Int)≤1000) :
  Calls Tryz.prog 78 #[.string s] w fun e w'=>∃ v',e = .returned v'∧IsNum w' v' (valS l)∧Nx w w':=by
 have HL:=Lib.hid hl
 have HD:=Lib.hid hd
 have hz:(s.size:Int)≤1000:=by rw [hl.size];exact hs
 clear hl hd
 go_enter Tryz.func78,Tryz.ntmps78
 go_wp2_with fail
 go_loopw [3,7] (fun a v wr=>∃ (n:Nat),v = .int .i64 n∧n≤l.length∧IsNum wr a (valS (l.take n))∧Nx w wr) (fun _ v _=>(1000 - intOf v).toNat)
 case atStart=>exact ⟨0,rfl,Nat.zero_le _,IsNum.zero _,Nx.refl _⟩
 case round =>
  obtain ⟨n,rfl,hn,hnum,hb⟩:=hrel
  obtain ⟨Av,lv,cv,rfl⟩:=hnum.sl
  obtain ⟨V,HV⟩:∃ V,Hid (valS (l.take n)=V):=⟨_,rfl⟩
  rw [HV.out] at hnum
  have hVl:V<2 ^ (4 * n):=by
   rw [← HV.out];exact Nat.lt_of_lt_of_le (valS_lt l HD.out n hn) (ten_two n)
  by_cases hlt:n<l.length
  ·obtain ⟨hp,e0⟩:=HL.out.idx n hlt
   obtain ⟨c,hc⟩:∃ c,l[n]=c:=⟨_,rfl⟩
   rw [hc] at e0
   have hcd:=(isDig_iff c).1 (HD.out c (by rw [← hc];exact List.getElem_mem hlt))
   obtain ⟨D,hD⟩:∃ D:Nat,(c.toNat:Int) - 48=(D:Int):=⟨c.toNat - 48,by omega⟩
   have h48:(48:Int)≤(c.toNat:Int):=by omega
   have h57:(c.toNat:Int)≤57:=by omega
   have hD9:D≤9:=by omega
   have wr8:IntKind.u8.wrap (D:Int)=(D:Int):=by rw [IntKind.wrap_u8];omega
   have wr64:IntKind.u64.wrap (D:Int)=(D:Int):=by rw [IntKind.wrap_u64];omega
   have HN:Hid (valS (l.take (n+1))=V * 10+D):=by
    unfold Hid;rw [valS_take l n hlt,HV.out,hc];unfold digV;omega
   clear hcd hc
   go_wp2_with fail
   refine wp_region_hyb [(0,true),(3,true),(4,true),(5,true),(6,true),(7,true),(1,false),(2,false),(8,false),(9,false),(10,true)] rfl (by kernel_rfl) ?_
   iterate 6 (refine hyb_calm rfl (fun K hK=>?_);go_simp;refine hK _ ?_;clear hK K)
   refine hyb_alone rfl (fun w1 hn1 K hK=>?_)
   go_simp
   refine (of_any 10 _ (by decide)).mono ?_;rintro e w2 ⟨v2,rfl,hv2,hw2⟩
   refine hK _ _ hw2 ?_
   clear hK K
   refine hyb_alone rfl (fun w3 hn3 K hK=>?_)
   go_simp
   have hN3:Nx wr w3:=Nx.trans (Nx.trans hn1 hw2) hn3
   refine (mul_n _ _ V 10 KB _ ((hnum.below hN3).few hVl (by omega)) ((hv2.below hn3).few (show 10<2 ^ 4 by decide) (by decide)) KB_le).mono ?_;rintro e w4 ⟨v4,rfl,hv4,hw4⟩
   refine hK _ _ hw4 ?_
   clear hK K
   refine hyb_alone rfl (fun w5 hn5 K hK=>?_)
   go_simp
   refine (of_any D _ (by omega)).mono ?_;rintro e w6 ⟨v6,rfl,hv6,hw6⟩
   refine hK _ _ hw6 ?_
   clear hK K
   refine hyb_alone rfl (fun w7 hn7 K hK=>?_)
   go_simp
   have hv4':=hv4.below (Nx.trans (Nx.trans hn5 hw6) hn7)
   refine (add_n _ _ (V * 10) D KB _ (hv4'.few (show V * 10<2 ^ (4 * n+4) by rw [Nat.pow_add];omega) (by omega)) ((hv6.below hn7).few (show D<2 ^ 4 by omega) (by decide)) KB_le).mono ?_;rintro e w8 ⟨v8,rfl,hv8,hw8⟩
   refine hK _ _ hw8 ?_
   clear hK K
   refine hyb_calm rfl (fun K hK=>?_);go_simp;refine hK _ ?_;clear hK K
   refine hyb_nil (fun w9 hn9=>?_)
   have hN9:Nx w w9:=Nx.trans (Nx.trans (Nx.trans (Nx.trans (Nx.trans (Nx.trans (Nx.trans hb hN3) hw4) hn5) hw6) hn7) hw8) hn9
   go_wp2_with fail
   go_roundw
   case rel=>exact ⟨n+1,by go_num,hlt,by rw [HN.out];exact hv8.below hn9,hN9⟩
   case measure=>simp [intOf];omega
  ·have g1:¬ n<s.size:=by rw [HL.out.size];omega
   have HE:Hid (valS l=V):=by unfold Hid;rw [← HV.out,List.take_of_length_le (by omega)]
   go_wp2_with fail
   go_ret
   exact ⟨_,rfl,by rw [HE.out];exact hnum,hb⟩
end Go.Proofs.YteclejplbphkpaaGreat
namespace Go.Proofs.YteclejplbphkpaaGreat
open Go.RowKit
theorem near_numS (n:Nat) (k:Int):near (n * 10 ^ k.toNat * 2 ^ tz) (1 * 10 ^ (-k).toNat)=numS n k:=by
 unfold numS
 split
 ·rename_i h
  rw [show (-k).toNat=0 from by omega,Nat.pow_zero,Nat.mul_one]
 ·rename_i h
  rw [show k.toNat=0 from by omega,Nat.pow_zero,Nat.mul_one,Nat.one_mul]
theorem or_zero (a:Nat) (ha:a<9223372036854775808):bits .or .u64 (a:Int) (0:Int)=(a:Int):=by
 have h1:(0:Int)=((0:Nat):Int):=rfl
 rw [h1,bits_or_u64_nat _ _ (by omega) (by omega),Nat.or_zero]
theorem or_sign (a:Nat) (ha:a<9223372036854775808):bits .or .u64 (a:Int) (9223372036854775808:Int)=((9223372036854775808+a:Nat):Int):=by
 have h1:(9223372036854775808:Int)=((9223372036854775808:Nat):Int):=rfl
 rw [h1,bits_or_u64_nat _ _ (by omega) (by omega),Nat.or_comm]
 have:=Nat.two_pow_add_eq_or_of_lt (i:=63) (b:=a) ha 1
 rw [Nat.mul_one] at this
 rw [show (9223372036854775808:Nat)=2 ^ 63 from rfl,← this]
theorem Tx.app {s t:ByteArray} {a b:List UInt8} (h:Tx s a) (g:Tx t b):Tx (s++t) (a++b):=by
 unfold Tx at *
 rw [← h,← g]
 simp
end Go.Proofs.YteclejplbphkpaaGreat
