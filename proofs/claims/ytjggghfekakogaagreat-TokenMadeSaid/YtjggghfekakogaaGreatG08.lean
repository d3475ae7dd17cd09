/- The contracts of dec: the nearest binary64 to a fraction, to an integer; the number that bits are. The contract of dec's digits as a number. The contract of dec.Parse: the document's parse. -/
import Derived.Test.YtjggghfekakogaaGreatG07
import Derived.Test.YtjggghfekakogaaGreatG01
import Derived.Test.YtjggghfekakogaaGreatG03
set_option linter.unusedVariables false
set_option linter.unusedSimpArgs false
set_option linter.unnecessarySimpa false
namespace Go.Proofs.YtjggghfekakogaaGreat
open Go.RowKit
theorem ge2_mono {x y:Nat} {p q:Int} (h:GE2 x y q) (hpq:p≤q):GE2 x y p:=by
 obtain ⟨b,a,a',h1,h2,h3⟩:∃ b a a':Nat,(a:Int) - b=p∧(a':Int) - b=q∧a≤a':=⟨p.natAbs+q.natAbs,(p+(p.natAbs+q.natAbs)).toNat,(q+(p.natAbs+q.natAbs)).toNat,by omega,by omega,by omega⟩
 rw [ge2_iff x y p a b h1]
 rw [ge2_iff x y q a' b h2] at h
 exact Nat.le_trans (Nat.mul_le_mul_left _ (Nat.pow_le_pow_right (by decide) h3)) h
theorem lev_ge2 (x y:Nat) (L P:Int) (E:Nat) (hy:0<y) (h1:GE2 x y L) (h2:¬ GE2 x y (L+1)) (hP:P=max (L - 52) (-1074)) (hE:(E:Int)=P+1074):lev (x * 2 ^ tz) y=E:=by
 have ht:=tz_eq
 refine lev_is _ _ _ hy ?_ ?_
 ·rw [← Nat.not_le,← ge2_iff x y (P+53) (E+53) tz (by omega)]
  exact fun h=>h2 (ge2_mono h (by omega))
 ·rcases Nat.eq_zero_or_pos E with h | h
  ·exact .inl h
  ·right
   rw [← ge2_iff x y L (E+52) tz (by omega)]
   exact h1
theorem near_level (x y:Nat) (P:Int) (E:Nat) (hE:(E:Int)=P+1074) (h:lev (x * 2 ^ tz) y=E):near (x * 2 ^ tz) y=E * 4503599627370496+rnd (x * 2 ^ (-P).toNat) (y * 2 ^ P.toNat):=by
 obtain ⟨c,h1,h2,h3⟩:=at_level x y P E (by rw [tz_eq];omega)
 rw [show (max (-P) 0).toNat=(-P).toNat from by omega] at h2
 rw [show (max P 0).toNat=P.toNat from by omega] at h3
 have h4:rnd (x * 2 ^ tz) (y * 2 ^ E)=rnd (x * 2 ^ (-P).toNat) (y * 2 ^ P.toNat):=by rw [h3,h2];exact rnd_mul _ _ _ h1
 unfold near
 rw [h,h4]
set_option maxRecDepth 100000 in
set_option maxHeartbeats 1600000 in
theorem nearest_any (r:Value) (x y j:Nat) (w:World) (h:Ra w r x y j) (hj:j≤2200) (hy0:y≠0) :
  Calls Tryz.prog 100 #[r] w fun e w'=>e = .returned (.int .u64 (near (x * 2 ^ tz) y:Nat))∧Nx w w':=by
 have HX:=Lib.hid h
 obtain ⟨v,u,rfl,hv,hu,hx,hy⟩:=h
 obtain ⟨Av,lv,cv,rfl⟩:=hv.sl
 obtain ⟨Au,lu,cu,rfl⟩:=hu.sl
 obtain ⟨bx,HBX⟩:∃ b,Hid (blen x=b):=⟨_,rfl⟩
 have hN:Nx w (w.alloc (Obj.cells #[.slice Av lv cv,.slice Au lu cu] 140)):=nx0 _ _
 obtain ⟨g,hg⟩:∃ g,w.heap.size=g:=⟨_,rfl⟩
 have hB1:Blk (w.alloc (Obj.cells #[.slice Av lv cv,.slice Au lu cu] 140)) g g #[.slice Av lv cv,.slice Au lu cu] 140:=by rw [← hg];exact Blk.new w _ _
 by_cases hx0:x=0
 ·have hb0:bx=0:=by rw [← HBX.out,hx0];rfl
  subst hb0
  have hz:near (x * 2 ^ tz) y=0:=by rw [hx0,Nat.zero_mul];exact near_zero y (Nat.pos_of_ne_zero hy0)
  rw [hz]
  clear hz
  go_enter Tryz.func100,Tryz.ntmps100
  go_wp2_with fail
  refine (bits_n _ x KB _ ((hv.below hN).few hx (by omega)) KB_le).mono ?_;rintro e w' ⟨rfl,rfl⟩
  rw [HBX.out]
  go_wp2_with fail
  go_ret
  exact ⟨rfl,hN⟩
 ·have hb0:((bx:Int) == 0)=false:=by
   rw [beq_eq_false_iff_ne]
   have:=(blen_pos x hx0).1
   rw [HBX.out] at this
   omega
  go_enter Tryz.func100,Tryz.ntmps100
  go_wp2_with fail
  refine (bits_n _ x KB _ ((hv.below hN).few hx (by omega)) KB_le).mono ?_;rintro e w' ⟨rfl,rfl⟩
  rw [HBX.out]
  go_wp2_with fail
  refine (log2_any _ x y j _ (HX.out.below hN) (by omega) hx0 hy0).mono ?_;rintro e w1 ⟨L,rfl,HL,hL1,hL2,hw1⟩
  have hN1:=Nx.trans hN hw1
  have hB2:=hB1.below hw1
  have c0:w1.cell? ⟨g,0,none⟩=some (.slice Av lv cv):=hB2.cell 0
  have c1:w1.cell? ⟨g,1,none⟩=some (.slice Au lu cu):=hB2.cell 1
  have key:∀ (P:Int) (E:Nat),P=max (L - 52) (-1074)→(E:Int)=P+1074→∃ R:Nat,Hid (rnd (x * 2 ^ (-P).toNat) (y * 2 ^ (- -P).toNat)=R)∧Hid (near (x * 2 ^ tz) y=E * 4503599627370496+R)∧(R:Int)≤9007199254740992∧Hid (y * 2 ^ (- -P).toNat≠0):=by
   intro P E hP hE
   have hlev:=lev_ge2 x y L P E (Nat.pos_of_ne_zero hy0) HL.out.1 HL.out.2 hP hE
   have hnear:=near_level x y P E hE hlev
   have hr:=(near_rnd (x * 2 ^ tz) y (Nat.pos_of_ne_zero hy0)).1
   have hr2:rnd (x * 2 ^ (-P).toNat) (y * 2 ^ P.toNat)≤9007199254740992:=by
    have h1:near (x * 2 ^ tz) y=lev (x * 2 ^ tz) y * 4503599627370496+rnd (x * 2 ^ tz) (y * 2 ^ lev (x * 2 ^ tz) y):=rfl
    rw [hlev] at h1 hr
    omega
   refine ⟨rnd (x * 2 ^ (-P).toNat) (y * 2 ^ P.toNat),by rw [Int.neg_neg];rfl,hnear,by omega,?_⟩
   have:=Nat.mul_pos (Nat.pos_of_ne_zero hy0) (Nat.pow_pos (n:=(- -P).toNat) (show 0<2 by decide))
   exact Nat.pos_iff_ne_zero.1 this
  by_cases hc : -1074≤L - 52
  ·obtain ⟨P,rfl⟩:∃ P,L=P+52:=⟨L - 52,by omega⟩
   have hP1 : -1074≤P:=by omega
   have hP2:P≤2200:=by omega
   obtain ⟨E,hE⟩:∃ E:Nat,(E:Int)=P+1074:=⟨(P+1074).toNat,by omega⟩
   obtain ⟨R,HR,HNEAR,hr3,HY2⟩:=key P E (by omega) hE
   have HE:=Lib.hid hE
   have hmx1:max P (-1074)=P:=by omega
   have hmx2:max (P+52 - 52) (-1074)=P:=by omega
   clear hE key hc
   go_wp2_with fail
   refine (timesTwo_any _ x y j (-P) _ (HX.out.below hN1) (by omega) (by omega) (by omega)).mono ?_;rintro e w2 ⟨r2,rfl,hR2,hw2⟩
   obtain ⟨v2,u2,rfl,hv2,hu2,hx2,hy2⟩:=hR2
   have HR2:=Lib.hid (show Ra w2 (.agg #[v2,u2]) _ _ _ from ⟨v2,u2,rfl,hv2,hu2,hx2,hy2⟩)
   clear hv2 hu2 hx2 hy2
   go_wp2_with fail
   refine (rounded_any _ _ _ _ _ HR2.out (by omega) HY2.out (by rw [HR.out];omega)).mono ?_;rintro e w3 ⟨rfl,hw3⟩
   rw [HR.out]
   go_wp2_with fail
   go_ret
   refine ⟨?_,Nx.trans (Nx.trans hN1 hw2) hw3⟩
   rw [HNEAR.out,show ((E * 4503599627370496+R:Nat):Int)=(P+1074) * 4503599627370496+(R:Int) from by have:=HE.out;omega]
   rfl
  ·obtain ⟨R,HR,HNEAR,hr3,HY2⟩:=key (-1074) 0 (by omega) rfl
   have hc1:L - 52 < -1074:=by omega
   have hmx1:max (L - 52) (-1074) = -1074:=by omega
   clear key
   go_wp2_with fail
   refine (timesTwo_any _ x y j 1074 _ (HX.out.below hN1) (by omega) (by omega) (by omega)).mono ?_;rintro e w2 ⟨r2,rfl,hR2,hw2⟩
   obtain ⟨v2,u2,rfl,hv2,hu2,hx2,hy2⟩:=hR2
   have HR2:=Lib.hid (show Ra w2 (.agg #[v2,u2]) _ _ _ from ⟨v2,u2,rfl,hv2,hu2,hx2,hy2⟩)
   clear hv2 hu2 hx2 hy2
   go_wp2_with fail
   have e1:(- -1074:Int)=1074:=rfl
   refine (rounded_any _ _ _ _ _ HR2.out (by omega) HY2.out (by have:=HR.out;rw [e1] at this;rw [this];omega)).mono ?_;rintro e w3 ⟨rfl,hw3⟩
   have hR:=HR.out
   rw [e1] at hR
   rw [hR]
   go_wp2_with fail
   go_ret
   refine ⟨?_,Nx.trans (Nx.trans hN1 hw2) hw3⟩
   rw [HNEAR.out,Nat.zero_mul,Nat.zero_add]
   rfl
end Go.Proofs.YtjggghfekakogaaGreat
namespace Go.Proofs.YtjggghfekakogaaGreat
open Go.RowKit
theorem valS_snoc (l:List UInt8) (c:UInt8):valS (l++[c])=10 * valS l+digV c:=by
 unfold valS;rw [List.foldl_append];rfl
theorem digV_lt (c:UInt8) (h:isDig c=true):digV c<10:=by
 have:=(isDig_iff c).1 h
 unfold digV;omega
theorem valS_take (l:List UInt8) (n:Nat) (h:n<l.length):valS (l.take (n+1))=10 * valS (l.take n)+digV l[n]:=by
 rw [List.take_append_getElem h |>.symm,valS_snoc]
theorem valS_lt (l:List UInt8) (h:digs l):∀ n,n≤l.length→valS (l.take n)<10 ^ n:=by
 intro n
 induction n with
 | zero=>intro _;simp [valS]
 | succ n ih =>
  intro hn
  rw [valS_take l n hn,Nat.pow_succ]
  have h1:=ih (by omega)
  have h2:=digV_lt l[n] (h _ (List.getElem_mem hn))
  omega
set_option maxRecDepth 100000 in
set_option maxHeartbeats 1600000 in
theorem natural_any (s:ByteArray) (l:List UInt8) (w:World) (hl:Tx s l) (hd:digs l) (hs:(l.length:Int)≤1000) :
  Calls Tryz.prog 98 #[.string s] w fun e w'=>∃ v',e = .returned v'∧IsNum w' v' (valS l)∧Nx w w':=by
 have HL:=Lib.hid hl
 have HD:=Lib.hid hd
 have hz:(s.size:Int)≤1000:=by rw [hl.size];exact hs
 clear hl hd
 go_enter Tryz.func98,Tryz.ntmps98
 go_wp2_with fail
 go_loopw [3,7] (fun a v wr=>∃ (n:Nat),v = .int .i64 n∧n≤l.length∧IsNum wr a (valS (l.take n))∧Nx w wr) (fun _ v _=>(1000 - intOf v).toNat)
 case atStart=>exact ⟨0,rfl,Nat.zero_le _,IsNum.zero _,Nx.refl _⟩
 case round =>
  obtain ⟨n,rfl,hn,hnum,hb⟩:=hrel
  obtain ⟨Av,lv,cv,rfl⟩:=hnum.sl
  obtain ⟨V,HV⟩:∃ V,Hid (valS (l.take n)=V):=⟨_,rfl⟩
  rw [HV.out] at hnum
  have hVl:V<2 ^ (4 * n):=by
   rw [← HV.out];exact Nat.lt_of_lt_of_le (valS_lt l HD.out n hn) (ten_two n)
  by_cases hlt:n<l.length
  ·obtain ⟨hp,e0⟩:=HL.out.idx n hlt
   obtain ⟨c,hc⟩:∃ c,l[n]=c:=⟨_,rfl⟩
   rw [hc] at e0
   have hcd:=(isDig_iff c).1 (HD.out c (by rw [← hc];exact List.getElem_mem hlt))
   obtain ⟨D,hD⟩:∃ D:Nat,(c.toNat:Int) - 48=(D:Int):=⟨c.toNat - 48,by omega⟩
   have h48:(48:Int)≤(c.toNat:Int):=by omega
   have h57:(c.toNat:Int)≤57:=by omega
   have hD9:D≤9:=by omega
   have wr8:IntKind.u8.wrap (D:Int)=(D:Int):=by rw [IntKind.wrap_u8];omega
   have wr64:IntKind.u64.wrap (D:Int)=(D:Int):=by rw [IntKind.wrap_u64];omega
   have HN:Hid (valS (l.take (n+1))=V * 10+D):=by
    unfold Hid;rw [valS_take l n hlt,HV.out,hc];unfold digV;omega
   clear hcd hc
   go_wp2_with fail
   refine wp_region_hyb [(0,true),(3,true),(4,true),(5,true),(6,true),(7,true),(1,false),(2,false),(8,false),(9,false),(10,true)] rfl (by kernel_rfl) ?_
   iterate 6 (refine hyb_calm rfl (fun K hK=>?_);go_simp;refine hK _ ?_;clear hK K)
   refine hyb_alone rfl (fun w1 hn1 K hK=>?_)
   go_simp
   refine (of_any 10 _ (by decide)).mono ?_;rintro e w2 ⟨v2,rfl,hv2,hw2⟩
   refine hK _ _ hw2 ?_
   clear hK K
   refine hyb_alone rfl (fun w3 hn3 K hK=>?_)
   go_simp
   have hN3:Nx wr w3:=Nx.trans (Nx.trans hn1 hw2) hn3
   refine (mul_n _ _ V 10 KB _ ((hnum.below hN3).few hVl (by omega)) ((hv2.below hn3).few (show 10<2 ^ 4 by decide) (by decide)) KB_le).mono ?_;rintro e w4 ⟨v4,rfl,hv4,hw4⟩
   refine hK _ _ hw4 ?_
   clear hK K
   refine hyb_alone rfl (fun w5 hn5 K hK=>?_)
   go_simp
   refine (of_any D _ (by omega)).mono ?_;rintro e w6 ⟨v6,rfl,hv6,hw6⟩
   refine hK _ _ hw6 ?_
   clear hK K
   refine hyb_alone rfl (fun w7 hn7 K hK=>?_)
   go_simp
   have hv4':=hv4.below (Nx.trans (Nx.trans hn5 hw6) hn7)
   refine (add_n _ _ (V * 10) D KB _ (hv4'.few (show V * 10<2 ^ (4 * n+4) by rw [Nat.pow_add];omega) (by omega)) ((hv6.below hn7).few (show D<2 ^ 4 by omega) (by decide)) KB_le).mono ?_;rintro e w8 ⟨v8,rfl,hv8,hw8⟩
   refine hK _ _ hw8 ?_
   clear hK K
   refine hyb_calm rfl (fun K hK=>?_);go_simp;refine hK _ ?_;clear hK K
   refine hyb_nil (fun w9 hn9=>?_)
   have hN9:Nx w w9:=Nx.trans (Nx.trans (Nx.trans (Nx.trans (Nx.trans (Nx.trans (Nx.trans hb hN3) hw4) hn5) hw6) hn7) hw8) hn9
   go_wp2_with fail
   go_roundw
   case rel=>exact ⟨n+1,by go_num,hlt,by rw [HN.out];exact hv8.below hn9,hN9⟩
   case measure=>simp [intOf];omega
  ·have g1:¬ n<s.size:=by rw [HL.out.size];omega
   have HE:Hid (valS l=V):=by unfold Hid;rw [← HV.out,List.take_of_length_le (by omega)]
   go_wp2_with fail
   go_ret
   exact ⟨_,rfl,by rw [HE.out];exact hnum,hb⟩
end Go.Proofs.YtjggghfekakogaaGreat
namespace Go.Proofs.YtjggghfekakogaaGreat
open Go.RowKit
theorem near_numS (n:Nat) (k:Int):near (n * 10 ^ k.toNat * 2 ^ tz) (1 * 10 ^ (-k).toNat)=numS n k:=by
 unfold numS
 split
 ·rename_i h
  rw [show (-k).toNat=0 from by omega,Nat.pow_zero,Nat.mul_one]
 ·rename_i h
  rw [show k.toNat=0 from by omega,Nat.pow_zero,Nat.mul_one,Nat.one_mul]
theorem or_zero (a:Nat) (ha:a<9223372036854775808):bits .or .u64 (a:Int) (0:Int)=(a:Int):=by
 have h1:(0:Int)=((0:Nat):Int):=rfl
 rw [h1,bits_or_u64_nat _ _ (by omega) (by omega),Nat.or_zero]
theorem or_sign (a:Nat) (ha:a<9223372036854775808):bits .or .u64 (a:Int) (9223372036854775808:Int)=((9223372036854775808+a:Nat):Int):=by
 have h1:(9223372036854775808:Int)=((9223372036854775808:Nat):Int):=rfl
 rw [h1,bits_or_u64_nat _ _ (by omega) (by omega),Nat.or_comm]
 have:=Nat.two_pow_add_eq_or_of_lt (i:=63) (b:=a) ha 1
 rw [Nat.mul_one] at this
 rw [show (9223372036854775808:Nat)=2 ^ 63 from rfl,← this]
theorem Tx.app {s t:ByteArray} {a b:List UInt8} (h:Tx s a) (g:Tx t b):Tx (s++t) (a++b):=by
 unfold Tx at *
 rw [← h,← g]
 simp
set_option maxRecDepth 100000 in
set_option maxHeartbeats 3200000 in
theorem parse_any (s:ByteArray) (l:List UInt8) (w:World) (hl:Tx s l) (hs:(l.length:Int)≤8000) :
  Calls Tryz.prog 84 #[.string s] w fun e w'=>e = .returned (.tuple #[.int .u64 ((parseS l).1:Nat),.int .i64 ((parseS l).2:Nat)])∧Nx w w':=by
 obtain ⟨R1,HR1⟩:∃ R,Hid ((parseS l)=R):=⟨_,rfl⟩
 rw [HR1.out]
 obtain ⟨b,e⟩:=R1
 go_enter Tryz.func84,Tryz.ntmps84
 go_wp2_with fail
 refine (takeApart_any s l _ hl hs).mono ?_;rintro e w1 ⟨sg,wv,fv,ev,ok,rfl,HT,hw1⟩
 have hp:=parse_take l sg wv fv ev ok HT.out
 cases ok
 ·have h1:=hp.1 rfl
  rw [HR1.out] at h1
  obtain ⟨rfl,rfl⟩:=Prod.mk.inj h1
  clear hp
  go_wp2_with fail
  go_ret2
  exact ⟨rfl,Nx.trans hw1 (nx0 _ _)⟩
 ·obtain ⟨W,F,hW,hF,hdW,hdF,hWF,S,rfl,hS,hpar⟩:=hp.2 rfl
  rw [HR1.out] at hpar
  clear hp
  obtain ⟨g,hg⟩:∃ g,w1.heap.size=g:=⟨_,rfl⟩
  have hN0:Nx w (w1.alloc (Obj.cells #[.int .u64 (S:Int),.string wv,.string fv,.int .i64 ev] 135)):=Nx.trans hw1 (nx0 _ _)
  have hB0:Blk (w1.alloc (Obj.cells #[.int .u64 (S:Int),.string wv,.string fv,.int .i64 ev] 135)) g g #[.int .u64 (S:Int),.string wv,.string fv,.int .i64 ev] 135:=by rw [← hg];exact Blk.new _ _ _
  have hsz1:=hW.size
  have hsz2:=hF.size
  have hWl:(W.length:Int)≤8000:=by omega
  have hFl:(F.length:Int)≤8000:=by omega
  by_cases h60:60<W.length+F.length
  ·rw [if_pos h60] at hpar
   obtain ⟨rfl,rfl⟩:=Prod.mk.inj hpar
   have b1:decide ((60:Int)<(W.length:Int)+(F.length:Int))=true:=decide_eq_true (by omega)
   clear hpar h60
   go_wp2_with fail
   go_ret2
   exact ⟨rfl,hN0⟩
  ·rw [if_neg h60] at hpar
   have b1:decide ((60:Int)<(W.length:Int)+(F.length:Int))=false:=decide_eq_false (by omega)
   by_cases h400:400<ev
   ·rw [if_pos (.inl h400)] at hpar
    obtain ⟨rfl,rfl⟩:=Prod.mk.inj hpar
    have b2:decide (400<ev)=true:=decide_eq_true h400
    clear hpar h60 h400
    go_wp2_with fail
    go_ret2
    exact ⟨rfl,hN0⟩
   ·have b2:decide (400<ev)=false:=decide_eq_false h400
    by_cases hm400:ev < -400
    ·rw [if_pos (.inr hm400)] at hpar
     obtain ⟨rfl,rfl⟩:=Prod.mk.inj hpar
     have b3:decide (ev < -400)=true:=decide_eq_true hm400
     clear hpar h60 h400 hm400
     go_wp2_with fail
     go_ret2
     exact ⟨rfl,hN0⟩
    ·rw [if_neg (by omega)] at hpar
     have b3:decide (ev < -400)=false:=decide_eq_false hm400
     obtain ⟨N,HN⟩:∃ N,Hid (numS (valS (W++F)) (ev - F.length)=N):=⟨_,rfl⟩
     rw [HN.out] at hpar
     obtain ⟨k,hk⟩:∃ k:Int,ev - (F.length:Int)=k:=⟨_,rfl⟩
     have HK:=Lib.hid hk
     have hk1 : -460≤k:=by omega
     have hk2:k≤400:=by omega
     have hNK:=near_numS (valS (W++F)) k
     rw [← hk,HN.out,hk] at hNK
     have HNK:=Lib.hid hNK
     have hdd:digs (W++F):=fun c hc=>(List.mem_append.1 hc).elim (hdW c) (hdF c)
     have hVl:valS (W++F)<2 ^ 240:=by
      have h1:=valS_lt (W++F) hdd (W++F).length (Nat.le_refl _)
      rw [List.take_length] at h1
      refine Nat.lt_of_lt_of_le h1 (Nat.le_trans (ten_two _) (Nat.pow_le_pow_right (by decide) ?_))
      rw [List.length_append];omega
     have hx:Hid (Tx (wv++fv) (W++F)):=hW.app hF
     have hwl:((W++F).length:Int)≤1000:=by rw [List.length_append];omega
     have hsum:wv.size+fv.size≤9223372036854775807:=by omega
     obtain ⟨V,HV⟩:∃ V,Hid (valS (W++F)=V):=⟨_,rfl⟩
     rw [HV.out] at hVl HNK
     have HX:=Lib.hid hdd
     have HPAR:=Lib.hid hpar
     clear h60 h400 hm400 hNK hdd hdW hdF hpar
     go_wp2_with fail
     refine (natural_any _ (W++F) _ hx.out HX.out hwl).mono ?_;rintro e w2 ⟨v2,rfl,hv2,hw2⟩
     rw [HV.out] at hv2
     obtain ⟨A2,l2,c2,rfl⟩:=hv2.sl
     go_wp2_with fail
     refine (of_any 1 _ (by decide)).mono ?_;rintro e w3 ⟨v3,rfl,hv3,hw3⟩
     obtain ⟨A3,l3,c3,rfl⟩:=hv3.sl
     have hv23:=(hv2.below hw3).below (nx0 w3 (Obj.cells #[.slice A2 l2 c2,.slice A3 l3 c3] 140))
     have hv33:=hv3.below (nx0 w3 (Obj.cells #[.slice A2 l2 c2,.slice A3 l3 c3] 140))
     have hN3:=Nx.al (Nx.trans (Nx.trans hN0 hw2) hw3) (Obj.cells #[.slice A2 l2 c2,.slice A3 l3 c3] 140)
     have hB3:=(hB0.below (Nx.trans hw2 hw3)).alloc (Obj.cells #[.slice A2 l2 c2,.slice A3 l3 c3] 140)
     have q0:(w3.alloc (Obj.cells #[.slice A2 l2 c2,.slice A3 l3 c3] 140)).cell? ⟨g,0,none⟩=some (.int .u64 (S:Int)):=hB3.cell 0
     have q2:(w3.alloc (Obj.cells #[.slice A2 l2 c2,.slice A3 l3 c3] 140)).cell? ⟨g,2,none⟩=some (.string fv):=hB3.cell 2
     have q3:(w3.alloc (Obj.cells #[.slice A2 l2 c2,.slice A3 l3 c3] 140)).cell? ⟨g,3,none⟩=some (.int .i64 ev):=hB3.cell 3
     go_wp2_with fail
     refine (timesTen_any _ V 1 240 k _ ⟨_,_,rfl,hv23,hv33,hVl,Nat.one_lt_two_pow (by decide)⟩ (by decide) (by omega) (by omega)).mono ?_;rintro e w4 ⟨r4,rfl,hr4,hw4⟩
     obtain ⟨v4,u4,rfl,hv4,hu4,hx4,hy4⟩:=hr4
     have HR4:=Lib.hid (show Ra w4 (.agg #[v4,u4]) _ _ _ from ⟨v4,u4,rfl,hv4,hu4,hx4,hy4⟩)
     clear hv4 hu4 hx4 hy4
     go_wp2_with fail
     refine (nearest_any _ _ _ _ _ HR4.out (by omega) (by rw [Nat.one_mul];exact Nat.pos_iff_ne_zero.1 (Nat.pow_pos (by decide)))).mono ?_;rintro e w5 ⟨rfl,hw5⟩
     rw [HNK.out]
     have hN5:=Nx.trans (Nx.trans hN3 hw4) hw5
     have hB5:=hB3.below (Nx.trans hw4 hw5)
     have q0':w5.cell? ⟨g,0,none⟩=some (.int .u64 (S:Int)):=hB5.cell 0
     clear q0 q2 q3
     have hpar:=HPAR.out
     by_cases hlim:N<LIM
     ·rw [if_pos hlim] at hpar
      obtain ⟨rfl,rfl⟩:=Prod.mk.inj hpar
      unfold LIM at hlim
      have b4:decide ((9218868437227405312:Int)≤(N:Int))=false:=decide_eq_false (by omega)
      have hN63:N<9223372036854775808:=by omega
      clear hpar hlim
      rcases hS with rfl | rfl
      ·have HO:=Lib.hid (or_zero N hN63)
       clear hN63
       go_wp2_with fail
       go_ret2
       refine ⟨?_,hN5⟩
       rw [Nat.zero_add]
       exact congrArg (fun z=>Ending.returned (Value.tuple #[Value.int .u64 z,Value.int .i64 0])) HO.out
      ·have HO:=Lib.hid (or_sign N hN63)
       clear hN63
       go_wp2_with fail
       go_ret2
       refine ⟨?_,hN5⟩
       exact congrArg (fun z=>Ending.returned (Value.tuple #[Value.int .u64 z,Value.int .i64 0])) HO.out
     ·rw [if_neg hlim] at hpar
      obtain ⟨rfl,rfl⟩:=Prod.mk.inj hpar
      unfold LIM at hlim
      have b4:decide ((9218868437227405312:Int)≤(N:Int))=true:=decide_eq_true (by omega)
      clear hpar hlim
      go_wp2_with fail
      go_ret2
      exact ⟨rfl,hN5⟩
end Go.Proofs.YtjggghfekakogaaGreat
