/- The contracts of dec: the nearest binary64 to a fraction, to an integer; the number that bits are. The contract of dec's digits as a number. The contract of dec.Parse: the document's parse. The contracts of token's numbers and first words. The contract of token's first word. -/
import Derived.Test.YtpbjkgpdkopgmaaGreatDoorG09
import Derived.Test.YtpbjkgpdkopgmaaGreatDoorG03
import Derived.Test.YtpbjkgpdkopgmaaGreatDoorG05
set_option linter.unusedVariables false
set_option linter.unusedSimpArgs false
set_option linter.unnecessarySimpa false
namespace Go.Proofs.YtpbjkgpdkopgmaaGreatDoor
open Go.RowKit
theorem ge2_mono {x y:Nat} {p q:Int} (h:GE2 x y q) (hpq:p≤q):GE2 x y p:=by
 obtain ⟨b,a,a',h1,h2,h3⟩:∃ b a a':Nat,(a:Int) - b=p∧(a':Int) - b=q∧a≤a':=⟨p.natAbs+q.natAbs,(p+(p.natAbs+q.natAbs)).toNat,(q+(p.natAbs+q.natAbs)).toNat,by omega,by omega,by omega⟩
 rw [ge2_iff x y p a b h1]
 rw [ge2_iff x y q a' b h2] at h
 exact Nat.le_trans (Nat.mul_le_mul_left _ (Nat.pow_le_pow_right (by decide) h3)) h
theorem lev_ge2 (x y:Nat) (L P:Int) (E:Nat) (hy:0<y) (h1:GE2 x y L) (h2:¬ GE2 x y (L+1)) (hP:P=max (L - 52) (-1074)) (hE:(E:Int)=P+1074):lev (x * 2 ^ tz) y=E:=by
 have ht:=tz_eq
 refine lev_is _ _ _ hy ?_ ?_
 ·rw [← Nat.not_le,← ge2_iff x y (P+53) (E+53) tz (by omega)]
  exact fun h=>h2 (ge2_mono h (by omega))
 ·rcases Nat.eq_zero_or_pos E with h | h
  ·exact .inl h
  ·right
   rw [← ge2_iff x y L (E+52) tz (by omega)]
   exact h1
theorem near_level (x y:Nat) (P:Int) (E:Nat) (hE:(E:Int)=P+1074) (h:lev (x * 2 ^ tz) y=E):near (x * 2 ^ tz) y=E * 4503599627370496+rnd (x * 2 ^ (-P).toNat) (y * 2 ^ P.toNat):=by
 obtain ⟨c,h1,h2,h3⟩:=at_level x y P E (by rw [tz_eq];omega)
 rw [show (max (-P) 0).toNat=(-P).toNat from by omega] at h2
 rw [show (max P 0).toNat=P.toNat from by omega] at h3
 have h4:rnd (x * 2 ^ tz) (y * 2 ^ E)=rnd (x * 2 ^ (-P).toNat) (y * 2 ^ P.toNat):=by rw [h3,h2];exact rnd_mul _ _ _ h1
 unfold near
 rw [h,h4]
set_option maxRecDepth 100000 in
set_option maxHeartbeats 1600000 in
theorem nearest_any (r:Value) (x y j:Nat) (w:World) (h:Ra w r x y j) (hj:j≤2200) (hy0:y≠0) :
  Calls Tryz.prog 226 #[r] w fun e w'=>e = .returned (.int .u64 (near (x * 2 ^ tz) y:Nat))∧Nx w w':=by
 have HX:=Lib.hid h
 obtain ⟨v,u,rfl,hv,hu,hx,hy⟩:=h
 obtain ⟨Av,lv,cv,rfl⟩:=hv.sl
 obtain ⟨Au,lu,cu,rfl⟩:=hu.sl
 obtain ⟨bx,HBX⟩:∃ b,Hid (blen x=b):=⟨_,rfl⟩
 have hN:Nx w (w.alloc (Obj.cells #[.slice Av lv cv,.slice Au lu cu] 265)):=nx0 _ _
 obtain ⟨g,hg⟩:∃ g,w.heap.size=g:=⟨_,rfl⟩
 have hB1:Blk (w.alloc (Obj.cells #[.slice Av lv cv,.slice Au lu cu] 265)) g g #[.slice Av lv cv,.slice Au lu cu] 265:=by rw [← hg];exact Blk.new w _ _
 by_cases hx0:x=0
 ·have hb0:bx=0:=by rw [← HBX.out,hx0];rfl
  subst hb0
  have hz:near (x * 2 ^ tz) y=0:=by rw [hx0,Nat.zero_mul];exact near_zero y (Nat.pos_of_ne_zero hy0)
  rw [hz]
  clear hz
  go_enter Tryz.func226,Tryz.ntmps226
  go_wp2_with fail
  refine (bits_n _ x KB _ ((hv.below hN).few hx (by omega)) KB_le).mono ?_;rintro e w' ⟨rfl,rfl⟩
  rw [HBX.out]
  go_wp2_with fail
  go_ret
  exact ⟨rfl,hN⟩
 ·have hb0:((bx:Int) == 0)=false:=by
   rw [beq_eq_false_iff_ne]
   have:=(blen_pos x hx0).1
   rw [HBX.out] at this
   omega
  go_enter Tryz.func226,Tryz.ntmps226
  go_wp2_with fail
  refine (bits_n _ x KB _ ((hv.below hN).few hx (by omega)) KB_le).mono ?_;rintro e w' ⟨rfl,rfl⟩
  rw [HBX.out]
  go_wp2_with fail
  refine (log2_any _ x y j _ (HX.out.below hN) (by omega) hx0 hy0).mono ?_;rintro e w1 ⟨L,rfl,HL,hL1,hL2,hw1⟩
  have hN1:=Nx.trans hN hw1
  have hB2:=hB1.below hw1
  have c0:w1.cell? ⟨g,0,none⟩=some (.slice Av lv cv):=hB2.cell 0
  have c1:w1.cell? ⟨g,1,none⟩=some (.slice Au lu cu):=hB2.cell 1
  have key:∀ (P:Int) (E:Nat),P=max (L - 52) (-1074)→(E:Int)=P+1074→∃ R:Nat,Hid (rnd (x * 2 ^ (-P).toNat) (y * 2 ^ (- -P).toNat)=R)∧Hid (near (x * 2 ^ tz) y=E * 4503599627370496+R)∧(R:Int)≤9007199254740992∧Hid (y * 2 ^ (- -P).toNat≠0):=by
   intro P E hP hE
   have hlev:=lev_ge2 x y L P E (Nat.pos_of_ne_zero hy0) HL.out.1 HL.out.2 hP hE
   have hnear:=near_level x y P E hE hlev
   have hr:=(near_rnd (x * 2 ^ tz) y (Nat.pos_of_ne_zero hy0)).1
   have hr2:rnd (x * 2 ^ (-P).toNat) (y * 2 ^ P.toNat)≤9007199254740992:=by
    have h1:near (x * 2 ^ tz) y=lev (x * 2 ^ tz) y * 4503599627370496+rnd (x * 2 ^ tz) (y * 2 ^ lev (x * 2 ^ tz) y):=rfl
    rw [hlev] at h1 hr
    omega
   refine ⟨rnd (x * 2 ^ (-P).toNat) (y * 2 ^ P.toNat),by rw [Int.neg_neg];rfl,hnear,by omega,?_⟩
   have:=Nat.mul_pos (Nat.pos_of_ne_zero hy0) (Nat.pow_pos (n:=(- -P).toNat) (show 0<2 by decide))
   exact Nat.pos_iff_ne_zero.1 this
  by_cases hc : -1074≤L - 52
  ·obtain ⟨P,rfl⟩:∃ P,L=P+52:=⟨L - 52,by omega⟩
   have hP1 : -1074≤P:=by omega
   have hP2:P≤2200:=by omega
   obtain ⟨E,hE⟩:∃ E:Nat,(E:Int)=P+1074:=⟨(P+1074).toNat,by omega⟩
   obtain ⟨R,HR,HNEAR,hr3,HY2⟩:=key P E (by omega) hE
   have HE:=Lib.hid hE
   have hmx1:max P (-1074)=P:=by omega
   have hmx2:max (P+52 - 52) (-1074)=P:=by omega
   clear hE key hc
   go_wp2_with fail
   refine (timesTwo_any _ x y j (-P) _ (HX.out.below hN1) (by omega) (by omega) (by omega)).mono ?_;rintro e w2 ⟨r2,rfl,hR2,hw2⟩
   obtain ⟨v2,u2,rfl,hv2,hu2,hx2,hy2⟩:=hR2
   have HR2:=Lib.hid (show Ra w2 (.agg #[v2,u2]) _ _ _ from ⟨v2,u2,rfl,hv2,hu2,hx2,hy2⟩)
   clear hv2 hu2 hx2 hy2
   go_wp2_with fail
   refine (rounded_any _ _ _ _ _ HR2.out (by omega) HY2.out (by rw [HR.out];omega)).mono ?_;rintro e w3 ⟨rfl,hw3⟩
   rw [HR.out]
   go_wp2_with fail
   go_ret
   refine ⟨?_,Nx.trans (Nx.trans hN1 hw2) hw3⟩
   rw [HNEAR.out,show ((E * 4503599627370496+R:Nat):Int)=(P+1074) * 4503599627370496+(R:Int) from by have:=HE.out;omega]
   rfl
  ·obtain ⟨R,HR,HNEAR,hr3,HY2⟩:=key (-1074) 0 (by omega) rfl
   have hc1:L - 52 < -1074:=by omega
   have hmx1:max (L - 52) (-1074) = -1074:=by omega
   clear key
   go_wp2_with fail
   refine (timesTwo_any _ x y j 1074 _ (HX.out.below hN1) (by omega) (by omega) (by omega)).mono ?_;rintro e w2 ⟨r2,rfl,hR2,hw2⟩
   obtain ⟨v2,u2,rfl,hv2,hu2,hx2,hy2⟩:=hR2
   have HR2:=Lib.hid (show Ra w2 (.agg #[v2,u2]) _ _ _ from ⟨v2,u2,rfl,hv2,hu2,hx2,hy2⟩)
   clear hv2 hu2 hx2 hy2
   go_wp2_with fail
   have e1:(- -1074:Int)=1074:=rfl
   refine (rounded_any _ _ _ _ _ HR2.out (by omega) HY2.out (by have:=HR.out;rw [e1] at this;rw [this];omega)).mono ?_;rintro e w3 ⟨rfl,hw3⟩
   have hR:=HR.out
   rw [e1] at hR
   rw [hR]
   go_wp2_with fail
   go_ret
   refine ⟨?_,Nx.trans (Nx.trans hN1 hw2) hw3⟩
   rw [HNEAR.out,Nat.zero_mul,Nat.zero_add]
   rfl
end Go.Proofs.YtpbjkgpdkopgmaaGreatDoor
namespace Go.Proofs.YtpbjkgpdkopgmaaGreatDoor
open Go.RowKit
theorem valS_snoc (l:List UInt8) (c:UInt8):valS (l++[c])=10 * valS l+digV c:=by
 unfold valS;rw [List.foldl_append];rfl
theorem digV_lt (c:UInt8) (h:isDig c=true):digV c<10:=by
 have:=(isDig_iff c).1 h
 unfold digV;omega
theorem valS_take (l:List UInt8) (n:Nat) (h:n<l.length):valS (l.take (n+1))=10 * valS (l.take n)+digV l[n]:=by
 rw [List.take_append_getElem h |>.symm,valS_snoc]
theorem valS_lt (l:List UInt8) (h:digs l):∀ n,n≤l.length→valS (l.take n)<10 ^ n:=by
 intro n
 induction n with
 | zero=>intro _;simp [valS]
 | succ n ih =>
  intro hn
  rw [valS_take l n hn,Nat.pow_succ]
  have h1:=ih (by omega)
  have h2:=digV_lt l[n] (h _ (List.getElem_mem hn))
  omega
set_option maxRecDepth 100000 in
set_option maxHeartbeats 1600000 in
theorem natural_any (s:ByteArray) (l:List UInt8) (w:World) (hl:Tx s l) (hd:digs l) (hs:(l.length:Int)≤1000) :
  Calls Tryz.prog 224 #[.string s] w fun e w'=>∃ v',e = .returned v'∧IsNum w' v' (valS l)∧Nx w w':=by
 have HL:=Lib.hid hl
 have HD:=Lib.hid hd
 have hz:(s.size:Int)≤1000:=by rw [hl.size];exact hs
 clear hl hd
 go_enter Tryz.func224,Tryz.ntmps224
 go_wp2_with fail
 go_loopw [3,7] (fun a v wr=>∃ (n:Nat),v = .int .i64 n∧n≤l.length∧IsNum wr a (valS (l.take n))∧Nx w wr) (fun _ v _=>(1000 - intOf v).toNat)
 case atStart=>exact ⟨0,rfl,Nat.zero_le _,IsNum.zero _,Nx.refl _⟩
 case round =>
  obtain ⟨n,rfl,hn,hnum,hb⟩:=hrel
  obtain ⟨Av,lv,cv,rfl⟩:=hnum.sl
  obtain ⟨V,HV⟩:∃ V,Hid (valS (l.take n)=V):=⟨_,rfl⟩
  rw [HV.out] at hnum
  have hVl:V<2 ^ (4 * n):=by
   rw [← HV.out];exact Nat.lt_of_lt_of_le (valS_lt l HD.out n hn) (ten_two n)
  by_cases hlt:n<l.length
  ·obtain ⟨hp,e0⟩:=HL.out.idx n hlt
   obtain ⟨c,hc⟩:∃ c,l[n]=c:=⟨_,rfl⟩
   rw [hc] at e0
   have hcd:=(isDig_iff c).1 (HD.out c (by rw [← hc];exact List.getElem_mem hlt))
   obtain ⟨D,hD⟩:∃ D:Nat,(c.toNat:Int) - 48=(D:Int):=⟨c.toNat - 48,by omega⟩
   have h48:(48:Int)≤(c.toNat:Int):=by omega
   have h57:(c.toNat:Int)≤57:=by omega
   have hD9:D≤9:=by omega
   have wr8:IntKind.u8.wrap (D:Int)=(D:Int):=by rw [IntKind.wrap_u8];omega
   have wr64:IntKind.u64.wrap (D:Int)=(D:Int):=by rw [IntKind.wrap_u64];omega
   have HN:Hid (valS (l.take (n+1))=V * 10+D):=by
    unfold Hid;rw [valS_take l n hlt,HV.out,hc];unfold digV;omega
   clear hcd hc
   go_wp2_with fail
   refine wp_region_hyb [(0,true),(3,true),(4,true),(5,true),(6,true),(7,true),(1,false),(2,false),(8,false),(9,false),(10,true)] rfl (by kernel_rfl) ?_
   iterate 6 (refine hyb_calm rfl (fun K hK=>?_);go_simp;refine hK _ ?_;clear hK K)
   refine hyb_alone rfl (fun w1 hn1 K hK=>?_)
   go_simp
   refine (of_any 10 _ (by decide)).mono ?_;rintro e w2 ⟨v2,rfl,hv2,hw2⟩
   refine hK _ _ hw2 ?_
   clear hK K
   refine hyb_alone rfl (fun w3 hn3 K hK=>?_)
   go_simp
   have hN3:Nx wr w3:=Nx.trans (Nx.trans hn1 hw2) hn3
   refine (mul_n _ _ V 10 KB _ ((hnum.below hN3).few hVl (by omega)) ((hv2.below hn3).few (show 10<2 ^ 4 by decide) (by decide)) KB_le).mono ?_;rintro e w4 ⟨v4,rfl,hv4,hw4⟩
   refine hK _ _ hw4 ?_
   clear hK K
   refine hyb_alone rfl (fun w5 hn5 K hK=>?_)
   go_simp
   refine (of_any D _ (by omega)).mono ?_;rintro e w6 ⟨v6,rfl,hv6,hw6⟩
   refine hK _ _ hw6 ?_
   clear hK K
   refine hyb_alone rfl (fun w7 hn7 K hK=>?_)
   go_simp
   have hv4':=hv4.below (Nx.trans (Nx.trans hn5 hw6) hn7)
   refine (add_n _ _ (V * 10) D KB _ (hv4'.few (show V * 10<2 ^ (4 * n+4) by rw [Nat.pow_add];omega) (by omega)) ((hv6.below hn7).few (show D<2 ^ 4 by omega) (by decide)) KB_le).mono ?_;rintro e w8 ⟨v8,rfl,hv8,hw8⟩
   refine hK _ _ hw8 ?_
   clear hK K
   refine hyb_calm rfl (fun K hK=>?_);go_simp;refine hK _ ?_;clear hK K
   refine hyb_nil (fun w9 hn9=>?_)
   have hN9:Nx w w9:=Nx.trans (Nx.trans (Nx.trans (Nx.trans (Nx.trans (Nx.trans (Nx.trans hb hN3) hw4) hn5) hw6) hn7) hw8) hn9
   go_wp2_with fail
   go_roundw
   case rel=>exact ⟨n+1,by go_num,hlt,by rw [HN.out];exact hv8.below hn9,hN9⟩
   case measure=>simp [intOf];omega
  ·have g1:¬ n<s.size:=by rw [HL.out.size];omega
   have HE:Hid (valS l=V):=by unfold Hid;rw [← HV.out,List.take_of_length_le (by omega)]
   go_wp2_with fail
   go_ret
   exact ⟨_,rfl,by rw [HE.out];exact hnum,hb⟩
end Go.Proofs.YtpbjkgpdkopgmaaGreatDoor
namespace Go.Proofs.YtpbjkgpdkopgmaaGreatDoor
open Go.RowKit
theorem near_numS (n:Nat) (k:Int):near (n * 10 ^ k.toNat * 2 ^ tz) (1 * 10 ^ (-k).toNat)=numS n k:=by
 unfold numS
 split
 ·rename_i h
  rw [show (-k).toNat=0 from by omega,Nat.pow_zero,Nat.mul_one]
 ·rename_i h
  rw [show k.toNat=0 from by omega,Nat.pow_zero,Nat.mul_one,Nat.one_mul]
theorem or_zero (a:Nat) (ha:a<9223372036854775808):bits .or .u64 (a:Int) (0:Int)=(a:Int):=by
 have h1:(0:Int)=((0:Nat):Int):=rfl
 rw [h1,bits_or_u64_nat _ _ (by omega) (by omega),Nat.or_zero]
theorem or_sign (a:Nat) (ha:a<9223372036854775808):bits .or .u64 (a:Int) (9223372036854775808:Int)=((9223372036854775808+a:Nat):Int):=by
 have h1:(9223372036854775808:Int)=((9223372036854775808:Nat):Int):=rfl
 rw [h1,bits_or_u64_nat _ _ (by omega) (by omega),Nat.or_comm]
 have:=Nat.two_pow_add_eq_or_of_lt (i:=63) (b:=a) ha 1
 rw [Nat.mul_one] at this
 rw [show (9223372036854775808:Nat)=2 ^ 63 from rfl,← this]
theorem Tx.app {s t:ByteArray} {a b:List UInt8} (h:Tx s a) (g:Tx t b):Tx (s++t) (a++b):=by
 unfold Tx at *
 rw [← h,← g]
 simp
set_option maxRecDepth 100000 in
set_option maxHeartbeats 3200000 in
theorem parse_any (s:ByteArray) (l:List UInt8) (w:World) (hl:Tx s l) (hs:(l.length:Int)≤8000) :
  Calls Tryz.prog 192 #[.string s] w fun e w'=>e = .returned (.tuple #[.int .u64 ((parseS l).1:Nat),.int .i64 ((parseS l).2:Nat)])∧Nx w w':=by
 obtain ⟨R1,HR1⟩:∃ R,Hid ((parseS l)=R):=⟨_,rfl⟩
 rw [HR1.out]
 obtain ⟨b,e⟩:=R1
 go_enter Tryz.func192,Tryz.ntmps192
 go_wp2_with fail
 refine (takeApart_any s l _ hl hs).mono ?_;rintro e w1 ⟨sg,wv,fv,ev,ok,rfl,HT,hw1⟩
 have hp:=parse_take l sg wv fv ev ok HT.out
 cases ok
 ·have h1:=hp.1 rfl
  rw [HR1.out] at h1
  obtain ⟨rfl,rfl⟩:=Prod.mk.inj h1
  clear hp
  go_wp2_with fail
  go_ret2
  exact ⟨rfl,Nx.trans hw1 (nx0 _ _)⟩
 ·obtain ⟨W,F,hW,hF,hdW,hdF,hWF,S,rfl,hS,hpar⟩:=hp.2 rfl
  rw [HR1.out] at hpar
  clear hp
  obtain ⟨g,hg⟩:∃ g,w1.heap.size=g:=⟨_,rfl⟩
  have hN0:Nx w (w1.alloc (Obj.cells #[.int .u64 (S:Int),.string wv,.string fv,.int .i64 ev] 260)):=Nx.trans hw1 (nx0 _ _)
  have hB0:Blk (w1.alloc (Obj.cells #[.int .u64 (S:Int),.string wv,.string fv,.int .i64 ev] 260)) g g #[.int .u64 (S:Int),.string wv,.string fv,.int .i64 ev] 260:=by rw [← hg];exact Blk.new _ _ _
  have hsz1:=hW.size
  have hsz2:=hF.size
  have hWl:(W.length:Int)≤8000:=by omega
  have hFl:(F.length:Int)≤8000:=by omega
  by_cases h60:60<W.length+F.length
  ·rw [if_pos h60] at hpar
   obtain ⟨rfl,rfl⟩:=Prod.mk.inj hpar
   have b1:decide ((60:Int)<(W.length:Int)+(F.length:Int))=true:=decide_eq_true (by omega)
   clear hpar h60
   go_wp2_with fail
   go_ret2
   exact ⟨rfl,hN0⟩
  ·rw [if_neg h60] at hpar
   have b1:decide ((60:Int)<(W.length:Int)+(F.length:Int))=false:=decide_eq_false (by omega)
   by_cases h400:400<ev
   ·rw [if_pos (.inl h400)] at hpar
    obtain ⟨rfl,rfl⟩:=Prod.mk.inj hpar
    have b2:decide (400<ev)=true:=decide_eq_true h400
    clear hpar h60 h400
    go_wp2_with fail
    go_ret2
    exact ⟨rfl,hN0⟩
   ·have b2:decide (400<ev)=false:=decide_eq_false h400
    by_cases hm400:ev < -400
    ·rw [if_pos (.inr hm400)] at hpar
     obtain ⟨rfl,rfl⟩:=Prod.mk.inj hpar
     have b3:decide (ev < -400)=true:=decide_eq_true hm400
     clear hpar h60 h400 hm400
     go_wp2_with fail
     go_ret2
     exact ⟨rfl,hN0⟩
    ·rw [if_neg (by omega)] at hpar
     have b3:decide (ev < -400)=false:=decide_eq_false hm400
     obtain ⟨N,HN⟩:∃ N,Hid (numS (valS (W++F)) (ev - F.length)=N):=⟨_,rfl⟩
     rw [HN.out] at hpar
     obtain ⟨k,hk⟩:∃ k:Int,ev - (F.length:Int)=k:=⟨_,rfl⟩
     have HK:=Lib.hid hk
     have hk1 : -460≤k:=by omega
     have hk2:k≤400:=by omega
     have hNK:=near_numS (valS (W++F)) k
     rw [← hk,HN.out,hk] at hNK
     have HNK:=Lib.hid hNK
     have hdd:digs (W++F):=fun c hc=>(List.mem_append.1 hc).elim (hdW c) (hdF c)
     have hVl:valS (W++F)<2 ^ 240:=by
      have h1:=valS_lt (W++F) hdd (W++F).length (Nat.le_refl _)
      rw [List.take_length] at h1
      refine Nat.lt_of_lt_of_le h1 (Nat.le_trans (ten_two _) (Nat.pow_le_pow_right (by decide) ?_))
      rw [List.length_append];omega
     have hx:Hid (Tx (wv++fv) (W++F)):=hW.app hF
     have hwl:((W++F).length:Int)≤1000:=by rw [List.length_append];omega
     have hsum:wv.size+fv.size≤9223372036854775807:=by omega
     obtain ⟨V,HV⟩:∃ V,Hid (valS (W++F)=V):=⟨_,rfl⟩
     rw [HV.out] at hVl HNK
     have HX:=Lib.hid hdd
     have HPAR:=Lib.hid hpar
     clear h60 h400 hm400 hNK hdd hdW hdF hpar
     go_wp2_with fail
     refine (natural_any _ (W++F) _ hx.out HX.out hwl).mono ?_;rintro e w2 ⟨v2,rfl,hv2,hw2⟩
     rw [HV.out] at hv2
     obtain ⟨A2,l2,c2,rfl⟩:=hv2.sl
     go_wp2_with fail
     refine (of_any 1 _ (by decide)).mono ?_;rintro e w3 ⟨v3,rfl,hv3,hw3⟩
     obtain ⟨A3,l3,c3,rfl⟩:=hv3.sl
     have hv23:=(hv2.below hw3).below (nx0 w3 (Obj.cells #[.slice A2 l2 c2,.slice A3 l3 c3] 265))
     have hv33:=hv3.below (nx0 w3 (Obj.cells #[.slice A2 l2 c2,.slice A3 l3 c3] 265))
     have hN3:=Nx.al (Nx.trans (Nx.trans hN0 hw2) hw3) (Obj.cells #[.slice A2 l2 c2,.slice A3 l3 c3] 265)
     have hB3:=(hB0.below (Nx.trans hw2 hw3)).alloc (Obj.cells #[.slice A2 l2 c2,.slice A3 l3 c3] 265)
     have q0:(w3.alloc (Obj.cells #[.slice A2 l2 c2,.slice A3 l3 c3] 265)).cell? ⟨g,0,none⟩=some (.int .u64 (S:Int)):=hB3.cell 0
     have q2:(w3.alloc (Obj.cells #[.slice A2 l2 c2,.slice A3 l3 c3] 265)).cell? ⟨g,2,none⟩=some (.string fv):=hB3.cell 2
     have q3:(w3.alloc (Obj.cells #[.slice A2 l2 c2,.slice A3 l3 c3] 265)).cell? ⟨g,3,none⟩=some (.int .i64 ev):=hB3.cell 3
     go_wp2_with fail
     refine (timesTen_any _ V 1 240 k _ ⟨_,_,rfl,hv23,hv33,hVl,Nat.one_lt_two_pow (by decide)⟩ (by decide) (by omega) (by omega)).mono ?_;rintro e w4 ⟨r4,rfl,hr4,hw4⟩
     obtain ⟨v4,u4,rfl,hv4,hu4,hx4,hy4⟩:=hr4
     have HR4:=Lib.hid (show Ra w4 (.agg #[v4,u4]) _ _ _ from ⟨v4,u4,rfl,hv4,hu4,hx4,hy4⟩)
     clear hv4 hu4 hx4 hy4
     go_wp2_with fail
     refine (nearest_any _ _ _ _ _ HR4.out (by omega) (by rw [Nat.one_mul];exact Nat.pos_iff_ne_zero.1 (Nat.pow_pos (by decide)))).mono ?_;rintro e w5 ⟨rfl,hw5⟩
     rw [HNK.out]
     have hN5:=Nx.trans (Nx.trans hN3 hw4) hw5
     have hB5:=hB3.below (Nx.trans hw4 hw5)
     have q0':w5.cell? ⟨g,0,none⟩=some (.int .u64 (S:Int)):=hB5.cell 0
     clear q0 q2 q3
     have hpar:=HPAR.out
     by_cases hlim:N<LIM
     ·rw [if_pos hlim] at hpar
      obtain ⟨rfl,rfl⟩:=Prod.mk.inj hpar
      unfold LIM at hlim
      have b4:decide ((9218868437227405312:Int)≤(N:Int))=false:=decide_eq_false (by omega)
      have hN63:N<9223372036854775808:=by omega
      clear hpar hlim
      rcases hS with rfl | rfl
      ·have HO:=Lib.hid (or_zero N hN63)
       clear hN63
       go_wp2_with fail
       go_ret2
       refine ⟨?_,hN5⟩
       rw [Nat.zero_add]
       exact congrArg (fun z=>Ending.returned (Value.tuple #[Value.int .u64 z,Value.int .i64 0])) HO.out
      ·have HO:=Lib.hid (or_sign N hN63)
       clear hN63
       go_wp2_with fail
       go_ret2
       refine ⟨?_,hN5⟩
       exact congrArg (fun z=>Ending.returned (Value.tuple #[Value.int .u64 z,Value.int .i64 0])) HO.out
     ·rw [if_neg hlim] at hpar
      obtain ⟨rfl,rfl⟩:=Prod.mk.inj hpar
      unfold LIM at hlim
      have b4:decide ((9218868437227405312:Int)≤(N:Int))=true:=decide_eq_true (by omega)
      clear hpar hlim
      go_wp2_with fail
      go_ret2
      exact ⟨rfl,hN5⟩
end Go.Proofs.YtpbjkgpdkopgmaaGreatDoor
namespace Go.Proofs.YtpbjkgpdkopgmaaGreatDoor
open Go.RowKit
theorem hexN_le (l:List UInt8):hexN l≤l.length∧(hexN l≠0→3≤hexN l)∧(∀ c ∈ (l.take (hexN l)).drop 2,isHexS c=true):=by
 cases l with
 | nil=>exact ⟨Nat.le_refl _,fun h=>absurd rfl h,fun c h=>by simp [hexN] at h⟩
 | cons c r=>cases r with
  | nil=>exact ⟨Nat.zero_le _,fun h=>absurd rfl h,fun c h=>by simp [hexN] at h⟩
  | cons d r =>
   unfold hexN
   dsimp only
   split
   ·rename_i h
    have:=spanN_le isHexS r
    refine ⟨by simp;omega,fun _=>by omega,fun e he=>?_⟩
    rw [Nat.add_comm,List.take_succ_cons,List.take_succ_cons] at he
    exact spanN_take isHexS r e he
   ·exact ⟨Nat.zero_le _,fun h=>absurd rfl h,fun c h=>by simp at h⟩
theorem decN_le (l:List UInt8):decN l≤l.length:=by
 unfold decN
 dsimp only
 have h1:=(sgnN_le l).1
 have h2:=digN_le (l.drop (sgnN l))
 have h3:=fracN_le (l.drop (sgnN l+digN (l.drop (sgnN l))))
 split
 ·omega
 ·have h4:=expN_le (l.drop (sgnN l+(digN (l.drop (sgnN l))+fracN (l.drop (sgnN l+digN (l.drop (sgnN l)))))))
  simp at h2 h3 h4
  omega
theorem take_digits (l:List UInt8) (h:wholeB l=true):∀ c ∈ l.drop (sgnN l),isDig c=true:=by
 have h1:=of_decide_eq_true h
 have h2:=spanN_take isDig (l.drop (sgnN l))
 have h3:spanN isDig (l.drop (sgnN l))=(l.drop (sgnN l)).length:=by
  have:digN (l.drop (sgnN l))=(l.drop (sgnN l)).length:=by simp;omega
  exact this
 rw [h3,List.take_length] at h2
 exact h2
set_option maxRecDepth 100000 in
set_option maxHeartbeats 3200000 in
theorem number_any (s:ByteArray) (l:List UInt8) (w:World) (hl:Tx s l) (hs:(l.length:Int)≤8000) :
  Calls Tryz.prog 138 #[.string s] w fun e w'=>TokR e (numberS l)∧Nx w w':=by
 have HL:=Lib.hid hl
 have hz:(s.size:Int)=(l.length:Int):=by rw [hl.size]
 obtain ⟨N,hN⟩:∃ N,hexN l=N:=⟨_,rfl⟩
 obtain ⟨hN1,hN2,hN3⟩:=hexN_le l
 rw [hN] at hN1 hN2 hN3
 obtain ⟨K,hK⟩:∃ K,decN l=K:=⟨_,rfl⟩
 have hK1:=decN_le l
 rw [hK] at hK1
 have HX:Hid (numberS l=if N≠0 then ((hexS ((l.take N).drop 2)).2,⟨2,[],(hexS ((l.take N).drop 2)).1,0,0⟩,N)
   else if K=0 then (2,tok0,0) else if wholeB (l.take K) then ((wholeS (l.take K)).2,⟨2,[],(wholeS (l.take K)).1,0,0⟩,K)
   else ((parseS (l.take K)).2,⟨3,[],0,(parseS (l.take K)).1,0⟩,K)):=by
  unfold Hid numberS;rw [hN,hK]
 have HN:=Lib.hid hN
 have HN3:=Lib.hid hN3
 have HK:=Lib.hid hK
 have hNI:(N:Int)≤(l.length:Int):=by omega
 have hKI:(K:Int)≤(l.length:Int):=by omega
 clear hl hN hK hN1 hK1 hN3
 obtain ⟨g,hg⟩:∃ g,w.heap.size=g:=⟨_,rfl⟩
 have hB0:=Blk.new w #[.int .i64 0,.string ⟨#[]⟩,.int .i64 0,.int .u64 0,.int .i64 0] 92
 rw [hg] at hB0
 have hN0:Nx w (w.alloc (Obj.cells #[.int .i64 0,.string ⟨#[]⟩,.int .i64 0,.int .u64 0,.int .i64 0] 92)):=nx0 _ _
 go_enter Tryz.func138,Tryz.ntmps138
 go_wp2_with fail
 generalize hW1:World.alloc _ _=w1 at *
 refine (hexLength_any s l w1 HL.out (by omega)).mono ?_;rintro e w' ⟨rfl,rfl⟩
 rw [HN.out]
 obtain ⟨c0,c1,c2,c3,c4,f0,f1,f2,f3,f4⟩:=cells5 hB0
 by_cases h0:N=0
 ·subst h0
  have HX2:Hid (numberS l=if K=0 then (2,tok0,0) else if wholeB (l.take K) then ((wholeS (l.take K)).2,⟨2,[],(wholeS (l.take K)).1,0,0⟩,K)
   else ((parseS (l.take K)).2,⟨3,[],0,(parseS (l.take K)).1,0⟩,K)):=by unfold Hid;rw [HX.out,if_neg (by simp)]
  go_wp2_with fail
  refine (decimalLength_any s l _ HL.out (by omega)).mono ?_;rintro e w' ⟨rfl,rfl⟩
  rw [HK.out]
  by_cases hk:K=0
  ·have HX3:Hid (numberS l=(2,tok0,0)):=by unfold Hid;rw [HX2.out,if_pos hk]
   have b1:((K:Int) == 0)=true:=by rw [beq_iff_eq];omega
   clear hk
   go_wp2_with fail
   refine bodyPost_ret (results_cell_tmp2_row rfl _ _ g _ _ _ _ rfl hB0.put5.2 Tryz.underlying92 rfl (by kernel_rfl)) rfl ?_
   refine ⟨⟨_,_,_,_,_,_,by rw [HX3.out];rfl,fun h=>?_⟩,hN0.put5 (by omega)⟩
   rw [HX3.out] at h;cases h
  ·have HX3:Hid (numberS l=if wholeB (l.take K) then ((wholeS (l.take K)).2,⟨2,[],(wholeS (l.take K)).1,0,0⟩,K)
    else ((parseS (l.take K)).2,⟨3,[],0,(parseS (l.take K)).1,0⟩,K)):=by unfold Hid;rw [HX2.out,if_neg hk]
   have b1:((K:Int) == 0)=false:=by rw [beq_eq_false_iff_ne];omega
   obtain ⟨u,hu,HU⟩:=HL.out.upto K
   have hne:l.take K≠[]:=by
    intro h
    have:(l.take K).length=0:=by rw [h];rfl
    rw [List.length_take] at this
    omega
   have HNE:=Lib.hid hne
   clear hk hne
   go_wp2_with fail
   refine (isWhole_any u (l.take K) _ HU.out (by simp;omega)).mono ?_;rintro e w' ⟨rfl,rfl⟩
   obtain ⟨b,hb⟩:∃ b,Hid (wholeB (l.take K)=b):=⟨_,rfl⟩
   rw [hb.out] at HX3 ⊢
   cases b
   ·have HX4:Hid (numberS l=((parseS (l.take K)).2,⟨3,[],0,(parseS (l.take K)).1,0⟩,K)):=HX3
    clear c0 c1 c2 c3 c4 f0 f1 f2 f3 f4
    go_wp2_with fail
    refine (parse_any u (l.take K) _ HU.out (by simp;omega)).mono ?_;rintro e w2 ⟨rfl,hw2⟩
    have hB2:=hB0.below hw2
    have hN2:=Nx.trans hN0 hw2
    obtain ⟨c0,c1,c2,c3,c4,f0,f1,f2,f3,f4⟩:=cells5 hB2
    generalize parseS (l.take K)=P at *
    obtain ⟨p1,p2⟩:=P
    go_wp2_with fail
    refine bodyPost_ret (results_cell_tmp2_row rfl _ _ g _ _ _ _ rfl hB2.put5.2 Tryz.underlying92 rfl (by kernel_rfl)) rfl ?_
    refine ⟨⟨_,_,_,_,_,_,by rw [HX4.out];rfl,fun _=>?_⟩,hN2.put5 (by omega)⟩
    rw [HX4.out]
    exact ⟨rfl,rfl⟩
   ·have HX4:Hid (numberS l=((wholeS (l.take K)).2,⟨2,[],(wholeS (l.take K)).1,0,0⟩,K)):=HX3
    go_wp2_with fail
    refine (wholeValue_any u (l.take K) _ HU.out HNE.out (take_digits _ hb.out) (by simp;omega)).mono ?_;rintro e w2 ⟨rfl,rfl⟩
    generalize wholeS (l.take K)=P at *
    obtain ⟨p1,p2⟩:=P
    go_wp2_with fail
    refine bodyPost_ret (results_cell_tmp2_row rfl _ _ g _ _ _ _ rfl hB0.put5.2 Tryz.underlying92 rfl (by kernel_rfl)) rfl ?_
    refine ⟨⟨_,_,_,_,_,_,by rw [HX4.out];rfl,fun _=>?_⟩,hN0.put5 (by omega)⟩
    rw [HX4.out]
    exact ⟨rfl,rfl⟩
 ·have HX2:Hid (numberS l=((hexS ((l.take N).drop 2)).2,⟨2,[],(hexS ((l.take N).drop 2)).1,0,0⟩,N)):=by unfold Hid;rw [HX.out,if_pos h0]
  have g1:decide ((0:Int)<(N:Int))=true:=decide_eq_true (by omega)
  have g2:(3:Int)≤(N:Int):=by have:=hN2 h0;omega
  obtain ⟨u,hu,HU⟩:=HL.out.mid 2 N
  have hul:(((l.take N).drop 2).length:Int)≤8000:=by simp;omega
  clear h0 hN2
  go_wp2_with fail
  refine (hexValue_any u _ _ HU.out HN3.out (by omega)).mono ?_;rintro e w2 ⟨rfl,rfl⟩
  generalize hexS ((l.take N).drop 2)=P at *
  obtain ⟨p1,p2⟩:=P
  go_wp2_with fail
  refine bodyPost_ret (results_cell_tmp2_row rfl _ _ g _ _ _ _ rfl hB0.put5.2 Tryz.underlying92 rfl (by kernel_rfl)) rfl ?_
  refine ⟨⟨_,_,_,_,_,_,by rw [HX2.out];rfl,fun _=>?_⟩,hN0.put5 (by omega)⟩
  rw [HX2.out]
  exact ⟨rfl,rfl⟩
end Go.Proofs.YtpbjkgpdkopgmaaGreatDoor
namespace Go.Proofs.YtpbjkgpdkopgmaaGreatDoor
open Go.RowKit
theorem index_signs (c:UInt8):(0≤Lib.indexByte signsL c∧signsL.contains c=true)∨(Lib.indexByte signsL c = -1∧signsL.contains c=false):=by
 suffices h:∀ l:List UInt8,(0≤Lib.indexByte l c∧l.contains c=true)∨(Lib.indexByte l c = -1∧l.contains c=false) from h _
 intro l
 induction l with
 | nil=>exact .inr ⟨rfl,rfl⟩
 | cons d l ih =>
  unfold Lib.indexByte
  by_cases h:d=c
  ·subst h;left;simp
  ·have h1:(d == c)=false:=by simpa using h
   have h2:(c == d)=false:=by simpa using fun e=>h e.symm
   rw [h1,List.contains_cons,h2,Bool.false_or]
   rcases ih with ⟨i1,i2⟩ | ⟨i1,i2⟩
   ·left
    have h3:(Lib.indexByte l c == -1)=false:=by rw [beq_eq_false_iff_ne];omega
    rw [h3]
    exact ⟨by simp;omega,i2⟩
   ·right
    rw [i1]
    exact ⟨rfl,i2⟩
set_option maxRecDepth 100000 in
set_option maxHeartbeats 3200000 in
theorem first_any (s:ByteArray) (l:List UInt8) (w:World) (hl:Tx s l) (hs:(l.length:Int)≤8000) (hm:MaxC w) :
  Calls Tryz.prog 86 #[.string s] w fun e w'=>TokR e (firstS l)∧Nx w w':=by
 obtain ⟨g,hg⟩:∃ g,w.heap.size=g:=⟨_,rfl⟩
 have hB0:=Blk.new w #[.int .i64 0,.string ⟨#[]⟩,.int .i64 0,.int .u64 0,.int .i64 0] 92
 rw [hg] at hB0
 have hN0:Nx w (w.alloc (Obj.cells #[.int .i64 0,.string ⟨#[]⟩,.int .i64 0,.int .u64 0,.int .i64 0] 92)):=nx0 _ _
 have HM:=Lib.hid (hm.nx hN0)
 cases l with
 | nil =>
  have e1:=hl.nil.1
  clear hl HM
  go_enter Tryz.func86,Tryz.ntmps86
  go_wp2_with fail
  try simp only [Exit.inBlock,Exit.then]
  refine bodyPost_ret (results_cell_tmp2_row rfl _ _ w.heap.size _ _ _ _ (by rw [hg];rfl) (heap_alloc_new w _) Tryz.underlying92 rfl (by kernel_rfl)) rfl ?_
  exact ⟨⟨_,_,_,_,_,_,rfl,fun _=>⟨rfl,rfl⟩⟩,nx0 _ _⟩
 | cons c r =>
  have HL:=Lib.hid hl
  obtain ⟨hp,t0,e0,e1,ht,e2,e3⟩:=hl.cons
  have hz:(s.size:Int)=(r.length:Int)+1:=by rw [hl.size];simp
  have hrl:(r.length:Int)≤8000:=by simp at hs;omega
  obtain ⟨bl,hbl⟩:∃ b,Hid (isLetS c=b):=⟨_,rfl⟩
  obtain ⟨bd,hbd⟩:∃ b,Hid (isDig c=b):=⟨_,rfl⟩
  have HX:Hid (firstS (c :: r)=if bl || decide (c.toNat=95) then nameS (c :: r)
   else if bd || decide (c.toNat=43) || decide (c.toNat=45) || decide (c.toNat=46) then numberS (c :: r)
   else if c.toNat=34∨c.toNat=39 then quotedS c r
   else if signsL.contains c then (0,⟨5,[c],0,0,0⟩,1) else (2,tok0,0)):=by
   unfold Hid;rw [← hbl.out,← hbd.out];rfl
  obtain ⟨u,hu,HU⟩:=HL.out.upto 1
  have HU2:Hid (Tx u [c]):=HU
  clear hl ht e1 HU
  go_enter Tryz.func86,Tryz.ntmps86
  go_wp2_with fail
  generalize hW1:World.alloc _ _=w1 at *
  refine (isLetter_any c w1).mono ?_;rintro e w' ⟨rfl,rfl⟩
  rw [hbl.out]
  obtain ⟨c0,c1,c2,c3,c4,f0,f1,f2,f3,f4⟩:=cells5 hB0
  have hB:=Lib.hid hB0
  have hNm:bl=true∨(bl=false∧((c.toNat:Int) == 95)=true)∨(bl=false∧((c.toNat:Int) == 95)=false∧c.toNat≠95):=by
   cases bl
   ·by_cases h:c.toNat=95
    ·exact .inr (.inl ⟨rfl,by rw [beq_iff_eq];omega⟩)
    ·exact .inr (.inr ⟨rfl,by rw [beq_eq_false_iff_ne];omega,h⟩)
   ·exact .inl rfl
  have HXN:Hid ((bl=true∨((c.toNat:Int) == 95)=true)→firstS (c :: r)=nameS (c :: r)):=by
   intro h
   rw [HX.out,if_pos]
   rcases h with h | h
   ·rw [h];rfl
   ·rw [decide_eq_true (show c.toNat=95 by rw [beq_iff_eq] at h;omega)];simp
  rcases hNm with rfl | ⟨rfl,b95⟩ | ⟨rfl,b95,n95⟩
  ·have HX2:=Lib.hid (HXN.out (.inl rfl))
   clear hB0 c0 c1 c2 c3 c4 f0 f1 f2 f3 f4
   go_wp2_with fail
   refine (name_any s (c :: r) w' HL.out (by omega) HM.out).mono ?_;rintro e w2 ⟨⟨k,t,v,d,p,n,rfl,hok⟩,hw2⟩
   have hB2:=hB.out.below hw2
   have hN2:=Nx.trans hN0 hw2
   have HOK:=Lib.hid hok
   obtain ⟨c0,c1,c2,c3,c4,f0,f1,f2,f3,f4⟩:=cells5 hB2
   clear hok
   go_wp2_with fail
   try simp only [Exit.inBlock,Exit.then]
   refine bodyPost_ret (results_cell_tmp2_row rfl _ _ g _ _ _ _ rfl hB2.put5.2 Tryz.underlying92 rfl (by kernel_rfl)) rfl ?_
   rw [HX2.out]
   exact ⟨⟨_,_,_,_,_,_,rfl,HOK.out⟩,hN2.put5 (by omega)⟩
  ·have HX2:=Lib.hid (HXN.out (.inr b95))
   clear hB0 c0 c1 c2 c3 c4 f0 f1 f2 f3 f4
   go_wp2_with fail
   refine (name_any s (c :: r) w' HL.out (by omega) HM.out).mono ?_;rintro e w2 ⟨⟨k,t,v,d,p,n,rfl,hok⟩,hw2⟩
   have hB2:=hB.out.below hw2
   have hN2:=Nx.trans hN0 hw2
   have HOK:=Lib.hid hok
   obtain ⟨c0,c1,c2,c3,c4,f0,f1,f2,f3,f4⟩:=cells5 hB2
   clear hok
   go_wp2_with fail
   try simp only [Exit.inBlock,Exit.then]
   refine bodyPost_ret (results_cell_tmp2_row rfl _ _ g _ _ _ _ rfl hB2.put5.2 Tryz.underlying92 rfl (by kernel_rfl)) rfl ?_
   rw [HX2.out]
   exact ⟨⟨_,_,_,_,_,_,rfl,HOK.out⟩,hN2.put5 (by omega)⟩
  ·have HX2:Hid (firstS (c :: r)=if bd || decide (c.toNat=43) || decide (c.toNat=45) || decide (c.toNat=46) then numberS (c :: r)
    else if c.toNat=34∨c.toNat=39 then quotedS c r
    else if signsL.contains c then (0,⟨5,[c],0,0,0⟩,1) else (2,tok0,0)):=by
    unfold Hid;rw [HX.out,if_neg (by simp;exact n95)]
   clear n95 HXN HX
   go_wp2_with fail
   refine (isDigit_any c _).mono ?_;rintro e w' ⟨rfl,rfl⟩
   rw [hbd.out]
   have hNu:(bd=true∨bd=false∧(((c.toNat:Int) == 43)=true∨((c.toNat:Int) == 43)=false∧(((c.toNat:Int) == 45)=true∨((c.toNat:Int) == 45)=false∧((c.toNat:Int) == 46)=true))) ∨
     (bd=false∧((c.toNat:Int) == 43)=false∧((c.toNat:Int) == 45)=false∧((c.toNat:Int) == 46)=false∧c.toNat≠43∧c.toNat≠45∧c.toNat≠46):=by
    cases bd
    ·by_cases h1:c.toNat=43
     ·exact .inl (.inr ⟨rfl,.inl (by rw [beq_iff_eq];omega)⟩)
     ·have e1:((c.toNat:Int) == 43)=false:=by rw [beq_eq_false_iff_ne];omega
      by_cases h2:c.toNat=45
      ·exact .inl (.inr ⟨rfl,.inr ⟨e1,.inl (by rw [beq_iff_eq];omega)⟩⟩)
      ·have e2:((c.toNat:Int) == 45)=false:=by rw [beq_eq_false_iff_ne];omega
       by_cases h3:c.toNat=46
       ·exact .inl (.inr ⟨rfl,.inr ⟨e1,.inr ⟨e2,by rw [beq_iff_eq];omega⟩⟩⟩)
       ·exact .inr ⟨rfl,e1,e2,by rw [beq_eq_false_iff_ne];omega,h1,h2,h3⟩
    ·exact .inl (.inl rfl)
   rcases hNu with hNu | ⟨rfl,b43,b45,b46,n43,n45,n46⟩
   ·have HX3:Hid (firstS (c :: r)=numberS (c :: r)):=by
     unfold Hid
     rw [HX2.out,if_pos]
     rcases hNu with h | ⟨_,h | ⟨_,h | ⟨_,h⟩⟩⟩
     ·rw [h];rfl
     ·rw [decide_eq_true (show c.toNat=43 by rw [beq_iff_eq] at h;omega)];simp
     ·rw [decide_eq_true (show c.toNat=45 by rw [beq_iff_eq] at h;omega)];simp
     ·rw [decide_eq_true (show c.toNat=46 by rw [beq_iff_eq] at h;omega)];simp
    rcases hNu with rfl | ⟨rfl,b43 | ⟨b43,b45 | ⟨b45,b46⟩⟩⟩
    all_goals
     clear hB0 c0 c1 c2 c3 c4 f0 f1 f2 f3 f4
     go_wp2_with fail
     refine (number_any s (c :: r) w' HL.out hs).mono ?_;rintro e w2 ⟨⟨k,t,v,d,p,n,rfl,hok⟩,hw2⟩
     have hB2:=hB.out.below hw2
     have hN2:=Nx.trans hN0 hw2
     have HOK:=Lib.hid hok
     obtain ⟨c0,c1,c2,c3,c4,f0,f1,f2,f3,f4⟩:=cells5 hB2
     clear hok
     go_wp2_with fail
     try simp only [Exit.inBlock,Exit.then]
     refine bodyPost_ret (results_cell_tmp2_row rfl _ _ g _ _ _ _ rfl hB2.put5.2 Tryz.underlying92 rfl (by kernel_rfl)) rfl ?_
     rw [HX3.out]
     exact ⟨⟨_,_,_,_,_,_,rfl,HOK.out⟩,hN2.put5 (by omega)⟩
   ·have HX3:Hid (firstS (c :: r)=if c.toNat=34∨c.toNat=39 then quotedS c r
     else if signsL.contains c then (0,⟨5,[c],0,0,0⟩,1) else (2,tok0,0)):=by
     unfold Hid;rw [HX2.out,if_neg (by simp;exact ⟨⟨n43,n45⟩,n46⟩)]
    clear n43 n45 n46
    have hQ:(((c.toNat:Int) == 34)=true∨((c.toNat:Int) == 34)=false∧((c.toNat:Int) == 39)=true)∨(((c.toNat:Int) == 34)=false∧((c.toNat:Int) == 39)=false∧¬ (c.toNat=34∨c.toNat=39)):=by
     by_cases h1:c.toNat=34
     ·exact .inl (.inl (by rw [beq_iff_eq];omega))
     ·have e1:((c.toNat:Int) == 34)=false:=by rw [beq_eq_false_iff_ne];omega
      by_cases h2:c.toNat=39
      ·exact .inl (.inr ⟨e1,by rw [beq_iff_eq];omega⟩)
      ·exact .inr ⟨e1,by rw [beq_eq_false_iff_ne];omega,by omega⟩
    rcases hQ with hQ | ⟨b34,b39,hq⟩
    ·have HX4:Hid (firstS (c :: r)=quotedS c r):=by
      unfold Hid
      rw [HX3.out,if_pos]
      rcases hQ with h | ⟨_,h⟩
      ·rw [beq_iff_eq] at h;omega
      ·rw [beq_iff_eq] at h;omega
     rcases hQ with b34 | ⟨b34,b39⟩
     all_goals
      clear hB0 c0 c1 c2 c3 c4 f0 f1 f2 f3 f4
      go_wp2_with fail
      refine (quoted_any s c r w' HL.out (by omega)).mono ?_;rintro e w2 ⟨⟨k,t,v,d,p,n,rfl,hok⟩,hw2⟩
      have hB2:=hB.out.below hw2
      have hN2:=Nx.trans hN0 hw2
      have HOK:=Lib.hid hok
      obtain ⟨c0,c1,c2,c3,c4,f0,f1,f2,f3,f4⟩:=cells5 hB2
      clear hok
      go_wp2_with fail
      try simp only [Exit.inBlock,Exit.then]
      refine bodyPost_ret (results_cell_tmp2_row rfl _ _ g _ _ _ _ rfl hB2.put5.2 Tryz.underlying92 rfl (by kernel_rfl)) rfl ?_
      rw [HX4.out]
      exact ⟨⟨_,_,_,_,_,_,rfl,HOK.out⟩,hN2.put5 (by omega)⟩
    ·have HX4:Hid (firstS (c :: r)=if signsL.contains c then (0,⟨5,[c],0,0,0⟩,1) else (2,tok0,0)):=by
      unfold Hid;rw [HX3.out,if_neg hq]
     clear hq
     go_wp2_with fail
     refine (Tryz.strings_IndexByte ⟨#[123,125,40,41,91,93,60,62,44,59,58,61,42]⟩ (c.toNat:Int) w').mono ?_;rintro e w' ⟨rfl,rfl⟩
     have hI:Hid (Lib.indexByte (ByteArray.mk #[123,125,40,41,91,93,60,62,44,59,58,61,42]).data.toList (c.toNat:Int).toNat.toUInt8=Lib.indexByte signsL c):=by
      have hq:(c.toNat:Int).toNat.toUInt8=c:=by rw [Int.toNat_natCast];exact UInt8.ofNat_toNat
      unfold Hid;rw [hq];rfl
     rw [hI.out]
     obtain ⟨I,hI2⟩:∃ I,Hid (Lib.indexByte signsL c=I):=⟨_,rfl⟩
     have hcase:=index_signs c
     rw [hI2.out] at hcase ⊢
     rcases hcase with ⟨hI0,hcon⟩ | ⟨rfl,hcon⟩
     ·have HX5:Hid (firstS (c :: r)=(0,⟨5,[c],0,0,0⟩,1)):=by unfold Hid;rw [HX4.out,if_pos hcon]
      have b0:decide ((0:Int)≤I)=true:=decide_eq_true hI0
      clear hcon
      clear hB0 c0 c1 c2 c3 c4 f0 f1 f2 f3 f4
      go_wp2_with fail
      refine (tfresh_any u [c] w' HU2.out).mono ?_;rintro e w2 ⟨rfl,hw2⟩
      have hB2:=hB.out.below hw2
      have hN2:=Nx.trans hN0 hw2
      obtain ⟨c0,c1,c2,c3,c4,f0,f1,f2,f3,f4⟩:=cells5 hB2
      go_wp2_with fail
      try simp only [Exit.inBlock,Exit.then]
      refine bodyPost_ret (results_cell_tmp2_row rfl _ _ g _ _ _ _ rfl hB2.put5.2 Tryz.underlying92 rfl (by kernel_rfl)) rfl ?_
      rw [HX5.out]
      exact ⟨⟨_,_,_,_,_,_,rfl,fun _=>⟨rfl,rfl⟩⟩,hN2.put5 (by omega)⟩
     ·have HX5:Hid (firstS (c :: r)=(2,tok0,0)):=by unfold Hid;rw [HX4.out,if_neg (by rw [hcon];decide)]
      clear hcon
      go_wp2_with fail
      try simp only [Exit.inBlock,Exit.then]
      refine bodyPost_ret (results_cell_tmp2_row rfl _ _ g _ _ _ _ rfl hB0.put5.2 Tryz.underlying92 rfl (by kernel_rfl)) rfl ?_
      rw [HX5.out]
      exact ⟨⟨_,_,_,_,_,_,rfl,fun h=>by cases h⟩,hN0.put5 (by omega)⟩
end Go.Proofs.YtpbjkgpdkopgmaaGreatDoor
