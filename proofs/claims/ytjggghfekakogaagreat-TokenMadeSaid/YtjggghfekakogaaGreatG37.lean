/- Bytes that the call owns, told by their cells: what []byte(s) gives, and appends to it. Plain lemmas over any program. token.Lex and the document's lexer find the same words in a made file's text, a byte of it turned. -/
import Derived.Test.YtjggghfekakogaaGreatG01
import Derived.Deep.Upon
import Derived.Deep.AppendSrc
import Derived.Deep.MidRow
import Derived.Lib.SmallJoins
import Derived.Test.YtjggghfekakogaaGreatG18
import Derived.Test.YtjggghfekakogaaGreatG25
import Derived.Test.YtjggghfekakogaaGreatG26
import Derived.Test.YtjggghfekakogaaGreatG33
import Derived.Test.YtjggghfekakogaaGreatG35
import Derived.Test.YtjggghfekakogaaGreatG36
set_option linter.unusedVariables false
set_option linter.unusedSimpArgs false
set_option linter.unnecessarySimpa false
namespace Go.Proofs.YtjggghfekakogaaGreat
open Go.RowKit
def OwnB (w:World) (B:Nat) (v:Value) (xs:List UInt8):Prop :=
 ∃ g c,v = .slice (some ⟨g,0,none⟩) xs.length c∧B≤g∧g<w.heap.size∧xs.length≤c∧c≤maxLen∧(∀ j,j<c→(w.cell? ⟨g,j,none⟩).isSome=true∧w.frozen? ⟨g,j,none⟩=false)∧∀ j (h:j<xs.length),w.cell? ⟨g,j,none⟩=some (bv xs[j])
theorem OwnB.own {w:World} {B:Nat} {v:Value} {xs:List UInt8} (h:OwnB w B v xs) (k:Nat) (e:v.ownBlock=some k):B≤k∧k<w.heap.size:=by
 obtain ⟨g,c,rfl,h1,h2,-⟩:=h
 simp [Value.ownBlock] at e
 subst e
 exact ⟨h1,h2⟩
theorem OwnB.rd {w:World} {B:Nat} {v:Value} {xs:List UInt8} (h:OwnB w B v xs):∃ g c,v = .slice (some ⟨g,0,none⟩) xs.length c∧Rd bv w (some ⟨g,0,none⟩) xs:=by
 obtain ⟨g,c,rfl,h1,h2,h3,h4,h5,h6⟩:=h
 exact ⟨g,c,rfl,fun _=>⟨g,0,rfl,h2,fun j hj=>by rw [Nat.zero_add];exact h6 j hj⟩⟩
theorem OwnB.keep {w w':World} {B:Nat} {v:Value} {xs:List UInt8} (h:OwnB w B v xs) (hz:w.heap.size≤w'.heap.size) (hk:∀ k,v.ownBlock=some k→w'.heap[k]? = w.heap[k]?):OwnB w' B v xs:=by
 obtain ⟨g,c,rfl,h1,h2,h3,h4,h5,h6⟩:=h
 have hg:=hk g rfl
 have e1:∀ j,w'.cell? ⟨g,j,none⟩=w.cell? ⟨g,j,none⟩:=fun j=>World.cell?_of_block (a:=⟨g,j,none⟩) hg
 have e2:∀ j,w'.frozen? ⟨g,j,none⟩=w.frozen? ⟨g,j,none⟩:=fun j=>World.frozen?_of_block (a:=⟨g,j,none⟩) hg
 exact ⟨g,c,rfl,h1,by omega,h3,h4,fun j hj=>by rw [e1,e2];exact h5 j hj,fun j hj=>by rw [e1];exact h6 j hj⟩
theorem OwnB.nx {w w':World} {B:Nat} {v:Value} {xs:List UInt8} (h:OwnB w B v xs) (hn:Nx w w'):OwnB w' B v xs:=h.keep hn.size fun k e=>hn.block k (h.own k e).2
structure Gb (v:Value) (w:World) (v':Value) (w':World):Prop where
 os:w'.os=w.os
 tape:w'.tape=w.tape
 output:w'.output=w.output
 size:w.heap.size≤w'.heap.size
 block:∀ k,k<w.heap.size→v.ownBlock≠some k→w'.heap[k]? = w.heap[k]?
theorem Gb.to {v v':Value} {w w1 w':World} (h:Gb v w1 v' w') (hn:Nx w w1) (hv:∀ k,v.ownBlock=some k→w.heap.size≤k):Nx w w' :=
 ⟨h.os.trans hn.os,h.tape.trans hn.tape,h.output.trans hn.output,Nat.le_trans hn.size h.size,fun k hk=>(h.block k (Nat.lt_of_lt_of_le hk hn.size) (fun e=>by have:=hv k e;omega)).trans (hn.block k hk)⟩
theorem wpList_bytesB {P:Program} (w:World) {ops:Array Oper} {rest:List Oper} {o:Oper} {a:Act} {Q:Exit→Act→World→Prop} {src dst e:TypeId} (hgd:o.guard=none) (x:Operand) (ho:o.op = .convert src dst x) (hs:P.underlying src=some .string) (hd:P.underlying dst=some (.slice e)) (he:P.underlying e=some (.int .u8))
  (s:ByteArray) (l:List UInt8) (hl:Tx s l) (hx:a.eval x = .string s) (hm:l.length≤maxLen)
  (h:∀ v w',OwnB w' w.heap.size v l→Nx w w'→wpList P ops Q rest (a.put o.dst v) w'):wpList P ops Q (o :: rest) a w:=by
 refine wpList_plain hgd fun K hK=>?_
 have hrun:=Lib.run_convert_string_bytes (P:=P) w src dst e s hs hd he
 have hn:Nx w (Lib.bytesWorld w e s):=Joins.below_bytesWorld _ w e s (Nat.le_refl _)
 have hsz:s.size=l.length:=hl.size
 have hge:=grownCap_ge w s.size 0 e
 have hcs:(Lib.bytesCells w e s).size=grownCap w s.size 0 e:=by
  unfold Lib.bytesCells
  simp
  have:s.data.size=s.size:=rfl
  omega
 have hnew:=Lib.bytesWorld_at_new w e s
 have hr:OwnB (Lib.bytesWorld w e s) w.heap.size (.slice (some ⟨w.heap.size,0,none⟩) s.size (grownCap w s.size 0 e)) l:=by
  refine ⟨w.heap.size,grownCap w s.size 0 e,by rw [hsz],Nat.le_refl _,by rw [Lib.bytesWorld_size];omega,by omega,grownCap_le_maxLen _ _ _ _ (by omega),fun j hj=>?_,fun j hj=>?_⟩
  ·rw [← hcs] at hj
   constructor
   ·simp only [World.cell?,hnew]
    simp [hj]
   ·simp only [World.frozen?,hnew]
    simp
    omega
  ·rw [Lib.bytesWorld_cell w e s j (by omega),show s.data.toList=l from hl]
   simp [bv,hj]
 have:=hK _ _ (h _ _ hr hn)
 unfold Oper.wp execOp
 simp only [ho,Sem.run_bind,Sem.run_pure,Result.andThen_ok,hx,hrun]
 exact this
end Go.Proofs.YtjggghfekakogaaGreat
namespace Go.Proofs.YtjggghfekakogaaGreat
open Go.RowKit
theorem OwnB.turned {w:World} {B g n c:Nat} {xs:List UInt8} (h:OwnB w B (.slice (some ⟨g,0,none⟩) n c) xs) (k:Nat) (hk:k<xs.length) (t:UInt8) :
  Rd bv (w.setCell ⟨g,k,none⟩ (bv t)) (some ⟨g,0,none⟩) (xs.set k t):=by
 obtain ⟨g',c',e,h1,h2,h3,h4,h5,h6⟩:=h
 injection e with e1 e2 e3
 injection e1 with e1
 obtain rfl:g=g':=by injection e1
 intro _
 refine ⟨g,0,rfl,by simpa [World.setCell] using h2,fun j hj=>?_⟩
 have hj':j<xs.length:=by simpa using hj
 rw [Nat.zero_add,List.getElem_set]
 by_cases hjk:k=j
 ·subst hjk
  rw [if_pos rfl]
  exact World.cell?_setCell_same' _ _ _ (by rw [h6 k hj'];rfl)
 ·have hne:(⟨g,k,none⟩:Addr)≠⟨g,j,none⟩:=fun e=>hjk (congrArg Addr.off e)
  rw [if_neg hjk,World.cell?_setCell_other _ _ _ _ hne,h6 j hj']
set_option maxRecDepth 100000 in
set_option maxHeartbeats 6400000 in
theorem TokenMade_walk (A:Option Addr) (xs:List UInt8) (c:Nat) (at_ tb:Int) (turn:Bool) (w:World) (hm:MaxC w) (hr:Rd bv w A xs) (hc1:xs.length≤c) (hc2:c≤maxLen) (ha1:0≤at_) (ha2:at_≤65535) (ht1:0≤tb) (ht2:tb≤255) :
  Calls Tryz.prog 3 #[.slice A xs.length c,.int .u16 at_,.int .u8 tb,.bool turn] w fun e w'=>e = .returned (.bool true)∧Below w.heap.size w w':=by
 obtain ⟨an,rfl⟩:=Int.eq_ofNat_of_zero_le ha1
 obtain ⟨t8,rfl⟩:∃ t8:UInt8,tb=(t8.toNat:Int):=⟨UInt8.ofNat tb.toNat,by rw [UInt8.toNat_ofNat'];omega⟩
 have HM:=Lib.hid hm
 have HR:=Lib.hid hr
 clear ha1 ht1 ht2
 obtain ⟨n,hn⟩:∃ n,xs.length=n:=⟨_,rfl⟩
 clear hm hr
 go_enter Tryz.func3,Tryz.ntmps3
 go_wp2_with fail
 refine (begun_any _ HM.out).mono ?_;rintro e w0 ⟨rfl,hb⟩
 by_cases h100:100<xs.length
 ·have g1:decide ((xs.length:Int) > 100)=true:=decide_eq_true (by omega)
  have g2:(100:Int)<(xs.length:Int):=by omega
  clear h100 hc1 hc2 hn
  go_wp2_with fail
  go_ret
  exact ⟨rfl,hb⟩
 ·have g1:decide ((xs.length:Int) > 100)=false:=decide_eq_false (by omega)
  have g2:¬ (100:Int)<(xs.length:Int):=by omega
  have hx:xs.length≤1000:=by omega
  have HB0:=Lib.hid hb
  clear h100 hb hn
  go_wp2_with fail
  refine (plMade_any A xs c w0 (HR.out.below HB0.out) hx).mono ?_;rintro e w1 ⟨b,rfl,hpk,hn1,hbb⟩
  have HN1:=Lib.hid hn1
  have HBB:=Lib.hid hbb
  have HPK:=Lib.hid hpk
  clear hpk hn1 hbb hc1 hc2 hx g1 g2
  go_wp2_with fail
  refine (plFiles_any b xs w1 HPK.out).mono ?_;rintro e w2 ⟨v,rfl,fls,r',hlf,hpf,-,hoth⟩
  obtain ⟨sh,hsh,hshl⟩:=sh_ex
  have hL:LenN tenS sh:=⟨tenS_len20,fun B _=>hshl B⟩
  obtain ⟨h0,h2,hin⟩:=files_in hL hpf
  obtain ⟨g,fc,⟨xi,xs',xd⟩,rfl,hg,hcell,hrf⟩:=files_first hlf h0
  obtain ⟨hok,hpl⟩:=hin _ (List.getElem_mem h0)
  generalize fls[0]=f0 at hrf hok hpl
  obtain ⟨F,hF⟩:∃ F,Hid (printF tenS sh f0=F):=⟨_,Lib.hid rfl⟩
  have hcall:=docPrint_any (prN_is hsh) w2 _ ⟨xi,xs',xd⟩ f0 hrf hok (by rw [hF.out] at hpl ⊢;omega)
  rw [hF.out] at hcall hpl
  have HC:=Lib.hid hcall
  have c0:w2.cell? ⟨g,0,none⟩=some xi:=hcell 0 (by decide)
  have c1:w2.cell? ⟨g,1,none⟩=some xs':=hcell 1 (by decide)
  have c2:w2.cell? ⟨g,2,none⟩=some xd:=hcell 2 (by decide)
  have hfl:(0:Int)<(fls.length:Int):=by omega
  have HNX2:Hid (Nx w w2):=Nx.trans HB0.out (hoth.to HN1.out HBB.out)
  have HPL:=Lib.hid hpl
  clear hlf hpf hin hok hcell hrf hcall h0 h2 hL hsh hshl hoth hF hpl HN1 HBB HPK HB0
  go_wp2_with fail
  refine HC.out.mono ?_;rintro e w3 ⟨rfl,hn3⟩
  have HN3:=Lib.hid (HNX2.out.trans hn3)
  obtain ⟨S,hS⟩:∃ S:ByteArray,(⟨F.toArray⟩:ByteArray)=S:=⟨_,rfl⟩
  have HTS:Hid (Tx S F):=by rw [← hS];exact Tx.of F
  rw [hS]
  clear hS hn3 c0 c1 c2 hfl HNX2 HC hg
  go_upto_region 6 with (refine wpList_bytesB _ rfl _ rfl Tryz.underlying9 Tryz.underlying22 Tryz.underlying5 S F HTS.out rfl (by have:=HPL.out;unfold maxLen;omega) ?_;intro v4 w4 hown4 hn4;have HOW4:=Lib.hid hown4;have HN4:=Lib.hid (HN3.out.trans hn4);clear hown4 hn4)
  have hbel:Hid (w.heap.size≤w4.heap.size):=HN4.out.size
  obtain ⟨g,cp,rfl,k1,k2,k3,k4,k5,k6⟩:=HOW4.out
  have HK5:=Lib.hid k5
  have HG:Hid (w.heap.size≤g∧g<w4.heap.size):=⟨Nat.le_trans HN3.out.size k1,k2⟩
  have hFI:(F.length:Int)≤40000:=by have:=HPL.out;omega
  have hcpI:F.length≤cp:=k3
  clear k1 k2 k4 k5 k6 hbel
  have HRD:Hid (Rd bv w4 (some ⟨g,0,none⟩) F):=by
   obtain ⟨g',c',e,h⟩:=HOW4.out.rd
   injection e with e1
   injection e1 with e1
   injection e1 with e1
   rw [e1];exact h
  cases turn with
  | true =>
   by_cases h0:0<F.length
   ·obtain ⟨k,hk⟩:∃ k,an % F.length=k:=⟨_,rfl⟩
    have hkl:k<F.length:=by rw [← hk];exact Nat.mod_lt _ h0
    have hmod:(an:Int).tmod (F.length:Int)=(k:Int):=by rw [← Int.ofNat_tmod,hk]
    have b1:decide ((F.length:Int) > 0)=true:=decide_eq_true (by omega)
    have b2:((F.length:Int) == 0)=false:=by rw [beq_eq_false_iff_ne];omega
    have b3:¬ F.length=0:=by omega
    have b4:(k:Int)<(F.length:Int):=by omega
    have hwr:IntKind.i64.wrap (an:Int)=(an:Int):=by rw [IntKind.wrap_i64];omega
    have f1:w4.frozen? ⟨g,k,none⟩=false:=(HK5.out k (by omega)).2
    have f2:∃ u,w4.cell? ⟨g,k,none⟩=some (bv u):=by
     obtain ⟨g',c',e,_,_,_,_,_,h6⟩:=HOW4.out
     injection e with e1
     injection e1 with e1
     injection e1 with e1
     rw [e1];exact ⟨_,h6 k hkl⟩
    obtain ⟨u,f2⟩:=f2
    unfold bv at f2
    have HRL:Hid (Rd bv (w4.setCell ⟨g,k,none⟩ (bv t8)) (some ⟨g,0,none⟩) (F.set k t8)):=HOW4.out.turned k hkl t8
    have HNL:Hid (Nx w (w4.setCell ⟨g,k,none⟩ (bv t8))):=HN4.out.put' HG.out.1 k _
    obtain ⟨LL,hLL⟩:∃ LL,F.set k t8=LL:=⟨_,rfl⟩
    have HLL:Hid (LL.length=F.length):=by unfold Hid;rw [← hLL];simp
    rw [hLL] at HRL
    rw [bv_eq] at HRL HNL
    clear hk h0 hLL HRD HOW4 HK5 HN4
    go_upto_region 8 with fail
    generalize World.setCell w4 _ _=wl at *
    clear f1 f2
    go_wp2_with (refine wpList_str _ (o:=⟨some 44,_,_,_,_,_⟩) rfl _ rfl Tryz.underlying22 Tryz.underlying5 Tryz.underlying9 _ LL cp (by rw [HLL.out];rfl) HRL.out ?_;intro s1 HS1 hs1 hs1')
    have HTX1:Hid (Tx s1 LL):=by rw [HS1.out];exact Tx.of LL
    clear HS1 hs1 hs1'
    refine (lex_any s1 LL _ HTX1.out (by have:=HLL.out;omega) (HM.out.nx HNL.out)).mono ?_;rintro e w5 ⟨v1,rfl,hv1,hw1⟩
    have HRL5:=Lib.hid (HRL.out.below hw1)
    have HV1:=Lib.hid hv1
    have HNL5:=Lib.hid (HNL.out.trans hw1)
    clear hv1 hw1 HRL HNL HTX1
    go_wp2_with (refine wpList_str _ (o:=⟨some 51,_,_,_,_,_⟩) rfl _ rfl Tryz.underlying22 Tryz.underlying5 Tryz.underlying9 _ LL cp (by rw [HLL.out];rfl) HRL5.out ?_;intro s2 HS2 hs2 hs2')
    have HTX2:Hid (Tx s2 LL):=by rw [HS2.out];exact Tx.of LL
    clear HS2 hs2 hs2'
    refine (refLex_any s2 LL _ HTX2.out (by have:=HLL.out;omega)).mono ?_;rintro e w6 ⟨v2,rfl,hv2,hw2⟩
    have hv1:=HV1.out
    have hlen:=lexS_length LL
    obtain ⟨R,hR⟩:∃ R,Hid (lexS LL=R):=⟨_,rfl⟩
    rw [hR.out] at hv1 hv2 hlen ⊢
    obtain ⟨ts,re,rat⟩:=R
    dsimp only at hv1 hv2 hlen ⊢
    have hn2:=Nx.trans HNL5.out hw2
    obtain ⟨A1,c1,rfl,hc1,hc2,hr⟩:=hv1.sl
    obtain ⟨A',c',rfl,hc1',hc2',hr'⟩:=hv2.sl
    have HRa:=Lib.hid (hr.nx hw2)
    have HRb:=Lib.hid hr'
    have HN6:=Lib.hid hn2
    have hts:(ts.length:Int)≤100000:=by omega
    clear hv1 hv2 hr hr' HV1 HTX2 hlen hn2 hw2 HNL5 HRL5
    go_wp2_with fail
    refine (refSame_any A1 A' c1 c' ts w6 hc1 hc1' hc2 hc2' HRa.out HRb.out hts).mono ?_;rintro e w7 ⟨rfl,hw3⟩
    go_wp2_with fail
    go_ret
    exact ⟨rfl,Nx.trans HN6.out hw3⟩
   ·have b1:decide ((F.length:Int) > 0)=false:=decide_eq_false (by omega)
    have b3:F.length=0:=by omega
    have HRL:=HRD
    have HNL:=HN4
    obtain ⟨LL,hLL⟩:∃ LL,LL=F:=⟨_,rfl⟩
    have HLL:Hid (LL.length=F.length):=by unfold Hid;rw [hLL]
    rw [← hLL] at HRL
    clear h0 hLL HRD HOW4 HK5 HN4
    go_upto_region 8 with fail
    clear b1 b3
    go_wp2_with (refine wpList_str _ (o:=⟨some 44,_,_,_,_,_⟩) rfl _ rfl Tryz.underlying22 Tryz.underlying5 Tryz.underlying9 _ LL cp (by rw [HLL.out];rfl) HRL.out ?_;intro s1 HS1 hs1 hs1')
    have HTX1:Hid (Tx s1 LL):=by rw [HS1.out];exact Tx.of LL
    clear HS1 hs1 hs1'
    refine (lex_any s1 LL _ HTX1.out (by have:=HLL.out;omega) (HM.out.nx HNL.out)).mono ?_;rintro e w5 ⟨v1,rfl,hv1,hw1⟩
    have HRL5:=Lib.hid (HRL.out.below hw1)
    have HV1:=Lib.hid hv1
    have HNL5:=Lib.hid (HNL.out.trans hw1)
    clear hv1 hw1 HRL HNL HTX1
    go_wp2_with (refine wpList_str _ (o:=⟨some 51,_,_,_,_,_⟩) rfl _ rfl Tryz.underlying22 Tryz.underlying5 Tryz.underlying9 _ LL cp (by rw [HLL.out];rfl) HRL5.out ?_;intro s2 HS2 hs2 hs2')
    have HTX2:Hid (Tx s2 LL):=by rw [HS2.out];exact Tx.of LL
    clear HS2 hs2 hs2'
    refine (refLex_any s2 LL _ HTX2.out (by have:=HLL.out;omega)).mono ?_;rintro e w6 ⟨v2,rfl,hv2,hw2⟩
    have hv1:=HV1.out
    have hlen:=lexS_length LL
    obtain ⟨R,hR⟩:∃ R,Hid (lexS LL=R):=⟨_,rfl⟩
    rw [hR.out] at hv1 hv2 hlen ⊢
    obtain ⟨ts,re,rat⟩:=R
    dsimp only at hv1 hv2 hlen ⊢
    have hn2:=Nx.trans HNL5.out hw2
    obtain ⟨A1,c1,rfl,hc1,hc2,hr⟩:=hv1.sl
    obtain ⟨A',c',rfl,hc1',hc2',hr'⟩:=hv2.sl
    have HRa:=Lib.hid (hr.nx hw2)
    have HRb:=Lib.hid hr'
    have HN6:=Lib.hid hn2
    have hts:(ts.length:Int)≤100000:=by omega
    clear hv1 hv2 hr hr' HV1 HTX2 hlen hn2 hw2 HNL5 HRL5
    go_wp2_with fail
    refine (refSame_any A1 A' c1 c' ts w6 hc1 hc1' hc2 hc2' HRa.out HRb.out hts).mono ?_;rintro e w7 ⟨rfl,hw3⟩
    go_wp2_with fail
    go_ret
    exact ⟨rfl,Nx.trans HN6.out hw3⟩
  | false =>
   have HRL:=HRD
   have HNL:=HN4
   obtain ⟨LL,hLL⟩:∃ LL,LL=F:=⟨_,rfl⟩
   have HLL:Hid (LL.length=F.length):=by unfold Hid;rw [hLL]
   rw [← hLL] at HRL
   clear hLL HRD HOW4 HK5 HN4
   go_wp2_with (refine wpList_str _ (o:=⟨some 44,_,_,_,_,_⟩) rfl _ rfl Tryz.underlying22 Tryz.underlying5 Tryz.underlying9 _ LL cp (by rw [HLL.out];rfl) HRL.out ?_;intro s1 HS1 hs1 hs1')
   have HTX1:Hid (Tx s1 LL):=by rw [HS1.out];exact Tx.of LL
   clear HS1 hs1 hs1'
   refine (lex_any s1 LL _ HTX1.out (by have:=HLL.out;omega) (HM.out.nx HNL.out)).mono ?_;rintro e w5 ⟨v1,rfl,hv1,hw1⟩
   have HRL5:=Lib.hid (HRL.out.below hw1)
   have HV1:=Lib.hid hv1
   have HNL5:=Lib.hid (HNL.out.trans hw1)
   clear hv1 hw1 HRL HNL HTX1
   go_wp2_with (refine wpList_str _ (o:=⟨some 51,_,_,_,_,_⟩) rfl _ rfl Tryz.underlying22 Tryz.underlying5 Tryz.underlying9 _ LL cp (by rw [HLL.out];rfl) HRL5.out ?_;intro s2 HS2 hs2 hs2')
   have HTX2:Hid (Tx s2 LL):=by rw [HS2.out];exact Tx.of LL
   clear HS2 hs2 hs2'
   refine (refLex_any s2 LL _ HTX2.out (by have:=HLL.out;omega)).mono ?_;rintro e w6 ⟨v2,rfl,hv2,hw2⟩
   have hv1:=HV1.out
   have hlen:=lexS_length LL
   obtain ⟨R,hR⟩:∃ R,Hid (lexS LL=R):=⟨_,rfl⟩
   rw [hR.out] at hv1 hv2 hlen ⊢
   obtain ⟨ts,re,rat⟩:=R
   dsimp only at hv1 hv2 hlen ⊢
   have hn2:=Nx.trans HNL5.out hw2
   obtain ⟨A1,c1,rfl,hc1,hc2,hr⟩:=hv1.sl
   obtain ⟨A',c',rfl,hc1',hc2',hr'⟩:=hv2.sl
   have HRa:=Lib.hid (hr.nx hw2)
   have HRb:=Lib.hid hr'
   have HN6:=Lib.hid hn2
   have hts:(ts.length:Int)≤100000:=by omega
   clear hv1 hv2 hr hr' HV1 HTX2 hlen hn2 hw2 HNL5 HRL5
   go_wp2_with fail
   refine (refSame_any A1 A' c1 c' ts w6 hc1 hc1' hc2 hc2' HRa.out HRb.out hts).mono ?_;rintro e w7 ⟨rfl,hw3⟩
   go_wp2_with fail
   go_ret
   exact ⟨rfl,Nx.trans HN6.out hw3⟩
end Go.Proofs.YtjggghfekakogaaGreat
