/- The contract of definitions. -/
import Derived.Test.YtpbjkgpdkopgmaaGreatDoorG26
set_option linter.unusedVariables false
set_option linter.unusedSimpArgs false
set_option linter.unnecessarySimpa false
namespace Go.Proofs.YtpbjkgpdkopgmaaGreatDoor
open Go.RowKit
section
variable {b c:Nat} {A:Option Addr} {ws:List TokV}
theorem body3 (nm ty:List UInt8) (s:PSt):bodyP ws 3 nm ty s=(⟨3,nm,ty,(conP ws 12 (needP ws [61] s)).1,[],[],[],[]⟩,(conP ws 12 (needP ws [61] s)).2):=by
 unfold bodyP;rw [if_pos rfl]
theorem body2 (nm ty:List UInt8) (s:PSt):bodyP ws 2 nm ty s=(⟨2,nm,ty,con0,[],(elemsP ws (atPlainP ws) 30 (memP ws) (ws.length+1) [] (needP ws [123] s)).1,[],[]⟩,needP ws [125] (elemsP ws (atPlainP ws) 30 (memP ws) (ws.length+1) [] (needP ws [123] s)).2):=by
 unfold bodyP;rw [if_neg (by decide),if_pos rfl]
theorem body4 (k:Nat) (hk:k=4∨k=5∨k=6) (nm ty:List UInt8) (s:PSt):bodyP ws k nm ty s=(⟨k,nm,ty,con0,(fieldsP ws 123 125 s).1,[],[],[]⟩,(fieldsP ws 123 125 s).2):=by
 unfold bodyP;rw [if_neg (by omega),if_neg (by omega),if_pos hk]
theorem body7 (nm ty:List UInt8) (s:PSt):bodyP ws 7 nm ty s =
    (let x:=if isP ws kExtends s then qualN ws (nextP s) else ([],s)
     let l:=elemsP ws (atMetP ws) 30 (metP ws) (ws.length+1) [] (needP ws [123] x.2)
     (⟨7,nm,ty,con0,[],[],x.1,l.1⟩,needP ws [125] l.2)):=by
  unfold bodyP;rw [if_neg (by decide),if_neg (by decide),if_neg (by decide),if_pos rfl]
theorem body1 (nm ty:List UInt8) (s:PSt):bodyP ws 1 nm ty s=(⟨1,nm,ty,con0,[],[],[],[]⟩,s):=by
 unfold bodyP;rw [if_neg (by decide),if_neg (by decide),if_neg (by decide),if_neg (by decide)]
def DefSt (b c:Nat) (A:Option Addr) (ws:List TokV) (g:Nat) (w:World) (s:PSt) (K:Nat) (ln lt:List UInt8) (y:Dfn) (wx:World):Prop :=
 ∃ (xk:Nat) (xn:Int) (xd:Nat) (xs:List UInt8) (xA:Option Addr) (xm xc:Nat) (fA:Option Addr) (fm fc:Nat) (mA:Option Addr) (mm mc:Nat) (le:List UInt8) (sA:Option Addr) (sm sc:Nat),
  St b c A ws g 73 w s #[.int .i64 (K:Int),.string ⟨ln.toArray⟩,.string ⟨lt.toArray⟩,.int .i64 (xk:Int),.int .i64 xn,.int .u64 (xd:Int),.string ⟨xs.toArray⟩,.slice xA xm xc,.slice fA fm fc,.slice mA mm mc,.string ⟨le.toArray⟩,.slice sA sm sc] wx ∧
  RD wx (Fm (g+1)) ⟨K,ln,lt,⟨xk,xn,xd,xs,.slice xA xm xc⟩,.slice fA fm fc,.slice mA mm mc,le,.slice sA sm sc⟩ y
set_option maxRecDepth 100000 in
set_option maxHeartbeats 12800000 in
theorem def_any {E:World→Prop}:ReadC vluD RD b c A ws E 58 #[.pointer (some ⟨b,0,none⟩)] (atDefP ws) (defP ws):=by
 intro w s h0 _ hp y s' hr
 have HTY:Hid (∀ (w:World) (s:PSt),PC w b A c ws s→∀ (l:List UInt8) (s':PSt),typeP ws 12 s=(l,s') →
   Calls Tryz.prog 96 #[.pointer (some ⟨b,0,none⟩),.int .i64 1] w fun e w'=>e = .returned (.string ⟨l.toArray⟩)∧PC w' b A c ws s'∧Oth b w w'):=fun w s h l s' hr=>type_any h l s' hr
 have hmf:∀ (fn:Fn) (first cap:Array Value) (w:World),(Instr.makeFunc fn first cap).run Tryz.prog w = .ok (.func fn first cap) w:=fun fn first cap w=>makeFunc_run fn first cap w
 obtain ⟨⟨tk,tt,tn,td,tp⟩,hT⟩:∃ T,Hid (wordP ws s=T):=⟨_,rfl⟩
 obtain ⟨K,hK⟩:∃ K,Hid (defK tt=K):=⟨_,rfl⟩
 have HK7:Hid (1≤K∧K≤7):=by
  have h1:=defK_le tt
  rw [hK.out] at h1
  have h2:=hp
  unfold atDefP at h2
  rw [hT.out] at h2
  simp only [Bool.and_eq_true,decide_eq_true_eq] at h2
  rw [hK.out] at h2
  unfold Hid
  omega
 have HK:Hid (s.e=0→(ws.getD s.i tok0).k≠6):=by
  unfold atDefP atNameP at hp
  rw [hT.out] at hp
  simp only [Bool.and_eq_true,decide_eq_true_eq] at hp
  exact word_k (k:=1) (by rw [hT.out];exact hp.1) (by decide)
 obtain ⟨⟨lt,s2⟩,h2⟩:∃ r,Hid ((if K=1∨K=3 then typeP ws 12 (nextP s) else ([],nextP s))=r):=⟨_,rfl⟩
 obtain ⟨⟨ln,s3⟩,h3⟩:∃ r,Hid (plainN ws s2=r):=⟨_,rfl⟩
 have HR:Hid (bodyP ws K ln lt s3=(y,s')):=by
  unfold Hid;rw [← hr];unfold defP;dsimp only;rw [hT.out];dsimp only;rw [hK.out,h2.out];dsimp only;rw [h3.out]
 obtain ⟨g,hg⟩:∃ g,w.heap.size=g:=⟨_,rfl⟩
 have HS1:Hid (St b c A ws g 73 w s #[.int .i64 0,.string ⟨#[]⟩,.string ⟨#[]⟩,.int .i64 0,.int .i64 0,.int .u64 0,.string ⟨#[]⟩,.slice none 0 0,.slice none 0 0,.slice none 0 0,.string ⟨#[]⟩,.slice none 0 0] (w.alloc (.cells #[.int .i64 0,.string ⟨#[]⟩,.string ⟨#[]⟩,.int .i64 0,.int .i64 0,.int .u64 0,.string ⟨#[]⟩,.slice none 0 0,.slice none 0 0,.slice none 0 0,.string ⟨#[]⟩,.slice none 0 0] 73))):=St.new h0 hg
 have F1:∀ w1,(Instr.field 92 (.agg #[.int .i64 (tk:Int),.string ⟨tt.toArray⟩,.int .i64 tn,.int .u64 (td:Int),.int .i64 (tp:Int)]) 1).run Tryz.prog w1 = .ok (.string ⟨tt.toArray⟩) w1:=fun w1=>(tok_field _ _ _ _ _ w1).2.1
 clear h0 hr hp
 go_enter Tryz.func58,Tryz.ntmps58
 go_upto_region 1 with (fail)
 generalize World.alloc w _=w1 at *
 clear hg
 go_wp2_with fail
 refine (next_any HS1.out.pc HK.out _ _ _ _ _ hT.out).mono ?_;rintro e w2 ⟨rfl,hp2,ho2⟩
 have HS2:=Lib.hid (HS1.out.step hp2 ho2)
 clear hp2 ho2
 go_wp2_with fail
 refine (definition_any w2 _ tt (Tx.of tt) K hK.out).mono ?_;rintro e w3 ⟨rfl,rfl⟩
 have c0:w3.cell? ⟨g,0,none⟩=some (.int .i64 0):=HS2.out.ce 0
 have f0:=HS2.out.fr 0
 have HS3:Hid (St b c A ws g 73 w (nextP s) #[.int .i64 (K:Int),.string ⟨#[]⟩,.string ⟨#[]⟩,.int .i64 0,.int .i64 0,.int .u64 0,.string ⟨#[]⟩,.slice none 0 0,.slice none 0 0,.slice none 0 0,.string ⟨#[]⟩,.slice none 0 0] (w3.setCell ⟨g,0,none⟩ (.int .i64 (K:Int)))):=HS2.out.put 0 _ rfl
 clear F1
 go_upto_region 2 with (fail)
 generalize World.setCell w3 _ _=w4 at *
 clear c0 f0
 have c0:w4.cell? ⟨g,0,none⟩=some (.int .i64 (K:Int)):=HS3.out.ce 0
 obtain ⟨Q1,hQ1⟩:∃ B,Hid (((K:Int) == 1)=B):=⟨_,rfl⟩
 obtain ⟨Q3,hQ3⟩:∃ B,Hid (((K:Int) == 3)=B):=⟨_,rfl⟩
 obtain ⟨Q,hQ⟩:∃ B,Hid ((Q1 || Q3)=B):=⟨_,rfl⟩
 have HQ13:Hid ((K=1∨K=3)↔Q=true):=by unfold Hid;rw [← hQ.out,← hQ1.out,← hQ3.out];simp;omega
 go_cut [15] (fun v wx=>w4=wx∧v = .bool Q)
 case first =>
  have q1:=hQ1.out
  have q3:=hQ3.out
  cases Q1
  ·obtain rfl:Q3=Q:=hQ.out
   go_wp2_with fail
   go_meet
   case rel=>exact ⟨rfl,rfl⟩
  ·obtain rfl:true=Q:=hQ.out
   go_wp2_with fail
   go_meet
   case rel=>exact ⟨rfl,rfl⟩
 case rest =>
 obtain ⟨hwc,rfl⟩:=hcut
 subst hwc
 clear c0
 go_upto_if 15 with (fail)
 go_cut [] (fun wx=>St b c A ws g 73 w s2 #[.int .i64 (K:Int),.string ⟨#[]⟩,.string ⟨lt.toArray⟩,.int .i64 0,.int .i64 0,.int .u64 0,.string ⟨#[]⟩,.slice none 0 0,.slice none 0 0,.slice none 0 0,.string ⟨#[]⟩,.slice none 0 0] wx)
 case first =>
  cases Q
  ·have hx:=h2.out
   rw [if_neg (by rw [HQ13.out];decide)] at hx
   simp only [Prod.mk.injEq] at hx
   obtain ⟨rfl,rfl⟩:=hx
   go_wp2_with fail
   go_meet
   case rel=>exact HS3.out
  ·have hx:=h2.out
   rw [if_pos (by rw [HQ13.out])] at hx
   have HX:=Lib.hid hx
   clear hx
   go_wp2_with fail
   refine (HTY.out _ _ HS3.out.pc lt s2 HX.out).mono ?_;rintro e w5 ⟨rfl,hp5,ho5⟩
   have HS5:=Lib.hid (HS3.out.step hp5 ho5)
   clear hp5 ho5
   have c2:w5.cell? ⟨g,2,none⟩=some (.string ⟨#[]⟩):=HS5.out.ce 2
   have f2:=HS5.out.fr 2
   go_wp2_with fail
   go_meet
   case rel=>exact HS5.out.put 2 _ rfl
 case rest =>
 have HS6:=Lib.hid hcut
 clear hcut
 go_wp2_with fail
 refine (plainN_any HS6.out.pc ln s3 h3.out).mono ?_;rintro e w7 ⟨rfl,hp7,ho7⟩
 have hs7:=HS6.out.step hp7 ho7
 have c1:w7.cell? ⟨g,1,none⟩=some (.string ⟨#[]⟩):=hs7.ce 1
 have f1:=hs7.fr 1
 have HS7:Hid (St b c A ws g 73 w s3 #[.int .i64 (K:Int),.string ⟨ln.toArray⟩,.string ⟨lt.toArray⟩,.int .i64 0,.int .i64 0,.int .u64 0,.string ⟨#[]⟩,.slice none 0 0,.slice none 0 0,.slice none 0 0,.string ⟨#[]⟩,.slice none 0 0] (w7.setCell ⟨g,1,none⟩ (.string ⟨ln.toArray⟩))):=hs7.put 1 _ rfl
 clear hp7 ho7 hs7
 go_upto_region 5 with (fail)
 generalize World.setCell w7 _ _=w8 at *
 clear c1 f1
 have c0:w8.cell? ⟨g,0,none⟩=some (.int .i64 (K:Int)):=HS7.out.ce 0
 go_upto_block 0 with (fail)
 go_cut [] (fun wx=>DefSt b c A ws g w s' K ln lt y wx)
 case first =>
  have hkc:K=1∨K=2∨K=3∨(K=4∨K=5∨K=6)∨K=7:=by have:=HK7.out;omega
  have HY:=HR.out
  clear c0 HR hQ hQ1 hQ3 HQ13 h2 hK
  rcases hkc with rfl | rfl | rfl | hk | rfl
  ·rw [body1] at HY
   simp only [Prod.mk.injEq] at HY
   obtain ⟨rfl,rfl⟩:=HY
   go_wp2_with fail
   go_meet
   case rel=>exact ⟨0,0,0,[],none,0,0,none,0,0,none,0,0,[],none,0,0,HS7.out,rfl,rfl,rfl,rc_con0,RepL.nil_,RepL.nil_,rfl,RepL.nil_⟩
  ·obtain ⟨⟨l1,s4⟩,h4⟩:∃ r,Hid (elemsP ws (atPlainP ws) 30 (memP ws) (ws.length+1) [] (needP ws [123] s3)=r):=⟨_,rfl⟩
   rw [body2,h4.out] at HY
   simp only [Prod.mk.injEq] at HY
   obtain ⟨rfl,rfl⟩:=HY
   go_wp2_with fail
   refine (need_any HS7.out.pc _ [123] (Tx.of _) _ rfl).mono ?_;rintro e w9 ⟨rfl,hp9,ho9⟩
   have HS9:=Lib.hid (HS7.out.step hp9 ho9)
   clear hp9 ho9
   go_wp2_with fail
   refine (elsM_any (E:=fun _=>True) stays_true (atPlainP ws) (memP ws) atPlain_at mem_any (prog_mem ws) HS9.out.pc trivial 30 (by decide) l1 s4 h4.out).mono ?_;rintro e w10 ⟨v10,rfl,hl10,hp10,ho10⟩
   obtain ⟨mA,mc,mx,rfl,-,-,-,-,-⟩:=hl10.sl memA_size
   have hs10:=HS9.out.step hp10 ho10
   have HL10:Hid (LMm w10 (Fm (g+1)) (.slice mA l1.length mc) l1):=LMm.lasts (Mv.less (by have:=HS9.out.bl.lt;omega)) hl10
   have c9:w10.cell? ⟨g,9,none⟩=some (.slice none 0 0):=hs10.ce 9
   have f9:=hs10.fr 9
   have HS10:Hid (St b c A ws g 73 w s4 #[.int .i64 ((2:Nat):Int),.string ⟨ln.toArray⟩,.string ⟨lt.toArray⟩,.int .i64 0,.int .i64 0,.int .u64 0,.string ⟨#[]⟩,.slice none 0 0,.slice none 0 0,.slice mA l1.length mc,.string ⟨#[]⟩,.slice none 0 0] (w10.setCell ⟨g,9,none⟩ (.slice mA l1.length mc))):=hs10.put 9 _ rfl
   clear hs10 hp10 ho10 hl10
   go_wp2_with fail
   refine (need_any HS10.out.pc _ [125] (Tx.of _) _ rfl).mono ?_;rintro e w11 ⟨rfl,hp11,ho11⟩
   have HS11:=Lib.hid (HS10.out.step hp11 ho11)
   have HL11:=Lib.hid (LMm.lasts (Mv.oth ho11 (Nat.le_refl _) (by have:=HS10.out.hb;omega)) (LMm.lasts (Mv.oth (Oth.set w10 g 9 (.slice mA l1.length mc)) (Nat.le_refl _) (Nat.lt_succ_self _)) HL10.out))
   clear hp11 ho11 c9 f9
   go_wp2_with fail
   go_meet
   case rel=>exact ⟨0,0,0,[],none,0,0,none,0,0,mA,l1.length,mc,[],none,0,0,HS11.out,rfl,rfl,rfl,rc_con0,RepL.nil_,HL11.out,rfl,RepL.nil_⟩
  ·obtain ⟨⟨yc,s4⟩,h4⟩:∃ r,Hid (conP ws 12 (needP ws [61] s3)=r):=⟨_,rfl⟩
   rw [body3,h4.out] at HY
   simp only [Prod.mk.injEq] at HY
   obtain ⟨rfl,rfl⟩:=HY
   go_wp2_with fail
   refine (need_any HS7.out.pc _ [61] (Tx.of _) _ rfl).mono ?_;rintro e w9 ⟨rfl,hp9,ho9⟩
   have HS9:=Lib.hid (HS7.out.step hp9 ho9)
   clear hp9 ho9
   go_wp2_with fail
   refine (con_any HS9.out.pc yc s4 h4.out).mono ?_;rintro e w12 ⟨⟨xk,xn,xd,xs,xl⟩,rfl,hr12,hp12,ho12⟩
   obtain ⟨xy,-,xh⟩:=RC.of hr12
   obtain ⟨xA,xc,-,rfl,-,-,-,-,-⟩:=xh.sl conA_size
   clear xh
   rw [show vluC ⟨xk,xn,xd,xs,.slice xA xy.length xc⟩ = .agg #[.int .i64 (xk:Int),.int .i64 xn,.int .u64 (xd:Int),.string ⟨xs.toArray⟩,.slice xA xy.length xc] from rfl]
   have hs12:=HS9.out.step hp12 ho12
   have c3:w12.cell? ⟨g,3,none⟩=some (.int .i64 0):=hs12.ce 3
   have c4:w12.cell? ⟨g,4,none⟩=some (.int .i64 0):=hs12.ce 4
   have c5:w12.cell? ⟨g,5,none⟩=some (.int .u64 0):=hs12.ce 5
   have c6:w12.cell? ⟨g,6,none⟩=some (.string ⟨#[]⟩):=hs12.ce 6
   have c7:w12.cell? ⟨g,7,none⟩=some (.slice none 0 0):=hs12.ce 7
   have f3:=hs12.fr 3
   have f4:=hs12.fr 4
   have f5:=hs12.fr 5
   have f6:=hs12.fr 6
   have f7:=hs12.fr 7
   have HS13:=Lib.hid hs12
   have HR12:Hid (RC 13 w12 (Fm (g+1)) ⟨xk,xn,xd,xs,.slice xA xy.length xc⟩ yc):=RC.lasts _ (Mv.less (by have:=HS9.out.bl.lt;omega)) hr12
   clear hs12 hp12 ho12 hr12
   go_wp2_with fail
   go_meet
   case rel =>
    have HS14_0:St b c A ws g 73 w s4 #[.int .i64 ((3:Nat):Int),.string ⟨ln.toArray⟩,.string ⟨lt.toArray⟩,.int .i64 (xk:Int),.int .i64 0,.int .u64 0,.string ⟨#[]⟩,.slice none 0 0,.slice none 0 0,.slice none 0 0,.string ⟨#[]⟩,.slice none 0 0] _:=HS13.out.put 3 (.int .i64 (xk:Int)) rfl
    have HS14_1:St b c A ws g 73 w s4 #[.int .i64 ((3:Nat):Int),.string ⟨ln.toArray⟩,.string ⟨lt.toArray⟩,.int .i64 (xk:Int),.int .i64 xn,.int .u64 0,.string ⟨#[]⟩,.slice none 0 0,.slice none 0 0,.slice none 0 0,.string ⟨#[]⟩,.slice none 0 0] _:=HS14_0.put 4 (.int .i64 xn) rfl
    have HS14_2:St b c A ws g 73 w s4 #[.int .i64 ((3:Nat):Int),.string ⟨ln.toArray⟩,.string ⟨lt.toArray⟩,.int .i64 (xk:Int),.int .i64 xn,.int .u64 (xd:Int),.string ⟨#[]⟩,.slice none 0 0,.slice none 0 0,.slice none 0 0,.string ⟨#[]⟩,.slice none 0 0] _:=HS14_1.put 5 (.int .u64 (xd:Int)) rfl
    have HS14_3:St b c A ws g 73 w s4 #[.int .i64 ((3:Nat):Int),.string ⟨ln.toArray⟩,.string ⟨lt.toArray⟩,.int .i64 (xk:Int),.int .i64 xn,.int .u64 (xd:Int),.string ⟨xs.toArray⟩,.slice none 0 0,.slice none 0 0,.slice none 0 0,.string ⟨#[]⟩,.slice none 0 0] _:=HS14_2.put 6 (.string ⟨xs.toArray⟩) rfl
    have HS14:St b c A ws g 73 w s4 #[.int .i64 ((3:Nat):Int),.string ⟨ln.toArray⟩,.string ⟨lt.toArray⟩,.int .i64 (xk:Int),.int .i64 xn,.int .u64 (xd:Int),.string ⟨xs.toArray⟩,.slice xA xy.length xc,.slice none 0 0,.slice none 0 0,.string ⟨#[]⟩,.slice none 0 0] _:=HS14_3.put 7 (.slice xA xy.length xc) rfl
    have HW:=(Oth.refl g w12).own (i:=3) (v:=.int .i64 (xk:Int)) |>.own (i:=4) (v:=.int .i64 xn) |>.own (i:=5) (v:=.int .u64 (xd:Int)) |>.own (i:=6) (v:=.string ⟨xs.toArray⟩) |>.own (i:=7) (v:=.slice xA xy.length xc)
    exact ⟨xk,xn,xd,xs,xA,xy.length,xc,none,0,0,none,0,0,[],none,0,0,HS14,rfl,rfl,rfl,RC.lasts _ (Mv.oth HW (Nat.le_refl _) (Nat.lt_succ_self _)) HR12.out,RepL.nil_,RepL.nil_,rfl,RepL.nil_⟩
  ·obtain ⟨⟨l1,s4⟩,h4⟩:∃ r,Hid (fieldsP ws 123 125 s3=r):=⟨_,rfl⟩
   rw [body4 K hk,h4.out] at HY
   simp only [Prod.mk.injEq] at HY
   obtain ⟨rfl,rfl⟩:=HY
   have b2:((K:Int) == 2)=false:=by rw [beq_eq_false_iff_ne];omega
   have b3:((K:Int) == 3)=false:=by rw [beq_eq_false_iff_ne];omega
   obtain ⟨R4,hR4⟩:∃ B,Hid (((K:Int) == 4)=B):=⟨_,rfl⟩
   obtain ⟨R5,hR5⟩:∃ B,Hid (((K:Int) == 5)=B):=⟨_,rfl⟩
   have b4:=hR4.out
   have b5:=hR5.out
   have HK456:Hid (R4=true∨R5=true∨(R4=false∧R5=false∧((K:Int) == 6)=true)):=by
    rcases hk with rfl | rfl | rfl
    ·exact .inl (hR4.out ▸ rfl)
    ·exact .inr (.inl (hR5.out ▸ rfl))
    ·exact .inr (.inr ⟨hR4.out ▸ rfl,hR5.out ▸ rfl,rfl⟩)
   have HFS:Hid (∀ w9,St b c A ws g 73 w s3 #[.int .i64 ((K:Nat):Int),.string ⟨ln.toArray⟩,.string ⟨lt.toArray⟩,.int .i64 0,.int .i64 0,.int .u64 0,.string ⟨#[]⟩,.slice none 0 0,.slice none 0 0,.slice none 0 0,.string ⟨#[]⟩,.slice none 0 0] w9→Calls Tryz.prog 103 #[.pointer (some ⟨b,0,none⟩),.string ⟨#[123]⟩,.string ⟨#[125]⟩] w9 fun e w'=>∃ v,e = .returned v∧LF w' (Fm w9.heap.size) v l1∧PC w' b A c ws s4∧Oth b w9 w'):=fun w9 h=>fields_any h.pc _ _ 123 125 (Tx.of _) (Tx.of _) l1 s4 h4.out
   clear hk
   have fin:True:=trivial
   cases R4
   ·cases R5
    ·have b6:((K:Int) == 6)=true:=by
      rcases HK456.out with h | h | h
      ·cases h
      ·cases h
      ·exact h.2.2
     go_wp2_with fail
     refine (HFS.out _ HS7.out).mono ?_;rintro e w10 ⟨v10,rfl,hl10,hp10,ho10⟩
     obtain ⟨mA,mc,mx,rfl,-,-,-,-,-⟩:=hl10.sl fldA_size
     have hs10:=HS7.out.step hp10 ho10
     have HL10:Hid (LF w10 (Fm (g+1)) (.slice mA l1.length mc) l1):=LF.lasts (Mv.less (by have:=HS7.out.bl.lt;omega)) hl10
     have c8:w10.cell? ⟨g,8,none⟩=some (.slice none 0 0):=hs10.ce 8
     have f8:=hs10.fr 8
     have HS10:Hid (St b c A ws g 73 w s4 #[.int .i64 ((K:Nat):Int),.string ⟨ln.toArray⟩,.string ⟨lt.toArray⟩,.int .i64 0,.int .i64 0,.int .u64 0,.string ⟨#[]⟩,.slice none 0 0,.slice mA l1.length mc,.slice none 0 0,.string ⟨#[]⟩,.slice none 0 0] (w10.setCell ⟨g,8,none⟩ (.slice mA l1.length mc))):=hs10.put 8 _ rfl
     clear hs10 hp10 ho10 hl10
     go_wp2_with fail
     go_meet
     case rel=>exact ⟨0,0,0,[],none,0,0,mA,l1.length,mc,none,0,0,[],none,0,0,HS10.out,rfl,rfl,rfl,rc_con0,LF.lasts (Mv.oth (Oth.set w10 g 8 _) (Nat.le_refl _) (Nat.lt_succ_self _)) HL10.out,RepL.nil_,rfl,RepL.nil_⟩
    ·go_wp2_with fail
     refine (HFS.out _ HS7.out).mono ?_;rintro e w10 ⟨v10,rfl,hl10,hp10,ho10⟩
     obtain ⟨mA,mc,mx,rfl,-,-,-,-,-⟩:=hl10.sl fldA_size
     have hs10:=HS7.out.step hp10 ho10
     have HL10:Hid (LF w10 (Fm (g+1)) (.slice mA l1.length mc) l1):=LF.lasts (Mv.less (by have:=HS7.out.bl.lt;omega)) hl10
     have c8:w10.cell? ⟨g,8,none⟩=some (.slice none 0 0):=hs10.ce 8
     have f8:=hs10.fr 8
     have HS10:Hid (St b c A ws g 73 w s4 #[.int .i64 ((K:Nat):Int),.string ⟨ln.toArray⟩,.string ⟨lt.toArray⟩,.int .i64 0,.int .i64 0,.int .u64 0,.string ⟨#[]⟩,.slice none 0 0,.slice mA l1.length mc,.slice none 0 0,.string ⟨#[]⟩,.slice none 0 0] (w10.setCell ⟨g,8,none⟩ (.slice mA l1.length mc))):=hs10.put 8 _ rfl
     clear hs10 hp10 ho10 hl10
     go_wp2_with fail
     go_meet
     case rel=>exact ⟨0,0,0,[],none,0,0,mA,l1.length,mc,none,0,0,[],none,0,0,HS10.out,rfl,rfl,rfl,rc_con0,LF.lasts (Mv.oth (Oth.set w10 g 8 _) (Nat.le_refl _) (Nat.lt_succ_self _)) HL10.out,RepL.nil_,rfl,RepL.nil_⟩
   ·go_wp2_with fail
    refine (HFS.out _ HS7.out).mono ?_;rintro e w10 ⟨v10,rfl,hl10,hp10,ho10⟩
    obtain ⟨mA,mc,mx,rfl,-,-,-,-,-⟩:=hl10.sl fldA_size
    have hs10:=HS7.out.step hp10 ho10
    have HL10:Hid (LF w10 (Fm (g+1)) (.slice mA l1.length mc) l1):=LF.lasts (Mv.less (by have:=HS7.out.bl.lt;omega)) hl10
    have c8:w10.cell? ⟨g,8,none⟩=some (.slice none 0 0):=hs10.ce 8
    have f8:=hs10.fr 8
    have HS10:Hid (St b c A ws g 73 w s4 #[.int .i64 ((K:Nat):Int),.string ⟨ln.toArray⟩,.string ⟨lt.toArray⟩,.int .i64 0,.int .i64 0,.int .u64 0,.string ⟨#[]⟩,.slice none 0 0,.slice mA l1.length mc,.slice none 0 0,.string ⟨#[]⟩,.slice none 0 0] (w10.setCell ⟨g,8,none⟩ (.slice mA l1.length mc))):=hs10.put 8 _ rfl
    clear hs10 hp10 ho10 hl10
    go_wp2_with fail
    go_meet
    case rel=>exact ⟨0,0,0,[],none,0,0,mA,l1.length,mc,none,0,0,[],none,0,0,HS10.out,rfl,rfl,rfl,rc_con0,LF.lasts (Mv.oth (Oth.set w10 g 8 _) (Nat.le_refl _) (Nat.lt_succ_self _)) HL10.out,RepL.nil_,rfl,RepL.nil_⟩
  ·obtain ⟨B1,hB1⟩:∃ B,Hid (isP ws kExtends s3=B):=⟨_,rfl⟩
   obtain ⟨⟨le,s4⟩,h4⟩:∃ r,Hid ((if B1 then qualN ws (nextP s3) else ([],s3))=r):=⟨_,rfl⟩
   obtain ⟨⟨l1,s5⟩,h5⟩:∃ r,Hid (elemsP ws (atMetP ws) 30 (metP ws) (ws.length+1) [] (needP ws [123] s4)=r):=⟨_,rfl⟩
   rw [body7] at HY
   dsimp only at HY
   rw [hB1.out,h4.out] at HY
   dsimp only at HY
   rw [h5.out] at HY
   simp only [Prod.mk.injEq] at HY
   obtain ⟨rfl,rfl⟩:=HY
   go_wp2_with fail
   refine (take_any' HS7.out.pc _ kExtends (Tx.of _) B1 hB1.out).mono ?_;rintro e w9 ⟨rfl,hp9,ho9⟩
   have HS9:=Lib.hid (HS7.out.step hp9 ho9)
   clear hp9 ho9
   go_upto_if 54 with (fail)
   go_cut [] (fun wx=>St b c A ws g 73 w s4 #[.int .i64 ((7:Nat):Int),.string ⟨ln.toArray⟩,.string ⟨lt.toArray⟩,.int .i64 0,.int .i64 0,.int .u64 0,.string ⟨#[]⟩,.slice none 0 0,.slice none 0 0,.slice none 0 0,.string ⟨le.toArray⟩,.slice none 0 0] wx)
   case first =>
    cases B1
    ·have hx:=h4.out
     rw [if_neg (by decide)] at hx
     simp only [Prod.mk.injEq] at hx
     obtain ⟨rfl,rfl⟩:=hx
     go_wp2_with fail
     go_meet
     case rel=>exact HS9.out
    ·have HQE:Hid (qualN ws (nextP s3)=(le,s4)):=h4.out
     have HS10:Hid (St b c A ws g 73 w (nextP s3) #[.int .i64 ((7:Nat):Int),.string ⟨ln.toArray⟩,.string ⟨lt.toArray⟩,.int .i64 0,.int .i64 0,.int .u64 0,.string ⟨#[]⟩,.slice none 0 0,.slice none 0 0,.slice none 0 0,.string ⟨#[]⟩,.slice none 0 0] w9):=HS9.out
     go_wp2_with fail
     refine (qualN_any HS10.out.pc le s4 HQE.out).mono ?_;rintro e w10 ⟨rfl,hp10,ho10⟩
     have HS11:=Lib.hid (HS10.out.step hp10 ho10)
     clear hp10 ho10
     have c10:w10.cell? ⟨g,10,none⟩=some (.string ⟨#[]⟩):=HS11.out.ce 10
     have f10:=HS11.out.fr 10
     go_wp2_with fail
     go_meet
     case rel=>exact HS11.out.put 10 _ rfl
   case rest =>
   have HS12:=Lib.hid hcut
   clear hcut
   go_wp2_with fail
   refine (need_any HS12.out.pc _ [123] (Tx.of _) _ rfl).mono ?_;rintro e w13 ⟨rfl,hp13,ho13⟩
   have HS13:=Lib.hid (HS12.out.step hp13 ho13)
   clear hp13 ho13
   go_wp2_with fail
   refine (elsT_any (E:=fun _=>True) stays_true (atMetP ws) (metP ws) atMet_at met_any (prog_met ws) HS13.out.pc trivial 30 (by decide) l1 s5 h5.out).mono ?_;rintro e w14 ⟨v14,rfl,hl14,hp14,ho14⟩
   obtain ⟨mA,mc,mx,rfl,-,-,-,-,-⟩:=hl14.sl metA_size
   have hs14:=HS13.out.step hp14 ho14
   have HL14:Hid (LM w14 (Fm (g+1)) (.slice mA l1.length mc) l1):=LM.lasts (Mv.less (by have:=HS13.out.bl.lt;omega)) hl14
   have c11:w14.cell? ⟨g,11,none⟩=some (.slice none 0 0):=hs14.ce 11
   have f11:=hs14.fr 11
   have HS14:Hid (St b c A ws g 73 w s5 #[.int .i64 ((7:Nat):Int),.string ⟨ln.toArray⟩,.string ⟨lt.toArray⟩,.int .i64 0,.int .i64 0,.int .u64 0,.string ⟨#[]⟩,.slice none 0 0,.slice none 0 0,.slice none 0 0,.string ⟨le.toArray⟩,.slice mA l1.length mc] (w14.setCell ⟨g,11,none⟩ (.slice mA l1.length mc))):=hs14.put 11 _ rfl
   clear hs14 hp14 ho14 hl14
   go_wp2_with fail
   refine (need_any HS14.out.pc _ [125] (Tx.of _) _ rfl).mono ?_;rintro e w15 ⟨rfl,hp15,ho15⟩
   have HS15:=Lib.hid (HS14.out.step hp15 ho15)
   have HL15:=Lib.hid (LM.lasts (Mv.oth ho15 (Nat.le_refl _) (by have:=HS14.out.hb;omega)) (LM.lasts (Mv.oth (Oth.set w14 g 11 (.slice mA l1.length mc)) (Nat.le_refl _) (Nat.lt_succ_self _)) HL14.out))
   clear hp15 ho15 c11 f11
   go_wp2_with fail
   go_meet
   case rel=>exact ⟨0,0,0,[],none,0,0,none,0,0,none,0,0,le,mA,l1.length,mc,HS15.out,rfl,rfl,rfl,rc_con0,RepL.nil_,RepL.nil_,rfl,HL15.out⟩
 case rest =>
 obtain ⟨xk,xn,xd,xs,xA,xm,xc,fA,fm,fc,mA,mm,mc,le,sA,sm,sc,hs9,hrd9⟩:=hcut
 have c0:wc.cell? ⟨g,0,none⟩=some (.int .i64 (K:Int)):=hs9.ce 0
 have c1:wc.cell? ⟨g,1,none⟩=some (.string ⟨ln.toArray⟩):=hs9.ce 1
 have c2:wc.cell? ⟨g,2,none⟩=some (.string ⟨lt.toArray⟩):=hs9.ce 2
 have c3:wc.cell? ⟨g,3,none⟩=some (.int .i64 (xk:Int)):=hs9.ce 3
 have c4:wc.cell? ⟨g,4,none⟩=some (.int .i64 xn):=hs9.ce 4
 have c5:wc.cell? ⟨g,5,none⟩=some (.int .u64 (xd:Int)):=hs9.ce 5
 have c6:wc.cell? ⟨g,6,none⟩=some (.string ⟨xs.toArray⟩):=hs9.ce 6
 have c7:wc.cell? ⟨g,7,none⟩=some (.slice xA xm xc):=hs9.ce 7
 have c8:wc.cell? ⟨g,8,none⟩=some (.slice fA fm fc):=hs9.ce 8
 have c9:wc.cell? ⟨g,9,none⟩=some (.slice mA mm mc):=hs9.ce 9
 have c10:wc.cell? ⟨g,10,none⟩=some (.string ⟨le.toArray⟩):=hs9.ce 10
 have c11:wc.cell? ⟨g,11,none⟩=some (.slice sA sm sc):=hs9.ce 11
 have f0:=hs9.fr 0
 have f1:=hs9.fr 1
 have f2:=hs9.fr 2
 have f3:=hs9.fr 3
 have f4:=hs9.fr 4
 have f5:=hs9.fr 5
 have f6:=hs9.fr 6
 have f7:=hs9.fr 7
 have f8:=hs9.fr 8
 have f9:=hs9.fr 9
 have f10:=hs9.fr 10
 have f11:=hs9.fr 11
 have HS9:=Lib.hid hs9
 have HRD9:=Lib.hid hrd9
 clear hs9 hrd9
 go_wp2_with fail
 have HS16_0:St b c A ws g 73 w s' #[.int .i64 (K:Int),.string ⟨ln.toArray⟩,.string ⟨lt.toArray⟩,.int .i64 (xk:Int),.int .i64 xn,.int .u64 (xd:Int),.string ⟨xs.toArray⟩,.slice xA xm xc,.slice fA fm fc,.slice mA mm mc,.string ⟨le.toArray⟩,.slice sA sm sc] _:=HS9.out.put 0 (.int .i64 (K:Int)) rfl
 have HS16_1:St b c A ws g 73 w s' #[.int .i64 (K:Int),.string ⟨ln.toArray⟩,.string ⟨lt.toArray⟩,.int .i64 (xk:Int),.int .i64 xn,.int .u64 (xd:Int),.string ⟨xs.toArray⟩,.slice xA xm xc,.slice fA fm fc,.slice mA mm mc,.string ⟨le.toArray⟩,.slice sA sm sc] _:=HS16_0.put 1 (.string ⟨ln.toArray⟩) rfl
 have HS16_2:St b c A ws g 73 w s' #[.int .i64 (K:Int),.string ⟨ln.toArray⟩,.string ⟨lt.toArray⟩,.int .i64 (xk:Int),.int .i64 xn,.int .u64 (xd:Int),.string ⟨xs.toArray⟩,.slice xA xm xc,.slice fA fm fc,.slice mA mm mc,.string ⟨le.toArray⟩,.slice sA sm sc] _:=HS16_1.put 2 (.string ⟨lt.toArray⟩) rfl
 have HS16_3:St b c A ws g 73 w s' #[.int .i64 (K:Int),.string ⟨ln.toArray⟩,.string ⟨lt.toArray⟩,.int .i64 (xk:Int),.int .i64 xn,.int .u64 (xd:Int),.string ⟨xs.toArray⟩,.slice xA xm xc,.slice fA fm fc,.slice mA mm mc,.string ⟨le.toArray⟩,.slice sA sm sc] _:=HS16_2.put 3 (.int .i64 (xk:Int)) rfl
 have HS16_4:St b c A ws g 73 w s' #[.int .i64 (K:Int),.string ⟨ln.toArray⟩,.string ⟨lt.toArray⟩,.int .i64 (xk:Int),.int .i64 xn,.int .u64 (xd:Int),.string ⟨xs.toArray⟩,.slice xA xm xc,.slice fA fm fc,.slice mA mm mc,.string ⟨le.toArray⟩,.slice sA sm sc] _:=HS16_3.put 4 (.int .i64 xn) rfl
 have HS16_5:St b c A ws g 73 w s' #[.int .i64 (K:Int),.string ⟨ln.toArray⟩,.string ⟨lt.toArray⟩,.int .i64 (xk:Int),.int .i64 xn,.int .u64 (xd:Int),.string ⟨xs.toArray⟩,.slice xA xm xc,.slice fA fm fc,.slice mA mm mc,.string ⟨le.toArray⟩,.slice sA sm sc] _:=HS16_4.put 5 (.int .u64 (xd:Int)) rfl
 have HS16_6:St b c A ws g 73 w s' #[.int .i64 (K:Int),.string ⟨ln.toArray⟩,.string ⟨lt.toArray⟩,.int .i64 (xk:Int),.int .i64 xn,.int .u64 (xd:Int),.string ⟨xs.toArray⟩,.slice xA xm xc,.slice fA fm fc,.slice mA mm mc,.string ⟨le.toArray⟩,.slice sA sm sc] _:=HS16_5.put 6 (.string ⟨xs.toArray⟩) rfl
 have HS16_7:St b c A ws g 73 w s' #[.int .i64 (K:Int),.string ⟨ln.toArray⟩,.string ⟨lt.toArray⟩,.int .i64 (xk:Int),.int .i64 xn,.int .u64 (xd:Int),.string ⟨xs.toArray⟩,.slice xA xm xc,.slice fA fm fc,.slice mA mm mc,.string ⟨le.toArray⟩,.slice sA sm sc] _:=HS16_6.put 7 (.slice xA xm xc) rfl
 have HS16_8:St b c A ws g 73 w s' #[.int .i64 (K:Int),.string ⟨ln.toArray⟩,.string ⟨lt.toArray⟩,.int .i64 (xk:Int),.int .i64 xn,.int .u64 (xd:Int),.string ⟨xs.toArray⟩,.slice xA xm xc,.slice fA fm fc,.slice mA mm mc,.string ⟨le.toArray⟩,.slice sA sm sc] _:=HS16_7.put 8 (.slice fA fm fc) rfl
 have HS16_9:St b c A ws g 73 w s' #[.int .i64 (K:Int),.string ⟨ln.toArray⟩,.string ⟨lt.toArray⟩,.int .i64 (xk:Int),.int .i64 xn,.int .u64 (xd:Int),.string ⟨xs.toArray⟩,.slice xA xm xc,.slice fA fm fc,.slice mA mm mc,.string ⟨le.toArray⟩,.slice sA sm sc] _:=HS16_8.put 9 (.slice mA mm mc) rfl
 have HS16_10:St b c A ws g 73 w s' #[.int .i64 (K:Int),.string ⟨ln.toArray⟩,.string ⟨lt.toArray⟩,.int .i64 (xk:Int),.int .i64 xn,.int .u64 (xd:Int),.string ⟨xs.toArray⟩,.slice xA xm xc,.slice fA fm fc,.slice mA mm mc,.string ⟨le.toArray⟩,.slice sA sm sc] _:=HS16_9.put 10 (.string ⟨le.toArray⟩) rfl
 have HS16:St b c A ws g 73 w s' #[.int .i64 (K:Int),.string ⟨ln.toArray⟩,.string ⟨lt.toArray⟩,.int .i64 (xk:Int),.int .i64 xn,.int .u64 (xd:Int),.string ⟨xs.toArray⟩,.slice xA xm xc,.slice fA fm fc,.slice mA mm mc,.string ⟨le.toArray⟩,.slice sA sm sc] _:=HS16_10.put 11 (.slice sA sm sc) rfl
 refine bodyPost_ret (results_cell_row rfl _ _ g _ _ _ _ rfl HS16.bl.2 Tryz.underlying73 rfl (by kernel_rfl)) rfl ?_
 have HW:=(Oth.refl g wc).own (i:=0) (v:=.int .i64 (K:Int)) |>.own (i:=1) (v:=.string ⟨ln.toArray⟩) |>.own (i:=2) (v:=.string ⟨lt.toArray⟩) |>.own (i:=3) (v:=.int .i64 (xk:Int)) |>.own (i:=4) (v:=.int .i64 xn) |>.own (i:=5) (v:=.int .u64 (xd:Int)) |>.own (i:=6) (v:=.string ⟨xs.toArray⟩) |>.own (i:=7) (v:=.slice xA xm xc) |>.own (i:=8) (v:=.slice fA fm fc) |>.own (i:=9) (v:=.slice mA mm mc) |>.own (i:=10) (v:=.string ⟨le.toArray⟩) |>.own (i:=11) (v:=.slice sA sm sc)
 have hgw:w.heap.size≤g+1:=by have:=HS9.out.hg;omega
 exact ⟨⟨K,ln,lt,⟨xk,xn,xd,xs,.slice xA xm xc⟩,.slice fA fm fc,.slice mA mm mc,le,.slice sA sm sc⟩,rfl,RD.lasts (Mv.oth HW hgw (Nat.lt_succ_self _)) HRD9.out,HS16.pc,HS16.ot⟩
end
end Go.Proofs.YtpbjkgpdkopgmaaGreatDoor
