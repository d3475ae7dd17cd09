/- The contracts of add, at each type. -/
import Derived.Test.YtpbjkgpdkopgmaaGreatDoorG20
set_option linter.unusedVariables false
set_option linter.unusedSimpArgs false
set_option linter.unnecessarySimpa false
namespace Go.Proofs.YtpbjkgpdkopgmaaGreatDoor
open Go.RowKit
def vluC (x:ConS):Value:=.agg (conA x)
set_option maxRecDepth 100000 in
set_option maxHeartbeats 3200000 in
theorem addC_any (dp:Nat) (g2 g3:Nat) {w:World} {b c:Nat} {A:Option Addr} {ws:List TokV} {s:PSt} {E:World→Prop} (p:PSt→Bool) (rd:PSt→Con×PSt)
  (hrd:ReadC vluC (RC (dp+1)) b c A ws E 194 #[.pointer (some ⟨g2,0,none⟩),.pointer (some ⟨g3,0,none⟩)] p rd) (h0:PC w b A c ws s) (hE0:E w) (hp:p s=true) (B most:Nat) (v:Value) (acc:List Con) (hv:LC (dp+1) w (Fm B) v acc) (hB:B≤w.heap.size) (hb:b<B) (hm:acc.length≤most) (hm2:most≤100)
  (l:List Con) (s':PSt) (hr:addP most rd acc s=(l,s')) :
  Calls Tryz.prog 229 #[.pointer (some ⟨b,0,none⟩),v,.int .i64 (most:Int),.func (.func 194) #[] #[.pointer (some ⟨g2,0,none⟩),.pointer (some ⟨g3,0,none⟩)]] w fun e w'=>∃ v',e = .returned v'∧LC (dp+1) w' (Fm B) v' l∧PC w' b A c ws s'∧Fr b v w v' w':=by
 have H:=Lib.hid h0
 have HV:=Lib.hid hv
 obtain ⟨Av,cv,xs,rfl,hxs,hcv,hcm,-,-⟩:=hv.sl conA_size
 have HE:=Lib.hid hE0
 have HR:=Lib.hid hr
 have HP:=Lib.hid hp
 have HM:=Lib.hid hm
 clear h0 hv hE0 hr hp hxs
 by_cases hlen:acc.length=most
 ·have b1:((acc.length:Int) == (most:Int))=true:=by rw [beq_iff_eq];omega
  have hx:=HR.out
  unfold addP at hx
  rw [if_pos hlen] at hx
  simp only [Prod.mk.injEq] at hx
  obtain ⟨rfl,rfl⟩:=hx
  clear hlen
  go_enter Tryz.func229,Tryz.ntmps229
  go_wp2_with fail
  refine (fail_any H.out 4 (by decide) (by decide)).mono ?_;rintro e w1 ⟨rfl,hp1,ho1⟩
  go_wp2_with fail
  go_ret
  exact ⟨_,rfl,RepL.oth (RC.lasts _) HV.out ho1 hb,hp1,Fr.oth ho1 _⟩
 ·have b1:((acc.length:Int) == (most:Int))=false:=by rw [beq_eq_false_iff_ne];omega
  have hx:=HR.out
  unfold addP at hx
  rw [if_neg hlen] at hx
  obtain ⟨⟨y,s1⟩,hy⟩:∃ r,Hid (rd s=r):=⟨_,rfl⟩
  rw [hy.out] at hx
  simp only [Prod.mk.injEq] at hx
  obtain ⟨rfl,rfl⟩:=hx
  have HRD:=Lib.hid (hrd w s H.out HE.out HP.out y s1 hy.out)
  have h63:(acc.length:Int)≤100000:=by have:=HM.out;omega
  clear hlen
  go_enter Tryz.func229,Tryz.ntmps229
  go_wp2_with fail
  refine HRD.out.mono ?_;rintro e w1 ⟨⟨xk,xn,xd,xs,xl⟩,rfl,hr1,hp1,ho1⟩
  obtain ⟨xy,-,xh⟩:=RC.of hr1
  obtain ⟨xA,xc,-,rfl,-,-,-,-,-⟩:=xh.sl conA_size
  clear xh
  rw [show vluC ⟨xk,xn,xd,xs,.slice xA xy.length xc⟩ = .agg #[.int .i64 (xk:Int),.int .i64 xn,.int .u64 (xd:Int),.string ⟨xs.toArray⟩,.slice xA xy.length xc] from rfl]
  have HV1:=Lib.hid (RepL.oth (RC.lasts _) HV.out ho1 hb)
  have HX1:=Lib.hid (fresh_but (RC.lasts _) hr1 hB fun g e=>(HV.out.own_lt g e).2)
  have HP1:=Lib.hid hp1
  have HO1:=Lib.hid ho1
  have hB1:B≤w1.heap.size:=Nat.le_trans hB ho1.size
  have HG:=Lib.hid fun g e=>(HV.out.own_lt g e).1
  have HONE:Hid (∀ u ∈ (conA ⟨xk,xn,xd,xs,.slice xA xy.length xc⟩).toList,u.oneCell'=true):=by
   intro u hu
   simp [conA,conA,bt] at hu
   rcases hu with rfl | rfl | rfl | rfl | rfl <;> rfl
  clear hr1 hp1 ho1
  go_wp2_with (at_builtin;go_must (refine wpList_appL _ (RC.lasts _) infoC Tryz.underlying66 rfl (by decide) (by decide) conA_size rfl _ _ rfl B b (.slice Av acc.length cv) acc ⟨xk,xn,xd,xs,.slice xA xy.length xc⟩ y rfl (RepL.nx (RC.lasts _) HV1.out (nx0 _ _)) HONE.out _ rfl (fun j hj=>cell_newP (by simp)) ((RC.lasts _) (Mv.but (Mv.nx (nx0 _ _) (Nat.le_refl _)) _) HX1.out) h63 (Nat.le_trans hB1 (nx0 _ _).size) hb ?_;intro v2 w2 hl2 hf2 hk2;have HL2:=Lib.hid hl2;have HF2:=Lib.hid hf2;have HK2:=Lib.hid hk2;clear hl2 hf2 hk2))
  go_ret
  exact ⟨_,rfl,HL2.out,(HP1.out.nx (nx0 _ _)).fr HF2.out HG.out hb HK2.out,(Fr.oth (HO1.out.trans (Oth.nx (nx0 _ _))) _).trans HF2.out⟩
theorem infoP:(Tryz.prog.info? 245).map (fun i=>(i.zero,i.size,i.bytes))=some (some (.agg #[.int .i64 0,.int .i64 0,.int .u64 0,.string ⟨#[]⟩,.slice none 0 0,.int .i64 0,.int .i64 0,.int .u64 0,.string ⟨#[]⟩,.slice none 0 0]),10,128):=by kernel_rfl
def vluP (x:(ConS×ConS)):Value:=.agg (prA x)
set_option maxRecDepth 100000 in
set_option maxHeartbeats 3200000 in
theorem addP_any (dp:Nat) (g5 g2:Nat) {w:World} {b c:Nat} {A:Option Addr} {ws:List TokV} {s:PSt} {E:World→Prop} (p:PSt→Bool) (rd:PSt→(Con×Con)×PSt)
  (hrd:ReadC vluP (RPr (dp+1)) b c A ws E 196 #[.pointer (some ⟨g5,0,none⟩),.pointer (some ⟨g2,0,none⟩)] p rd) (h0:PC w b A c ws s) (hE0:E w) (hp:p s=true) (B most:Nat) (v:Value) (acc:List (Con×Con)) (hv:LP (dp+1) w (Fm B) v acc) (hB:B≤w.heap.size) (hb:b<B) (hm:acc.length≤most) (hm2:most≤100)
  (l:List (Con×Con)) (s':PSt) (hr:addP most rd acc s=(l,s')) :
  Calls Tryz.prog 230 #[.pointer (some ⟨b,0,none⟩),v,.int .i64 (most:Int),.func (.func 196) #[] #[.pointer (some ⟨g5,0,none⟩),.pointer (some ⟨g2,0,none⟩)]] w fun e w'=>∃ v',e = .returned v'∧LP (dp+1) w' (Fm B) v' l∧PC w' b A c ws s'∧Fr b v w v' w':=by
 have H:=Lib.hid h0
 have HV:=Lib.hid hv
 obtain ⟨Av,cv,xs,rfl,hxs,hcv,hcm,-,-⟩:=hv.sl prA_size
 have HE:=Lib.hid hE0
 have HR:=Lib.hid hr
 have HP:=Lib.hid hp
 have HM:=Lib.hid hm
 clear h0 hv hE0 hr hp hxs
 by_cases hlen:acc.length=most
 ·have b1:((acc.length:Int) == (most:Int))=true:=by rw [beq_iff_eq];omega
  have hx:=HR.out
  unfold addP at hx
  rw [if_pos hlen] at hx
  simp only [Prod.mk.injEq] at hx
  obtain ⟨rfl,rfl⟩:=hx
  clear hlen
  go_enter Tryz.func230,Tryz.ntmps230
  go_wp2_with fail
  refine (fail_any H.out 4 (by decide) (by decide)).mono ?_;rintro e w1 ⟨rfl,hp1,ho1⟩
  go_wp2_with fail
  go_ret
  exact ⟨_,rfl,RepL.oth (RPr.lasts _) HV.out ho1 hb,hp1,Fr.oth ho1 _⟩
 ·have b1:((acc.length:Int) == (most:Int))=false:=by rw [beq_eq_false_iff_ne];omega
  have hx:=HR.out
  unfold addP at hx
  rw [if_neg hlen] at hx
  obtain ⟨⟨y,s1⟩,hy⟩:∃ r,Hid (rd s=r):=⟨_,rfl⟩
  rw [hy.out] at hx
  simp only [Prod.mk.injEq] at hx
  obtain ⟨rfl,rfl⟩:=hx
  have HRD:=Lib.hid (hrd w s H.out HE.out HP.out y s1 hy.out)
  have h63:(acc.length:Int)≤100000:=by have:=HM.out;omega
  clear hlen
  go_enter Tryz.func230,Tryz.ntmps230
  go_wp2_with fail
  refine HRD.out.mono ?_;rintro e w1 ⟨⟨⟨xk,xn,xd,xs,xl⟩,⟨zk,zn,zd,zs,zl⟩⟩,rfl,hr1,hp1,ho1⟩
  obtain ⟨xy,-,xh⟩:=RC.of hr1.1
  obtain ⟨xA,xc,-,rfl,-,-,-,-,-⟩:=xh.sl conA_size
  clear xh
  obtain ⟨zy,-,zh⟩:=RC.of hr1.2
  obtain ⟨zA,zc,-,rfl,-,-,-,-,-⟩:=zh.sl conA_size
  clear zh
  rw [show vluP (⟨xk,xn,xd,xs,.slice xA xy.length xc⟩,⟨zk,zn,zd,zs,.slice zA zy.length zc⟩) = .agg #[.int .i64 (xk:Int),.int .i64 xn,.int .u64 (xd:Int),.string ⟨xs.toArray⟩,.slice xA xy.length xc,.int .i64 (zk:Int),.int .i64 zn,.int .u64 (zd:Int),.string ⟨zs.toArray⟩,.slice zA zy.length zc] from rfl]
  have HV1:=Lib.hid (RepL.oth (RPr.lasts _) HV.out ho1 hb)
  have HX1:=Lib.hid (fresh_but (RPr.lasts _) hr1 hB fun g e=>(HV.out.own_lt g e).2)
  have HP1:=Lib.hid hp1
  have HO1:=Lib.hid ho1
  have hB1:B≤w1.heap.size:=Nat.le_trans hB ho1.size
  have HG:=Lib.hid fun g e=>(HV.out.own_lt g e).1
  have HONE:Hid (∀ u ∈ (prA (⟨xk,xn,xd,xs,.slice xA xy.length xc⟩,⟨zk,zn,zd,zs,.slice zA zy.length zc⟩)).toList,u.oneCell'=true):=by
   intro u hu
   simp [prA,conA,bt] at hu
   rcases hu with rfl | rfl | rfl | rfl | rfl | rfl | rfl | rfl | rfl | rfl <;> rfl
  clear hr1 hp1 ho1
  go_wp2_with (at_builtin;go_must (refine wpList_appL _ (RPr.lasts _) infoP Tryz.underlying247 rfl (by decide) (by decide) prA_size rfl _ _ rfl B b (.slice Av acc.length cv) acc (⟨xk,xn,xd,xs,.slice xA xy.length xc⟩,⟨zk,zn,zd,zs,.slice zA zy.length zc⟩) y rfl (RepL.nx (RPr.lasts _) HV1.out (nx0 _ _)) HONE.out _ rfl (fun j hj=>cell_newP (by simp)) ((RPr.lasts _) (Mv.but (Mv.nx (nx0 _ _) (Nat.le_refl _)) _) HX1.out) h63 (Nat.le_trans hB1 (nx0 _ _).size) hb ?_;intro v2 w2 hl2 hf2 hk2;have HL2:=Lib.hid hl2;have HF2:=Lib.hid hf2;have HK2:=Lib.hid hk2;clear hl2 hf2 hk2))
  go_ret
  exact ⟨_,rfl,HL2.out,(HP1.out.nx (nx0 _ _)).fr HF2.out HG.out hb HK2.out,(Fr.oth (HO1.out.trans (Oth.nx (nx0 _ _))) _).trans HF2.out⟩
def vluF (x:FldS):Value:=.agg (fldA x)
set_option maxRecDepth 100000 in
set_option maxHeartbeats 3200000 in
theorem addF_any {w:World} {b c:Nat} {A:Option Addr} {ws:List TokV} {s:PSt} {E:World→Prop} (p:PSt→Bool) (rd:PSt→Fld×PSt)
  (hrd:ReadC vluF RF b c A ws E 152 #[.pointer (some ⟨b,0,none⟩)] p rd) (h0:PC w b A c ws s) (hE0:E w) (hp:p s=true) (B most:Nat) (v:Value) (acc:List Fld) (hv:LF w (Fm B) v acc) (hB:B≤w.heap.size) (hb:b<B) (hm:acc.length≤most) (hm2:most≤100)
  (l:List Fld) (s':PSt) (hr:addP most rd acc s=(l,s')) :
  Calls Tryz.prog 198 #[.pointer (some ⟨b,0,none⟩),v,.int .i64 (most:Int),.func (.func 152) #[.pointer (some ⟨b,0,none⟩)] #[]] w fun e w'=>∃ v',e = .returned v'∧LF w' (Fm B) v' l∧PC w' b A c ws s'∧Fr b v w v' w':=by
 have H:=Lib.hid h0
 have HV:=Lib.hid hv
 obtain ⟨Av,cv,xs,rfl,hxs,hcv,hcm,-,-⟩:=hv.sl fldA_size
 have HE:=Lib.hid hE0
 have HR:=Lib.hid hr
 have HP:=Lib.hid hp
 have HM:=Lib.hid hm
 clear h0 hv hE0 hr hp hxs
 by_cases hlen:acc.length=most
 ·have b1:((acc.length:Int) == (most:Int))=true:=by rw [beq_iff_eq];omega
  have hx:=HR.out
  unfold addP at hx
  rw [if_pos hlen] at hx
  simp only [Prod.mk.injEq] at hx
  obtain ⟨rfl,rfl⟩:=hx
  clear hlen
  go_enter Tryz.func198,Tryz.ntmps198
  go_wp2_with fail
  refine (fail_any H.out 4 (by decide) (by decide)).mono ?_;rintro e w1 ⟨rfl,hp1,ho1⟩
  go_wp2_with fail
  go_ret
  exact ⟨_,rfl,RepL.oth RF.lasts HV.out ho1 hb,hp1,Fr.oth ho1 _⟩
 ·have b1:((acc.length:Int) == (most:Int))=false:=by rw [beq_eq_false_iff_ne];omega
  have hx:=HR.out
  unfold addP at hx
  rw [if_neg hlen] at hx
  obtain ⟨⟨y,s1⟩,hy⟩:∃ r,Hid (rd s=r):=⟨_,rfl⟩
  rw [hy.out] at hx
  simp only [Prod.mk.injEq] at hx
  obtain ⟨rfl,rfl⟩:=hx
  have HRD:=Lib.hid (hrd w s H.out HE.out HP.out y s1 hy.out)
  have h63:(acc.length:Int)≤100000:=by have:=HM.out;omega
  clear hlen
  go_enter Tryz.func198,Tryz.ntmps198
  go_wp2_with fail
  refine HRD.out.mono ?_;rintro e w1 ⟨⟨fh,fi,fr,ft,fn,fI,⟨xk,xn,xd,xs,xl⟩⟩,rfl,hr1,hp1,ho1⟩
  obtain ⟨xy,-,xh⟩:=RC.of hr1.2.2.2.2.2.2
  obtain ⟨xA,xc,-,rfl,-,-,-,-,-⟩:=xh.sl conA_size
  clear xh
  rw [show vluF ⟨fh,fi,fr,ft,fn,fI,⟨xk,xn,xd,xs,.slice xA xy.length xc⟩⟩ = .agg #[.bool fh,.int .i64 fi,.int .i64 (fr:Int),.string ⟨ft.toArray⟩,.string ⟨fn.toArray⟩,.bool fI,.int .i64 (xk:Int),.int .i64 xn,.int .u64 (xd:Int),.string ⟨xs.toArray⟩,.slice xA xy.length xc] from rfl]
  have HV1:=Lib.hid (RepL.oth RF.lasts HV.out ho1 hb)
  have HX1:=Lib.hid (fresh_but RF.lasts hr1 hB fun g e=>(HV.out.own_lt g e).2)
  have HP1:=Lib.hid hp1
  have HO1:=Lib.hid ho1
  have hB1:B≤w1.heap.size:=Nat.le_trans hB ho1.size
  have HG:=Lib.hid fun g e=>(HV.out.own_lt g e).1
  have HONE:Hid (∀ u ∈ (fldA ⟨fh,fi,fr,ft,fn,fI,⟨xk,xn,xd,xs,.slice xA xy.length xc⟩⟩).toList,u.oneCell'=true):=by
   intro u hu
   simp [fldA,conA,bt] at hu
   rcases hu with rfl | rfl | rfl | rfl | rfl | rfl | rfl | rfl | rfl | rfl | rfl <;> rfl
  clear hr1 hp1 ho1
  go_wp2_with (at_builtin;go_must (refine wpList_appL _ RF.lasts infoF Tryz.underlying69 rfl (by decide) (by decide) fldA_size rfl _ _ rfl B b (.slice Av acc.length cv) acc ⟨fh,fi,fr,ft,fn,fI,⟨xk,xn,xd,xs,.slice xA xy.length xc⟩⟩ y rfl (RepL.nx RF.lasts HV1.out (nx0 _ _)) HONE.out _ rfl (fun j hj=>cell_newP (by simp)) (RF.lasts (Mv.but (Mv.nx (nx0 _ _) (Nat.le_refl _)) _) HX1.out) h63 (Nat.le_trans hB1 (nx0 _ _).size) hb ?_;intro v2 w2 hl2 hf2 hk2;have HL2:=Lib.hid hl2;have HF2:=Lib.hid hf2;have HK2:=Lib.hid hk2;clear hl2 hf2 hk2))
  go_ret
  exact ⟨_,rfl,HL2.out,(HP1.out.nx (nx0 _ _)).fr HF2.out HG.out hb HK2.out,(Fr.oth (HO1.out.trans (Oth.nx (nx0 _ _))) _).trans HF2.out⟩
def vluM (x:Mem):Value:=.agg (memA x)
set_option maxRecDepth 100000 in
set_option maxHeartbeats 3200000 in
theorem addM_any {w:World} {b c:Nat} {A:Option Addr} {ws:List TokV} {s:PSt} {E:World→Prop} (p:PSt→Bool) (rd:PSt→Mem×PSt)
  (hrd:ReadC vluM (REq (α:=Mem)) b c A ws E 102 #[.pointer (some ⟨b,0,none⟩)] p rd) (h0:PC w b A c ws s) (hE0:E w) (hp:p s=true) (B most:Nat) (v:Value) (acc:List Mem) (hv:LMm w (Fm B) v acc) (hB:B≤w.heap.size) (hb:b<B) (hm:acc.length≤most) (hm2:most≤100)
  (l:List Mem) (s':PSt) (hr:addP most rd acc s=(l,s')) :
  Calls Tryz.prog 149 #[.pointer (some ⟨b,0,none⟩),v,.int .i64 (most:Int),.func (.func 102) #[.pointer (some ⟨b,0,none⟩)] #[]] w fun e w'=>∃ v',e = .returned v'∧LMm w' (Fm B) v' l∧PC w' b A c ws s'∧Fr b v w v' w':=by
 have H:=Lib.hid h0
 have HV:=Lib.hid hv
 obtain ⟨Av,cv,xs,rfl,hxs,hcv,hcm,-,-⟩:=hv.sl memA_size
 have HE:=Lib.hid hE0
 have HR:=Lib.hid hr
 have HP:=Lib.hid hp
 have HM:=Lib.hid hm
 clear h0 hv hE0 hr hp hxs
 by_cases hlen:acc.length=most
 ·have b1:((acc.length:Int) == (most:Int))=true:=by rw [beq_iff_eq];omega
  have hx:=HR.out
  unfold addP at hx
  rw [if_pos hlen] at hx
  simp only [Prod.mk.injEq] at hx
  obtain ⟨rfl,rfl⟩:=hx
  clear hlen
  go_enter Tryz.func149,Tryz.ntmps149
  go_wp2_with fail
  refine (fail_any H.out 4 (by decide) (by decide)).mono ?_;rintro e w1 ⟨rfl,hp1,ho1⟩
  go_wp2_with fail
  go_ret
  exact ⟨_,rfl,RepL.oth REq.lasts HV.out ho1 hb,hp1,Fr.oth ho1 _⟩
 ·have b1:((acc.length:Int) == (most:Int))=false:=by rw [beq_eq_false_iff_ne];omega
  have hx:=HR.out
  unfold addP at hx
  rw [if_neg hlen] at hx
  obtain ⟨⟨y,s1⟩,hy⟩:∃ r,Hid (rd s=r):=⟨_,rfl⟩
  rw [hy.out] at hx
  simp only [Prod.mk.injEq] at hx
  obtain ⟨rfl,rfl⟩:=hx
  have HRD:=Lib.hid (hrd w s H.out HE.out HP.out y s1 hy.out)
  have h63:(acc.length:Int)≤100000:=by have:=HM.out;omega
  clear hlen
  go_enter Tryz.func149,Tryz.ntmps149
  go_wp2_with fail
  refine HRD.out.mono ?_;rintro e w1 ⟨⟨mn,mh,mi⟩,rfl,hr1,hp1,ho1⟩
  rw [show vluM ⟨mn,mh,mi⟩ = .agg #[.string ⟨mn.toArray⟩,.bool mh,.int .i64 mi] from rfl]
  have HV1:=Lib.hid (RepL.oth REq.lasts HV.out ho1 hb)
  have HX1:=Lib.hid (fresh_but REq.lasts hr1 hB fun g e=>(HV.out.own_lt g e).2)
  have HP1:=Lib.hid hp1
  have HO1:=Lib.hid ho1
  have hB1:B≤w1.heap.size:=Nat.le_trans hB ho1.size
  have HG:=Lib.hid fun g e=>(HV.out.own_lt g e).1
  have HONE:Hid (∀ u ∈ (memA ⟨mn,mh,mi⟩).toList,u.oneCell'=true):=by
   intro u hu
   simp [memA,conA,bt] at hu
   rcases hu with rfl | rfl | rfl <;> rfl
  clear hr1 hp1 ho1
  go_wp2_with (at_builtin;go_must (refine wpList_appL _ REq.lasts infoM Tryz.underlying70 rfl (by decide) (by decide) memA_size rfl _ _ rfl B b (.slice Av acc.length cv) acc ⟨mn,mh,mi⟩ y rfl (RepL.nx REq.lasts HV1.out (nx0 _ _)) HONE.out _ rfl (fun j hj=>cell_newP (by simp)) (REq.lasts (Mv.but (Mv.nx (nx0 _ _) (Nat.le_refl _)) _) HX1.out) h63 (Nat.le_trans hB1 (nx0 _ _).size) hb ?_;intro v2 w2 hl2 hf2 hk2;have HL2:=Lib.hid hl2;have HF2:=Lib.hid hf2;have HK2:=Lib.hid hk2;clear hl2 hf2 hk2))
  go_ret
  exact ⟨_,rfl,HL2.out,(HP1.out.nx (nx0 _ _)).fr HF2.out HG.out hb HK2.out,(Fr.oth (HO1.out.trans (Oth.nx (nx0 _ _))) _).trans HF2.out⟩
def vluT (x:MetS):Value:=.agg (metA x)
set_option maxRecDepth 100000 in
set_option maxHeartbeats 3200000 in
theorem addT_any {w:World} {b c:Nat} {A:Option Addr} {ws:List TokV} {s:PSt} {E:World→Prop} (p:PSt→Bool) (rd:PSt→Met×PSt)
  (hrd:ReadC vluT RM b c A ws E 106 #[.pointer (some ⟨b,0,none⟩)] p rd) (h0:PC w b A c ws s) (hE0:E w) (hp:p s=true) (B most:Nat) (v:Value) (acc:List Met) (hv:LM w (Fm B) v acc) (hB:B≤w.heap.size) (hb:b<B) (hm:acc.length≤most) (hm2:most≤100)
  (l:List Met) (s':PSt) (hr:addP most rd acc s=(l,s')) :
  Calls Tryz.prog 153 #[.pointer (some ⟨b,0,none⟩),v,.int .i64 (most:Int),.func (.func 106) #[.pointer (some ⟨b,0,none⟩)] #[]] w fun e w'=>∃ v',e = .returned v'∧LM w' (Fm B) v' l∧PC w' b A c ws s'∧Fr b v w v' w':=by
 have H:=Lib.hid h0
 have HV:=Lib.hid hv
 obtain ⟨Av,cv,xs,rfl,hxs,hcv,hcm,-,-⟩:=hv.sl metA_size
 have HE:=Lib.hid hE0
 have HR:=Lib.hid hr
 have HP:=Lib.hid hp
 have HM:=Lib.hid hm
 clear h0 hv hE0 hr hp hxs
 by_cases hlen:acc.length=most
 ·have b1:((acc.length:Int) == (most:Int))=true:=by rw [beq_iff_eq];omega
  have hx:=HR.out
  unfold addP at hx
  rw [if_pos hlen] at hx
  simp only [Prod.mk.injEq] at hx
  obtain ⟨rfl,rfl⟩:=hx
  clear hlen
  go_enter Tryz.func153,Tryz.ntmps153
  go_wp2_with fail
  refine (fail_any H.out 4 (by decide) (by decide)).mono ?_;rintro e w1 ⟨rfl,hp1,ho1⟩
  go_wp2_with fail
  go_ret
  exact ⟨_,rfl,RepL.oth RM.lasts HV.out ho1 hb,hp1,Fr.oth ho1 _⟩
 ·have b1:((acc.length:Int) == (most:Int))=false:=by rw [beq_eq_false_iff_ne];omega
  have hx:=HR.out
  unfold addP at hx
  rw [if_neg hlen] at hx
  obtain ⟨⟨y,s1⟩,hy⟩:∃ r,Hid (rd s=r):=⟨_,rfl⟩
  rw [hy.out] at hx
  simp only [Prod.mk.injEq] at hx
  obtain ⟨rfl,rfl⟩:=hx
  have HRD:=Lib.hid (hrd w s H.out HE.out HP.out y s1 hy.out)
  have h63:(acc.length:Int)≤100000:=by have:=HM.out;omega
  clear hlen
  go_enter Tryz.func153,Tryz.ntmps153
  go_wp2_with fail
  refine HRD.out.mono ?_;rintro e w1 ⟨⟨mn,mo,mr,ma,mt⟩,rfl,hr1,hp1,ho1⟩
  obtain ⟨uA,uc,-,rfl,-,-,-,-,-⟩:=(hr1.2.2.2.1).sl fldA_size
  obtain ⟨zA,zc,-,rfl,-,-,-,-,-⟩:=(hr1.2.2.2.2).sl fldA_size
  rw [show vluT ⟨mn,mo,mr,.slice uA y.args.length uc,.slice zA y.thr.length zc⟩ = .agg #[.string ⟨mn.toArray⟩,.bool mo,.string ⟨mr.toArray⟩,.slice uA y.args.length uc,.slice zA y.thr.length zc] from rfl]
  have HV1:=Lib.hid (RepL.oth RM.lasts HV.out ho1 hb)
  have HX1:=Lib.hid (fresh_but RM.lasts hr1 hB fun g e=>(HV.out.own_lt g e).2)
  have HP1:=Lib.hid hp1
  have HO1:=Lib.hid ho1
  have hB1:B≤w1.heap.size:=Nat.le_trans hB ho1.size
  have HG:=Lib.hid fun g e=>(HV.out.own_lt g e).1
  have HONE:Hid (∀ u ∈ (metA ⟨mn,mo,mr,.slice uA y.args.length uc,.slice zA y.thr.length zc⟩).toList,u.oneCell'=true):=by
   intro u hu
   simp [metA,conA,bt] at hu
   rcases hu with rfl | rfl | rfl | rfl | rfl <;> rfl
  clear hr1 hp1 ho1
  go_wp2_with (at_builtin;go_must (refine wpList_appL _ RM.lasts infoT Tryz.underlying71 rfl (by decide) (by decide) metA_size rfl _ _ rfl B b (.slice Av acc.length cv) acc ⟨mn,mo,mr,.slice uA y.args.length uc,.slice zA y.thr.length zc⟩ y rfl (RepL.nx RM.lasts HV1.out (nx0 _ _)) HONE.out _ rfl (fun j hj=>cell_newP (by simp)) (RM.lasts (Mv.but (Mv.nx (nx0 _ _) (Nat.le_refl _)) _) HX1.out) h63 (Nat.le_trans hB1 (nx0 _ _).size) hb ?_;intro v2 w2 hl2 hf2 hk2;have HL2:=Lib.hid hl2;have HF2:=Lib.hid hf2;have HK2:=Lib.hid hk2;clear hl2 hf2 hk2))
  go_ret
  exact ⟨_,rfl,HL2.out,(HP1.out.nx (nx0 _ _)).fr HF2.out HG.out hb HK2.out,(Fr.oth (HO1.out.trans (Oth.nx (nx0 _ _))) _).trans HF2.out⟩
def vluD (x:DfnS):Value:=.agg (dfnA x)
set_option maxRecDepth 100000 in
set_option maxHeartbeats 3200000 in
theorem addD_any {w:World} {b c:Nat} {A:Option Addr} {ws:List TokV} {s:PSt} {E:World→Prop} (p:PSt→Bool) (rd:PSt→Dfn×PSt)
  (hrd:ReadC vluD RD b c A ws E 58 #[.pointer (some ⟨b,0,none⟩)] p rd) (h0:PC w b A c ws s) (hE0:E w) (hp:p s=true) (B most:Nat) (v:Value) (acc:List Dfn) (hv:LD w (Fm B) v acc) (hB:B≤w.heap.size) (hb:b<B) (hm:acc.length≤most) (hm2:most≤100)
  (l:List Dfn) (s':PSt) (hr:addP most rd acc s=(l,s')) :
  Calls Tryz.prog 92 #[.pointer (some ⟨b,0,none⟩),v,.int .i64 (most:Int),.func (.func 58) #[.pointer (some ⟨b,0,none⟩)] #[]] w fun e w'=>∃ v',e = .returned v'∧LD w' (Fm B) v' l∧PC w' b A c ws s'∧Fr b v w v' w':=by
 have H:=Lib.hid h0
 have HV:=Lib.hid hv
 obtain ⟨Av,cv,xs,rfl,hxs,hcv,hcm,-,-⟩:=hv.sl dfnA_size
 have HE:=Lib.hid hE0
 have HR:=Lib.hid hr
 have HP:=Lib.hid hp
 have HM:=Lib.hid hm
 clear h0 hv hE0 hr hp hxs
 by_cases hlen:acc.length=most
 ·have b1:((acc.length:Int) == (most:Int))=true:=by rw [beq_iff_eq];omega
  have hx:=HR.out
  unfold addP at hx
  rw [if_pos hlen] at hx
  simp only [Prod.mk.injEq] at hx
  obtain ⟨rfl,rfl⟩:=hx
  clear hlen
  go_enter Tryz.func92,Tryz.ntmps92
  go_wp2_with fail
  refine (fail_any H.out 4 (by decide) (by decide)).mono ?_;rintro e w1 ⟨rfl,hp1,ho1⟩
  go_wp2_with fail
  go_ret
  exact ⟨_,rfl,RepL.oth RD.lasts HV.out ho1 hb,hp1,Fr.oth ho1 _⟩
 ·have b1:((acc.length:Int) == (most:Int))=false:=by rw [beq_eq_false_iff_ne];omega
  have hx:=HR.out
  unfold addP at hx
  rw [if_neg hlen] at hx
  obtain ⟨⟨y,s1⟩,hy⟩:∃ r,Hid (rd s=r):=⟨_,rfl⟩
  rw [hy.out] at hx
  simp only [Prod.mk.injEq] at hx
  obtain ⟨rfl,rfl⟩:=hx
  have HRD:=Lib.hid (hrd w s H.out HE.out HP.out y s1 hy.out)
  have h63:(acc.length:Int)≤100000:=by have:=HM.out;omega
  clear hlen
  go_enter Tryz.func92,Tryz.ntmps92
  go_wp2_with fail
  refine HRD.out.mono ?_;rintro e w1 ⟨⟨dk,dn,dt,⟨xk,xn,xd,xs,xl⟩,df,dm,de,ds⟩,rfl,hr1,hp1,ho1⟩
  obtain ⟨xy,-,xh⟩:=RC.of hr1.2.2.2.1
  obtain ⟨xA,xc,-,rfl,-,-,-,-,-⟩:=xh.sl conA_size
  clear xh
  obtain ⟨uA,uc,-,rfl,-,-,-,-,-⟩:=(hr1.2.2.2.2.1).sl fldA_size
  obtain ⟨zA,zc,-,rfl,-,-,-,-,-⟩:=(hr1.2.2.2.2.2.1).sl memA_size
  obtain ⟨qA,qc,-,rfl,-,-,-,-,-⟩:=(hr1.2.2.2.2.2.2.2).sl metA_size
  rw [show vluD ⟨dk,dn,dt,⟨xk,xn,xd,xs,.slice xA xy.length xc⟩,.slice uA y.fields.length uc,.slice zA y.mems.length zc,de,.slice qA y.mets.length qc⟩ = .agg #[.int .i64 (dk:Int),.string ⟨dn.toArray⟩,.string ⟨dt.toArray⟩,.int .i64 (xk:Int),.int .i64 xn,.int .u64 (xd:Int),.string ⟨xs.toArray⟩,.slice xA xy.length xc,.slice uA y.fields.length uc,.slice zA y.mems.length zc,.string ⟨de.toArray⟩,.slice qA y.mets.length qc] from rfl]
  have HV1:=Lib.hid (RepL.oth RD.lasts HV.out ho1 hb)
  have HX1:=Lib.hid (fresh_but RD.lasts hr1 hB fun g e=>(HV.out.own_lt g e).2)
  have HP1:=Lib.hid hp1
  have HO1:=Lib.hid ho1
  have hB1:B≤w1.heap.size:=Nat.le_trans hB ho1.size
  have HG:=Lib.hid fun g e=>(HV.out.own_lt g e).1
  have HONE:Hid (∀ u ∈ (dfnA ⟨dk,dn,dt,⟨xk,xn,xd,xs,.slice xA xy.length xc⟩,.slice uA y.fields.length uc,.slice zA y.mems.length zc,de,.slice qA y.mets.length qc⟩).toList,u.oneCell'=true):=by
   intro u hu
   simp [dfnA,conA,bt] at hu
   rcases hu with rfl | rfl | rfl | rfl | rfl | rfl | rfl | rfl | rfl | rfl | rfl | rfl <;> rfl
  clear hr1 hp1 ho1
  go_wp2_with (at_builtin;go_must (refine wpList_appL _ RD.lasts infoD Tryz.underlying31 rfl (by decide) (by decide) dfnA_size rfl _ _ rfl B b (.slice Av acc.length cv) acc ⟨dk,dn,dt,⟨xk,xn,xd,xs,.slice xA xy.length xc⟩,.slice uA y.fields.length uc,.slice zA y.mems.length zc,de,.slice qA y.mets.length qc⟩ y rfl (RepL.nx RD.lasts HV1.out (nx0 _ _)) HONE.out _ rfl (fun j hj=>cell_newP (by simp)) (RD.lasts (Mv.but (Mv.nx (nx0 _ _) (Nat.le_refl _)) _) HX1.out) h63 (Nat.le_trans hB1 (nx0 _ _).size) hb ?_;intro v2 w2 hl2 hf2 hk2;have HL2:=Lib.hid hl2;have HF2:=Lib.hid hf2;have HK2:=Lib.hid hk2;clear hl2 hf2 hk2))
  go_ret
  exact ⟨_,rfl,HL2.out,(HP1.out.nx (nx0 _ _)).fr HF2.out HG.out hb HK2.out,(Fr.oth (HO1.out.trans (Oth.nx (nx0 _ _))) _).trans HF2.out⟩
def vluS (x:Spc):Value:=.agg (spcA x)
set_option maxRecDepth 100000 in
set_option maxHeartbeats 3200000 in
theorem addS_any {w:World} {b c:Nat} {A:Option Addr} {ws:List TokV} {s:PSt} {E:World→Prop} (p:PSt→Bool) (rd:PSt→Spc×PSt)
  (hrd:ReadC vluS (REq (α:=Spc)) b c A ws E 55 #[.pointer (some ⟨b,0,none⟩)] p rd) (h0:PC w b A c ws s) (hE0:E w) (hp:p s=true) (B most:Nat) (v:Value) (acc:List Spc) (hv:LS w (Fm B) v acc) (hB:B≤w.heap.size) (hb:b<B) (hm:acc.length≤most) (hm2:most≤100)
  (l:List Spc) (s':PSt) (hr:addP most rd acc s=(l,s')) :
  Calls Tryz.prog 54 #[.pointer (some ⟨b,0,none⟩),v,.int .i64 (most:Int),.func (.func 55) #[.pointer (some ⟨b,0,none⟩)] #[]] w fun e w'=>∃ v',e = .returned v'∧LS w' (Fm B) v' l∧PC w' b A c ws s'∧Fr b v w v' w':=by
 have H:=Lib.hid h0
 have HV:=Lib.hid hv
 obtain ⟨Av,cv,xs,rfl,hxs,hcv,hcm,-,-⟩:=hv.sl spcA_size
 have HE:=Lib.hid hE0
 have HR:=Lib.hid hr
 have HP:=Lib.hid hp
 have HM:=Lib.hid hm
 clear h0 hv hE0 hr hp hxs
 by_cases hlen:acc.length=most
 ·have b1:((acc.length:Int) == (most:Int))=true:=by rw [beq_iff_eq];omega
  have hx:=HR.out
  unfold addP at hx
  rw [if_pos hlen] at hx
  simp only [Prod.mk.injEq] at hx
  obtain ⟨rfl,rfl⟩:=hx
  clear hlen
  go_enter Tryz.func54,Tryz.ntmps54
  go_wp2_with fail
  refine (fail_any H.out 4 (by decide) (by decide)).mono ?_;rintro e w1 ⟨rfl,hp1,ho1⟩
  go_wp2_with fail
  go_ret
  exact ⟨_,rfl,RepL.oth REq.lasts HV.out ho1 hb,hp1,Fr.oth ho1 _⟩
 ·have b1:((acc.length:Int) == (most:Int))=false:=by rw [beq_eq_false_iff_ne];omega
  have hx:=HR.out
  unfold addP at hx
  rw [if_neg hlen] at hx
  obtain ⟨⟨y,s1⟩,hy⟩:∃ r,Hid (rd s=r):=⟨_,rfl⟩
  rw [hy.out] at hx
  simp only [Prod.mk.injEq] at hx
  obtain ⟨rfl,rfl⟩:=hx
  have HRD:=Lib.hid (hrd w s H.out HE.out HP.out y s1 hy.out)
  have h63:(acc.length:Int)≤100000:=by have:=HM.out;omega
  clear hlen
  go_enter Tryz.func54,Tryz.ntmps54
  go_wp2_with fail
  refine HRD.out.mono ?_;rintro e w1 ⟨⟨so,sn⟩,rfl,hr1,hp1,ho1⟩
  rw [show vluS ⟨so,sn⟩ = .agg #[.string ⟨so.toArray⟩,.string ⟨sn.toArray⟩] from rfl]
  have HV1:=Lib.hid (RepL.oth REq.lasts HV.out ho1 hb)
  have HX1:=Lib.hid (fresh_but REq.lasts hr1 hB fun g e=>(HV.out.own_lt g e).2)
  have HP1:=Lib.hid hp1
  have HO1:=Lib.hid ho1
  have hB1:B≤w1.heap.size:=Nat.le_trans hB ho1.size
  have HG:=Lib.hid fun g e=>(HV.out.own_lt g e).1
  have HONE:Hid (∀ u ∈ (spcA ⟨so,sn⟩).toList,u.oneCell'=true):=by
   intro u hu
   simp [spcA,conA,bt] at hu
   rcases hu with rfl | rfl <;> rfl
  clear hr1 hp1 ho1
  go_wp2_with (at_builtin;go_must (refine wpList_appL _ REq.lasts infoS Tryz.underlying30 rfl (by decide) (by decide) spcA_size rfl _ _ rfl B b (.slice Av acc.length cv) acc ⟨so,sn⟩ y rfl (RepL.nx REq.lasts HV1.out (nx0 _ _)) HONE.out _ rfl (fun j hj=>cell_newP (by simp)) (REq.lasts (Mv.but (Mv.nx (nx0 _ _) (Nat.le_refl _)) _) HX1.out) h63 (Nat.le_trans hB1 (nx0 _ _).size) hb ?_;intro v2 w2 hl2 hf2 hk2;have HL2:=Lib.hid hl2;have HF2:=Lib.hid hf2;have HK2:=Lib.hid hk2;clear hl2 hf2 hk2))
  go_ret
  exact ⟨_,rfl,HL2.out,(HP1.out.nx (nx0 _ _)).fr HF2.out HG.out hb HK2.out,(Fr.oth (HO1.out.trans (Oth.nx (nx0 _ _))) _).trans HF2.out⟩
def vluI (x:(List UInt8)):Value:=.string ⟨x.toArray⟩
set_option maxRecDepth 100000 in
set_option maxHeartbeats 3200000 in
theorem addI_any {w:World} {b c:Nat} {A:Option Addr} {ws:List TokV} {s:PSt} {E:World→Prop} (p:PSt→Bool) (rd:PSt→(List UInt8)×PSt)
  (hrd:ReadC vluI (REq (α:=List UInt8)) b c A ws E 53 #[.pointer (some ⟨b,0,none⟩)] p rd) (h0:PC w b A c ws s) (hE0:E w) (hp:p s=true) (B most:Nat) (v:Value) (acc:List (List UInt8)) (hv:LT w (Fm B) v acc) (hB:B≤w.heap.size) (hb:b<B) (hm:acc.length≤most) (hm2:most≤100)
  (l:List (List UInt8)) (s':PSt) (hr:addP most rd acc s=(l,s')) :
  Calls Tryz.prog 52 #[.pointer (some ⟨b,0,none⟩),v,.int .i64 (most:Int),.func (.func 53) #[.pointer (some ⟨b,0,none⟩)] #[]] w fun e w'=>∃ v',e = .returned v'∧LT w' (Fm B) v' l∧PC w' b A c ws s'∧Fr b v w v' w':=by
 have H:=Lib.hid h0
 have HV:=Lib.hid hv
 obtain ⟨Av,cv,xs,rfl,hxs,hcv,hcm,-,-⟩:=hv.sl strA_size
 have HE:=Lib.hid hE0
 have HR:=Lib.hid hr
 have HP:=Lib.hid hp
 have HM:=Lib.hid hm
 clear h0 hv hE0 hr hp hxs
 by_cases hlen:acc.length=most
 ·have b1:((acc.length:Int) == (most:Int))=true:=by rw [beq_iff_eq];omega
  have hx:=HR.out
  unfold addP at hx
  rw [if_pos hlen] at hx
  simp only [Prod.mk.injEq] at hx
  obtain ⟨rfl,rfl⟩:=hx
  clear hlen
  go_enter Tryz.func52,Tryz.ntmps52
  go_wp2_with fail
  refine (fail_any H.out 4 (by decide) (by decide)).mono ?_;rintro e w1 ⟨rfl,hp1,ho1⟩
  go_wp2_with fail
  go_ret
  exact ⟨_,rfl,RepL.oth REq.lasts HV.out ho1 hb,hp1,Fr.oth ho1 _⟩
 ·have b1:((acc.length:Int) == (most:Int))=false:=by rw [beq_eq_false_iff_ne];omega
  have hx:=HR.out
  unfold addP at hx
  rw [if_neg hlen] at hx
  obtain ⟨⟨y,s1⟩,hy⟩:∃ r,Hid (rd s=r):=⟨_,rfl⟩
  rw [hy.out] at hx
  simp only [Prod.mk.injEq] at hx
  obtain ⟨rfl,rfl⟩:=hx
  have HRD:=Lib.hid (hrd w s H.out HE.out HP.out y s1 hy.out)
  have h63:(acc.length:Int)≤100000:=by have:=HM.out;omega
  clear hlen
  go_enter Tryz.func52,Tryz.ntmps52
  go_wp2_with fail
  refine HRD.out.mono ?_;rintro e w1 ⟨x,rfl,hr1,hp1,ho1⟩
  rw [show vluI x = .string ⟨x.toArray⟩ from rfl]
  have HV1:=Lib.hid (RepL.oth REq.lasts HV.out ho1 hb)
  have HX1:=Lib.hid (fresh_but REq.lasts hr1 hB fun g e=>(HV.out.own_lt g e).2)
  have HP1:=Lib.hid hp1
  have HO1:=Lib.hid ho1
  have hB1:B≤w1.heap.size:=Nat.le_trans hB ho1.size
  have HG:=Lib.hid fun g e=>(HV.out.own_lt g e).1
  have HONE:Hid (∀ u ∈ (strA x).toList,u.oneCell'=true):=by
   intro u hu
   simp [strA,conA,bt] at hu
   subst hu;rfl
  clear hr1 hp1 ho1
  go_wp2_with (at_builtin;go_must (refine wpList_appL _ REq.lasts infoI Tryz.underlying29 rfl (by decide) (by decide) strA_size rfl _ _ rfl B b (.slice Av acc.length cv) acc x y rfl (RepL.nx REq.lasts HV1.out (nx0 _ _)) HONE.out _ rfl (fun j hj=>cell_newP (by simp)) (REq.lasts (Mv.but (Mv.nx (nx0 _ _) (Nat.le_refl _)) _) HX1.out) h63 (Nat.le_trans hB1 (nx0 _ _).size) hb ?_;intro v2 w2 hl2 hf2 hk2;have HL2:=Lib.hid hl2;have HF2:=Lib.hid hf2;have HK2:=Lib.hid hk2;clear hl2 hf2 hk2))
  go_ret
  exact ⟨_,rfl,HL2.out,(HP1.out.nx (nx0 _ _)).fr HF2.out HG.out hb HK2.out,(Fr.oth (HO1.out.trans (Oth.nx (nx0 _ _))) _).trans HF2.out⟩
end Go.Proofs.YtpbjkgpdkopgmaaGreatDoor
