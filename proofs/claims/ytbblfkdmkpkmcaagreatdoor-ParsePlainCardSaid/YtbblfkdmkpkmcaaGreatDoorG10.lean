/- Reading of elements: what is asked of who reads one, and how it goes on. Plain lemmas. The contracts of add, at each type. -/
import Derived.Test.YtbblfkdmkpkmcaaGreatDoorG09
set_option linter.unusedVariables false
set_option linter.unusedSimpArgs false
set_option linter.unnecessarySimpa false
namespace Go.Proofs.YtbblfkdmkpkmcaaGreatDoor
open Go.RowKit
def Stays (b:Nat) (E:World→Prop):Prop:=∀ w w',E w→Oth b w w'→E w'
def AtC (b c:Nat) (A:Option Addr) (ws:List TokV) (E:World→Prop) (fn:Nat) (args:Array Value) (p:PSt→Bool):Prop :=
 ∀ (w:World) (s:PSt),PC w b A c ws s→E w→∀ B,p s=B→Calls Tryz.prog fn args w fun e w'=>e = .returned (.bool B)∧Nx w w'
def ReadC {α β:Type} (f:α→Value) (R:World→(Nat→Prop)→α→β→Prop) (b c:Nat) (A:Option Addr) (ws:List TokV) (E:World→Prop) (fn:Nat) (args:Array Value) (p:PSt→Bool) (rd:PSt→β×PSt):Prop :=
 ∀ (w:World) (s:PSt),PC w b A c ws s→E w→p s=true→∀ y s',rd s=(y,s')→Calls Tryz.prog fn args w fun e w'=>∃ x,e = .returned (f x)∧R w' (Fm w.heap.size) x y∧PC w' b A c ws s'∧Oth b w w'
def Prog {β:Type} (ws:List TokV) (p:PSt→Bool) (rd:PSt→β×PSt):Prop:=∀ s,s.i<ws.length→p s=true→s.e=0∧((rd s).2.e≠0∨s.i<(rd s).2.i)
theorem left_step {ws:List TokV} {s s':PSt} (hl:s.i<ws.length) (hw:ws.length≤2001) (he:s.e=0) (h:s'.e≠0∨s.i<s'.i):leftN s'<leftN s:=by
 unfold leftN
 rw [if_pos he]
 split
 ·omega
 ·omega
theorem left_next (s:PSt):leftN (nextP s)≤leftN s:=by
 unfold leftN nextP
 by_cases h:s.e=0
 ·simp [h];omega
 ·simp [h]
theorem left_sep (ws:List TokV) (s:PSt):leftN (sepP ws s)≤leftN s:=by
 unfold sepP takeP
 repeat' split
 all_goals first
  | exact left_next s
  | exact Nat.le_refl _
theorem fail_ne (k:Nat) (hk:k≠0) (s:PSt):(failP k s).e≠0:=by
 unfold failP
 split
 ·rename_i h;exact h
 ·exact hk
theorem left_add {β:Type} {ws:List TokV} {p:PSt→Bool} {rd:PSt→β×PSt} (hp:Prog ws p rd) (most:Nat) (acc:List β) {s:PSt} (hl:s.i<ws.length) (hw:ws.length≤2001) (h:p s=true):leftN (addP most rd acc s).2<leftN s:=by
 have h1:=hp s hl h
 unfold addP
 split
 ·exact left_step hl hw h1.1 (.inl (fail_ne 4 (by decide) s))
 ·exact left_step hl hw h1.1 h1.2
theorem elems_more {β:Type} (ws:List TokV) (p:PSt→Bool) (most:Nat) (rd:PSt→β×PSt) (n:Nat) (acc:List β) (s:PSt) (h:p s=true) :
  elemsP ws p most rd (n+1) acc s=elemsP ws p most rd n (addP most rd acc s).1 (sepP ws (addP most rd acc s).2):=by
 conv=>lhs;unfold elemsP
 rw [if_pos h]
theorem elems_done {β:Type} (ws:List TokV) (p:PSt→Bool) (most:Nat) (rd:PSt→β×PSt) (n:Nat) (acc:List β) (s:PSt) (h:p s=false):elemsP ws p most rd n acc s=(acc,s):=by
 cases n with
 | zero=>rfl
 | succ n=>unfold elemsP;rw [h];rfl
theorem add_len {β:Type} (most:Nat) (rd:PSt→β×PSt) (acc:List β) (s:PSt) (h:acc.length≤most):(addP most rd acc s).1.length≤most:=by
 unfold addP
 split
 ·exact h
 ·simp;omega
theorem makeFunc_run (fn:Fn) (first cap:Array Value) (w:World):(Instr.makeFunc fn first cap).run Tryz.prog w = .ok (.func fn first cap) w:=rfl
theorem Fr.toOth {b B:Nat} {v v':Value} {w w1 w':World} (h:Fr b v w1 v' w') (ho:Oth b w w1) (hv:∀ k,v.ownBlock=some k→B≤k) (hB:w.heap.size≤B):Oth b w w' :=
 ⟨h.os.trans ho.os,h.tape.trans ho.tape,h.output.trans ho.output,Nat.le_trans ho.size h.size,fun k hk hb =>
  (h.block k (Nat.lt_of_lt_of_le hk ho.size) hb (fun e=>by have:=hv k e;omega)).trans (ho.block k hk hb)⟩
section
variable {α β:Type} {f:α→Array Value} {k:Nat} {T:TypeId} {R:World→(Nat→Prop)→α→β→Prop}
theorem fresh_but (hR:Lasts R) {B:Nat} {w w':World} {v:Value} {x:α} {y:β} (h:R w' (Fm w.heap.size) x y) (hB:B≤w.heap.size) (hv:∀ g,v.ownBlock=some g→g<w.heap.size):R w' (But (Fm B) v) x y :=
 hR ⟨fun _ _ _=>rfl,fun g hg _=>⟨Nat.le_trans hB hg,fun e=>by have:=hv g e;have:w.heap.size≤g:=hg;omega⟩⟩ h
end
theorem PC.fr {w w':World} {b c B:Nat} {A:Option Addr} {ws:List TokV} {s:PSt} {v v':Value} (h:PC w b A c ws s) (hf:Fr b v w v' w') (hv:∀ g,v.ownBlock=some g→B≤g) (hb:b<B) (hw:∀ k,k<w.heap.size→v.ownBlock≠some k→w'.heap[k]? = w.heap[k]?):PC w' b A c ws s:=by
 have h1:=h.b1
 have h2:=h.b2
 have hv1:∀ g,g≤b→v.ownBlock≠some g:=fun g hg e=>by have:=hv g e;omega
 refine ⟨⟨h.cur.1,(hw b h.cur.lt (hv1 b (Nat.le_refl _))).trans h.cur.2⟩,fun h0=>?_,h.ab,h.le,hf.tab h.tab (Nat.ne_of_lt h1) (hv1 _ (Nat.le_of_lt h1)),hf.maxC h.mx (Nat.ne_of_lt h2) (hv1 _ (Nat.le_of_lt h2)),h.b1,h.b2,h.fin,h.lt,h.el⟩
 obtain ⟨g,e,hg,hc⟩:=h.rd h0
 refine ⟨g,e,Nat.lt_of_lt_of_le hg hf.size,fun i hi j hj=>?_⟩
 rw [← hc i hi j hj]
 have hgb:=h.ab g e
 unfold World.cell?
 simp only
 rw [hf.block g hg (by omega) (hv1 g (by omega))]
end Go.Proofs.YtbblfkdmkpkmcaaGreatDoor
namespace Go.Proofs.YtbblfkdmkpkmcaaGreatDoor
open Go.RowKit
theorem cell_newP {w:World} {cs:Array Value} {T:TypeId} {g j:Nat} (hg:g=w.heap.size):(w.alloc (.cells cs T)).cell? ⟨g,j,none⟩=cs[j]?:=by
 subst hg;exact (Blk.new w cs T).cell j
theorem infoC:(Tryz.prog.info? 50).map (fun i=>(i.zero,i.size,i.bytes))=some (some (.agg #[.int .i64 0,.int .i64 0,.int .u64 0,.string ⟨#[]⟩,.slice none 0 0]),5,64):=by kernel_rfl
def vluC (x:ConS):Value:=.agg (conA x)
set_option maxRecDepth 100000 in
set_option maxHeartbeats 3200000 in
theorem addC_any (dp:Nat) (g2 g3:Nat) {w:World} {b c:Nat} {A:Option Addr} {ws:List TokV} {s:PSt} {E:World→Prop} (p:PSt→Bool) (rd:PSt→Con×PSt)
  (hrd:ReadC vluC (RC (dp+1)) b c A ws E 187 #[.pointer (some ⟨g2,0,none⟩),.pointer (some ⟨g3,0,none⟩)] p rd) (h0:PC w b A c ws s) (hE0:E w) (hp:p s=true) (B most:Nat) (v:Value) (acc:List Con) (hv:LC (dp+1) w (Fm B) v acc) (hB:B≤w.heap.size) (hb:b<B) (hm:acc.length≤most) (hm2:most≤100)
  (l:List Con) (s':PSt) (hr:addP most rd acc s=(l,s')) :
  Calls Tryz.prog 217 #[.pointer (some ⟨b,0,none⟩),v,.int .i64 (most:Int),.func (.func 187) #[] #[.pointer (some ⟨g2,0,none⟩),.pointer (some ⟨g3,0,none⟩)]] w fun e w'=>∃ v',e = .returned v'∧LC (dp+1) w' (Fm B) v' l∧PC w' b A c ws s'∧Fr b v w v' w':=by
 have H:=Lib.hid h0
 have HV:=Lib.hid hv
 obtain ⟨Av,cv,xs,rfl,hxs,hcv,hcm,-,-⟩:=hv.sl conA_size
 have HE:=Lib.hid hE0
 have HR:=Lib.hid hr
 have HP:=Lib.hid hp
 have HM:=Lib.hid hm
 clear h0 hv hE0 hr hp hxs
 by_cases hlen:acc.length=most
 ·have b1:((acc.length:Int) == (most:Int))=true:=by rw [beq_iff_eq];omega
  have hx:=HR.out
  unfold addP at hx
  rw [if_pos hlen] at hx
  simp only [Prod.mk.injEq] at hx
  obtain ⟨rfl,rfl⟩:=hx
  clear hlen
  go_enter Tryz.func217,Tryz.ntmps217
  go_wp2_with fail
  refine (fail_any H.out 4 (by decide) (by decide)).mono ?_;rintro e w1 ⟨rfl,hp1,ho1⟩
  go_wp2_with fail
  go_ret
  exact ⟨_,rfl,RepL.oth (RC.lasts _) HV.out ho1 hb,hp1,Fr.oth ho1 _⟩
 ·have b1:((acc.length:Int) == (most:Int))=false:=by rw [beq_eq_false_iff_ne];omega
  have hx:=HR.out
  unfold addP at hx
  rw [if_neg hlen] at hx
  obtain ⟨⟨y,s1⟩,hy⟩:∃ r,Hid (rd s=r):=⟨_,rfl⟩
  rw [hy.out] at hx
  simp only [Prod.mk.injEq] at hx
  obtain ⟨rfl,rfl⟩:=hx
  have HRD:=Lib.hid (hrd w s H.out HE.out HP.out y s1 hy.out)
  have h63:(acc.length:Int)≤100000:=by have:=HM.out;omega
  clear hlen
  go_enter Tryz.func217,Tryz.ntmps217
  go_wp2_with fail
  refine HRD.out.mono ?_;rintro e w1 ⟨⟨xk,xn,xd,xs,xl⟩,rfl,hr1,hp1,ho1⟩
  obtain ⟨xy,-,xh⟩:=RC.of hr1
  obtain ⟨xA,xc,-,rfl,-,-,-,-,-⟩:=xh.sl conA_size
  clear xh
  rw [show vluC ⟨xk,xn,xd,xs,.slice xA xy.length xc⟩ = .agg #[.int .i64 (xk:Int),.int .i64 xn,.int .u64 (xd:Int),.string ⟨xs.toArray⟩,.slice xA xy.length xc] from rfl]
  have HV1:=Lib.hid (RepL.oth (RC.lasts _) HV.out ho1 hb)
  have HX1:=Lib.hid (fresh_but (RC.lasts _) hr1 hB fun g e=>(HV.out.own_lt g e).2)
  have HP1:=Lib.hid hp1
  have HO1:=Lib.hid ho1
  have hB1:B≤w1.heap.size:=Nat.le_trans hB ho1.size
  have HG:=Lib.hid fun g e=>(HV.out.own_lt g e).1
  have HONE:Hid (∀ u ∈ (conA ⟨xk,xn,xd,xs,.slice xA xy.length xc⟩).toList,u.oneCell'=true):=by
   intro u hu
   simp [conA,conA,bt] at hu
   rcases hu with rfl | rfl | rfl | rfl | rfl <;> rfl
  clear hr1 hp1 ho1
  go_wp2_with (at_builtin;go_must (refine wpList_appL _ (RC.lasts _) infoC Tryz.underlying48 rfl (by decide) (by decide) conA_size rfl _ _ rfl B b (.slice Av acc.length cv) acc ⟨xk,xn,xd,xs,.slice xA xy.length xc⟩ y rfl (RepL.nx (RC.lasts _) HV1.out (nx0 _ _)) HONE.out _ rfl (fun j hj=>cell_newP (by simp)) ((RC.lasts _) (Mv.but (Mv.nx (nx0 _ _) (Nat.le_refl _)) _) HX1.out) h63 (Nat.le_trans hB1 (nx0 _ _).size) hb ?_;intro v2 w2 hl2 hf2 hk2;have HL2:=Lib.hid hl2;have HF2:=Lib.hid hf2;have HK2:=Lib.hid hk2;clear hl2 hf2 hk2))
  go_ret
  exact ⟨_,rfl,HL2.out,(HP1.out.nx (nx0 _ _)).fr HF2.out HG.out hb HK2.out,(Fr.oth (HO1.out.trans (Oth.nx (nx0 _ _))) _).trans HF2.out⟩
theorem infoP:(Tryz.prog.info? 206).map (fun i=>(i.zero,i.size,i.bytes))=some (some (.agg #[.int .i64 0,.int .i64 0,.int .u64 0,.string ⟨#[]⟩,.slice none 0 0,.int .i64 0,.int .i64 0,.int .u64 0,.string ⟨#[]⟩,.slice none 0 0]),10,128):=by kernel_rfl
def vluP (x:(ConS×ConS)):Value:=.agg (prA x)
set_option maxRecDepth 100000 in
set_option maxHeartbeats 3200000 in
theorem addP_any (dp:Nat) (g5 g2:Nat) {w:World} {b c:Nat} {A:Option Addr} {ws:List TokV} {s:PSt} {E:World→Prop} (p:PSt→Bool) (rd:PSt→(Con×Con)×PSt)
  (hrd:ReadC vluP (RPr (dp+1)) b c A ws E 189 #[.pointer (some ⟨g5,0,none⟩),.pointer (some ⟨g2,0,none⟩)] p rd) (h0:PC w b A c ws s) (hE0:E w) (hp:p s=true) (B most:Nat) (v:Value) (acc:List (Con×Con)) (hv:LP (dp+1) w (Fm B) v acc) (hB:B≤w.heap.size) (hb:b<B) (hm:acc.length≤most) (hm2:most≤100)
  (l:List (Con×Con)) (s':PSt) (hr:addP most rd acc s=(l,s')) :
  Calls Tryz.prog 218 #[.pointer (some ⟨b,0,none⟩),v,.int .i64 (most:Int),.func (.func 189) #[] #[.pointer (some ⟨g5,0,none⟩),.pointer (some ⟨g2,0,none⟩)]] w fun e w'=>∃ v',e = .returned v'∧LP (dp+1) w' (Fm B) v' l∧PC w' b A c ws s'∧Fr b v w v' w':=by
 have H:=Lib.hid h0
 have HV:=Lib.hid hv
 obtain ⟨Av,cv,xs,rfl,hxs,hcv,hcm,-,-⟩:=hv.sl prA_size
 have HE:=Lib.hid hE0
 have HR:=Lib.hid hr
 have HP:=Lib.hid hp
 have HM:=Lib.hid hm
 clear h0 hv hE0 hr hp hxs
 by_cases hlen:acc.length=most
 ·have b1:((acc.length:Int) == (most:Int))=true:=by rw [beq_iff_eq];omega
  have hx:=HR.out
  unfold addP at hx
  rw [if_pos hlen] at hx
  simp only [Prod.mk.injEq] at hx
  obtain ⟨rfl,rfl⟩:=hx
  clear hlen
  go_enter Tryz.func218,Tryz.ntmps218
  go_wp2_with fail
  refine (fail_any H.out 4 (by decide) (by decide)).mono ?_;rintro e w1 ⟨rfl,hp1,ho1⟩
  go_wp2_with fail
  go_ret
  exact ⟨_,rfl,RepL.oth (RPr.lasts _) HV.out ho1 hb,hp1,Fr.oth ho1 _⟩
 ·have b1:((acc.length:Int) == (most:Int))=false:=by rw [beq_eq_false_iff_ne];omega
  have hx:=HR.out
  unfold addP at hx
  rw [if_neg hlen] at hx
  obtain ⟨⟨y,s1⟩,hy⟩:∃ r,Hid (rd s=r):=⟨_,rfl⟩
  rw [hy.out] at hx
  simp only [Prod.mk.injEq] at hx
  obtain ⟨rfl,rfl⟩:=hx
  have HRD:=Lib.hid (hrd w s H.out HE.out HP.out y s1 hy.out)
  have h63:(acc.length:Int)≤100000:=by have:=HM.out;omega
  clear hlen
  go_enter Tryz.func218,Tryz.ntmps218
  go_wp2_with fail
  refine HRD.out.mono ?_;rintro e w1 ⟨⟨⟨xk,xn,xd,xs,xl⟩,⟨zk,zn,zd,zs,zl⟩⟩,rfl,hr1,hp1,ho1⟩
  obtain ⟨xy,-,xh⟩:=RC.of hr1.1
  obtain ⟨xA,xc,-,rfl,-,-,-,-,-⟩:=xh.sl conA_size
  clear xh
  obtain ⟨zy,-,zh⟩:=RC.of hr1.2
  obtain ⟨zA,zc,-,rfl,-,-,-,-,-⟩:=zh.sl conA_size
  clear zh
  rw [show vluP (⟨xk,xn,xd,xs,.slice xA xy.length xc⟩,⟨zk,zn,zd,zs,.slice zA zy.length zc⟩) = .agg #[.int .i64 (xk:Int),.int .i64 xn,.int .u64 (xd:Int),.string ⟨xs.toArray⟩,.slice xA xy.length xc,.int .i64 (zk:Int),.int .i64 zn,.int .u64 (zd:Int),.string ⟨zs.toArray⟩,.slice zA zy.length zc] from rfl]
  have HV1:=Lib.hid (RepL.oth (RPr.lasts _) HV.out ho1 hb)
  have HX1:=Lib.hid (fresh_but (RPr.lasts _) hr1 hB fun g e=>(HV.out.own_lt g e).2)
  have HP1:=Lib.hid hp1
  have HO1:=Lib.hid ho1
  have hB1:B≤w1.heap.size:=Nat.le_trans hB ho1.size
  have HG:=Lib.hid fun g e=>(HV.out.own_lt g e).1
  have HONE:Hid (∀ u ∈ (prA (⟨xk,xn,xd,xs,.slice xA xy.length xc⟩,⟨zk,zn,zd,zs,.slice zA zy.length zc⟩)).toList,u.oneCell'=true):=by
   intro u hu
   simp [prA,conA,bt] at hu
   rcases hu with rfl | rfl | rfl | rfl | rfl | rfl | rfl | rfl | rfl | rfl <;> rfl
  clear hr1 hp1 ho1
  go_wp2_with (at_builtin;go_must (refine wpList_appL _ (RPr.lasts _) infoP Tryz.underlying208 rfl (by decide) (by decide) prA_size rfl _ _ rfl B b (.slice Av acc.length cv) acc (⟨xk,xn,xd,xs,.slice xA xy.length xc⟩,⟨zk,zn,zd,zs,.slice zA zy.length zc⟩) y rfl (RepL.nx (RPr.lasts _) HV1.out (nx0 _ _)) HONE.out _ rfl (fun j hj=>cell_newP (by simp)) ((RPr.lasts _) (Mv.but (Mv.nx (nx0 _ _) (Nat.le_refl _)) _) HX1.out) h63 (Nat.le_trans hB1 (nx0 _ _).size) hb ?_;intro v2 w2 hl2 hf2 hk2;have HL2:=Lib.hid hl2;have HF2:=Lib.hid hf2;have HK2:=Lib.hid hk2;clear hl2 hf2 hk2))
  go_ret
  exact ⟨_,rfl,HL2.out,(HP1.out.nx (nx0 _ _)).fr HF2.out HG.out hb HK2.out,(Fr.oth (HO1.out.trans (Oth.nx (nx0 _ _))) _).trans HF2.out⟩
theorem infoF:(Tryz.prog.info? 57).map (fun i=>(i.zero,i.size,i.bytes))=some (some (.agg #[.bool false,.int .i64 0,.int .i64 0,.string ⟨#[]⟩,.string ⟨#[]⟩,.bool false,.int .i64 0,.int .i64 0,.int .u64 0,.string ⟨#[]⟩,.slice none 0 0]),11,128):=by kernel_rfl
def vluF (x:FldS):Value:=.agg (fldA x)
set_option maxRecDepth 100000 in
set_option maxHeartbeats 3200000 in
theorem addF_any {w:World} {b c:Nat} {A:Option Addr} {ws:List TokV} {s:PSt} {E:World→Prop} (p:PSt→Bool) (rd:PSt→Fld×PSt)
  (hrd:ReadC vluF RF b c A ws E 151 #[.pointer (some ⟨b,0,none⟩)] p rd) (h0:PC w b A c ws s) (hE0:E w) (hp:p s=true) (B most:Nat) (v:Value) (acc:List Fld) (hv:LF w (Fm B) v acc) (hB:B≤w.heap.size) (hb:b<B) (hm:acc.length≤most) (hm2:most≤100)
  (l:List Fld) (s':PSt) (hr:addP most rd acc s=(l,s')) :
  Calls Tryz.prog 191 #[.pointer (some ⟨b,0,none⟩),v,.int .i64 (most:Int),.func (.func 151) #[.pointer (some ⟨b,0,none⟩)] #[]] w fun e w'=>∃ v',e = .returned v'∧LF w' (Fm B) v' l∧PC w' b A c ws s'∧Fr b v w v' w':=by
 have H:=Lib.hid h0
 have HV:=Lib.hid hv
 obtain ⟨Av,cv,xs,rfl,hxs,hcv,hcm,-,-⟩:=hv.sl fldA_size
 have HE:=Lib.hid hE0
 have HR:=Lib.hid hr
 have HP:=Lib.hid hp
 have HM:=Lib.hid hm
 clear h0 hv hE0 hr hp hxs
 by_cases hlen:acc.length=most
 ·have b1:((acc.length:Int) == (most:Int))=true:=by rw [beq_iff_eq];omega
  have hx:=HR.out
  unfold addP at hx
  rw [if_pos hlen] at hx
  simp only [Prod.mk.injEq] at hx
  obtain ⟨rfl,rfl⟩:=hx
  clear hlen
  go_enter Tryz.func191,Tryz.ntmps191
  go_wp2_with fail
  refine (fail_any H.out 4 (by decide) (by decide)).mono ?_;rintro e w1 ⟨rfl,hp1,ho1⟩
  go_wp2_with fail
  go_ret
  exact ⟨_,rfl,RepL.oth RF.lasts HV.out ho1 hb,hp1,Fr.oth ho1 _⟩
 ·have b1:((acc.length:Int) == (most:Int))=false:=by rw [beq_eq_false_iff_ne];omega
  have hx:=HR.out
  unfold addP at hx
  rw [if_neg hlen] at hx
  obtain ⟨⟨y,s1⟩,hy⟩:∃ r,Hid (rd s=r):=⟨_,rfl⟩
  rw [hy.out] at hx
  simp only [Prod.mk.injEq] at hx
  obtain ⟨rfl,rfl⟩:=hx
  have HRD:=Lib.hid (hrd w s H.out HE.out HP.out y s1 hy.out)
  have h63:(acc.length:Int)≤100000:=by have:=HM.out;omega
  clear hlen
  go_enter Tryz.func191,Tryz.ntmps191
  go_wp2_with fail
  refine HRD.out.mono ?_;rintro e w1 ⟨⟨fh,fi,fr,ft,fn,fI,⟨xk,xn,xd,xs,xl⟩⟩,rfl,hr1,hp1,ho1⟩
  obtain ⟨xy,-,xh⟩:=RC.of hr1.2.2.2.2.2.2
  obtain ⟨xA,xc,-,rfl,-,-,-,-,-⟩:=xh.sl conA_size
  clear xh
  rw [show vluF ⟨fh,fi,fr,ft,fn,fI,⟨xk,xn,xd,xs,.slice xA xy.length xc⟩⟩ = .agg #[.bool fh,.int .i64 fi,.int .i64 (fr:Int),.string ⟨ft.toArray⟩,.string ⟨fn.toArray⟩,.bool fI,.int .i64 (xk:Int),.int .i64 xn,.int .u64 (xd:Int),.string ⟨xs.toArray⟩,.slice xA xy.length xc] from rfl]
  have HV1:=Lib.hid (RepL.oth RF.lasts HV.out ho1 hb)
  have HX1:=Lib.hid (fresh_but RF.lasts hr1 hB fun g e=>(HV.out.own_lt g e).2)
  have HP1:=Lib.hid hp1
  have HO1:=Lib.hid ho1
  have hB1:B≤w1.heap.size:=Nat.le_trans hB ho1.size
  have HG:=Lib.hid fun g e=>(HV.out.own_lt g e).1
  have HONE:Hid (∀ u ∈ (fldA ⟨fh,fi,fr,ft,fn,fI,⟨xk,xn,xd,xs,.slice xA xy.length xc⟩⟩).toList,u.oneCell'=true):=by
   intro u hu
   simp [fldA,conA,bt] at hu
   rcases hu with rfl | rfl | rfl | rfl | rfl | rfl | rfl | rfl | rfl | rfl | rfl <;> rfl
  clear hr1 hp1 ho1
  go_wp2_with (at_builtin;go_must (refine wpList_appL _ RF.lasts infoF Tryz.underlying51 rfl (by decide) (by decide) fldA_size rfl _ _ rfl B b (.slice Av acc.length cv) acc ⟨fh,fi,fr,ft,fn,fI,⟨xk,xn,xd,xs,.slice xA xy.length xc⟩⟩ y rfl (RepL.nx RF.lasts HV1.out (nx0 _ _)) HONE.out _ rfl (fun j hj=>cell_newP (by simp)) (RF.lasts (Mv.but (Mv.nx (nx0 _ _) (Nat.le_refl _)) _) HX1.out) h63 (Nat.le_trans hB1 (nx0 _ _).size) hb ?_;intro v2 w2 hl2 hf2 hk2;have HL2:=Lib.hid hl2;have HF2:=Lib.hid hf2;have HK2:=Lib.hid hk2;clear hl2 hf2 hk2))
  go_ret
  exact ⟨_,rfl,HL2.out,(HP1.out.nx (nx0 _ _)).fr HF2.out HG.out hb HK2.out,(Fr.oth (HO1.out.trans (Oth.nx (nx0 _ _))) _).trans HF2.out⟩
theorem infoM:(Tryz.prog.info? 122).map (fun i=>(i.zero,i.size,i.bytes))=some (some (.agg #[.string ⟨#[]⟩,.bool false,.int .i64 0]),3,32):=by kernel_rfl
def vluM (x:Mem):Value:=.agg (memA x)
set_option maxRecDepth 100000 in
set_option maxHeartbeats 3200000 in
theorem addM_any {w:World} {b c:Nat} {A:Option Addr} {ws:List TokV} {s:PSt} {E:World→Prop} (p:PSt→Bool) (rd:PSt→Mem×PSt)
  (hrd:ReadC vluM (REq (α:=Mem)) b c A ws E 108 #[.pointer (some ⟨b,0,none⟩)] p rd) (h0:PC w b A c ws s) (hE0:E w) (hp:p s=true) (B most:Nat) (v:Value) (acc:List Mem) (hv:LMm w (Fm B) v acc) (hB:B≤w.heap.size) (hb:b<B) (hm:acc.length≤most) (hm2:most≤100)
  (l:List Mem) (s':PSt) (hr:addP most rd acc s=(l,s')) :
  Calls Tryz.prog 148 #[.pointer (some ⟨b,0,none⟩),v,.int .i64 (most:Int),.func (.func 108) #[.pointer (some ⟨b,0,none⟩)] #[]] w fun e w'=>∃ v',e = .returned v'∧LMm w' (Fm B) v' l∧PC w' b A c ws s'∧Fr b v w v' w':=by
 have H:=Lib.hid h0
 have HV:=Lib.hid hv
 obtain ⟨Av,cv,xs,rfl,hxs,hcv,hcm,-,-⟩:=hv.sl memA_size
 have HE:=Lib.hid hE0
 have HR:=Lib.hid hr
 have HP:=Lib.hid hp
 have HM:=Lib.hid hm
 clear h0 hv hE0 hr hp hxs
 by_cases hlen:acc.length=most
 ·have b1:((acc.length:Int) == (most:Int))=true:=by rw [beq_iff_eq];omega
  have hx:=HR.out
  unfold addP at hx
  rw [if_pos hlen] at hx
  simp only [Prod.mk.injEq] at hx
  obtain ⟨rfl,rfl⟩:=hx
  clear hlen
  go_enter Tryz.func148,Tryz.ntmps148
  go_wp2_with fail
  refine (fail_any H.out 4 (by decide) (by decide)).mono ?_;rintro e w1 ⟨rfl,hp1,ho1⟩
  go_wp2_with fail
  go_ret
  exact ⟨_,rfl,RepL.oth REq.lasts HV.out ho1 hb,hp1,Fr.oth ho1 _⟩
 ·have b1:((acc.length:Int) == (most:Int))=false:=by rw [beq_eq_false_iff_ne];omega
  have hx:=HR.out
  unfold addP at hx
  rw [if_neg hlen] at hx
  obtain ⟨⟨y,s1⟩,hy⟩:∃ r,Hid (rd s=r):=⟨_,rfl⟩
  rw [hy.out] at hx
  simp only [Prod.mk.injEq] at hx
  obtain ⟨rfl,rfl⟩:=hx
  have HRD:=Lib.hid (hrd w s H.out HE.out HP.out y s1 hy.out)
  have h63:(acc.length:Int)≤100000:=by have:=HM.out;omega
  clear hlen
  go_enter Tryz.func148,Tryz.ntmps148
  go_wp2_with fail
  refine HRD.out.mono ?_;rintro e w1 ⟨⟨mn,mh,mi⟩,rfl,hr1,hp1,ho1⟩
  rw [show vluM ⟨mn,mh,mi⟩ = .agg #[.string ⟨mn.toArray⟩,.bool mh,.int .i64 mi] from rfl]
  have HV1:=Lib.hid (RepL.oth REq.lasts HV.out ho1 hb)
  have HX1:=Lib.hid (fresh_but REq.lasts hr1 hB fun g e=>(HV.out.own_lt g e).2)
  have HP1:=Lib.hid hp1
  have HO1:=Lib.hid ho1
  have hB1:B≤w1.heap.size:=Nat.le_trans hB ho1.size
  have HG:=Lib.hid fun g e=>(HV.out.own_lt g e).1
  have HONE:Hid (∀ u ∈ (memA ⟨mn,mh,mi⟩).toList,u.oneCell'=true):=by
   intro u hu
   simp [memA,conA,bt] at hu
   rcases hu with rfl | rfl | rfl <;> rfl
  clear hr1 hp1 ho1
  go_wp2_with (at_builtin;go_must (refine wpList_appL _ REq.lasts infoM Tryz.underlying52 rfl (by decide) (by decide) memA_size rfl _ _ rfl B b (.slice Av acc.length cv) acc ⟨mn,mh,mi⟩ y rfl (RepL.nx REq.lasts HV1.out (nx0 _ _)) HONE.out _ rfl (fun j hj=>cell_newP (by simp)) (REq.lasts (Mv.but (Mv.nx (nx0 _ _) (Nat.le_refl _)) _) HX1.out) h63 (Nat.le_trans hB1 (nx0 _ _).size) hb ?_;intro v2 w2 hl2 hf2 hk2;have HL2:=Lib.hid hl2;have HF2:=Lib.hid hf2;have HK2:=Lib.hid hk2;clear hl2 hf2 hk2))
  go_ret
  exact ⟨_,rfl,HL2.out,(HP1.out.nx (nx0 _ _)).fr HF2.out HG.out hb HK2.out,(Fr.oth (HO1.out.trans (Oth.nx (nx0 _ _))) _).trans HF2.out⟩
theorem infoT:(Tryz.prog.info? 124).map (fun i=>(i.zero,i.size,i.bytes))=some (some (.agg #[.string ⟨#[]⟩,.bool false,.string ⟨#[]⟩,.slice none 0 0,.slice none 0 0]),5,88):=by kernel_rfl
def vluT (x:MetS):Value:=.agg (metA x)
set_option maxRecDepth 100000 in
set_option maxHeartbeats 3200000 in
theorem addT_any {w:World} {b c:Nat} {A:Option Addr} {ws:List TokV} {s:PSt} {E:World→Prop} (p:PSt→Bool) (rd:PSt→Met×PSt)
  (hrd:ReadC vluT RM b c A ws E 112 #[.pointer (some ⟨b,0,none⟩)] p rd) (h0:PC w b A c ws s) (hE0:E w) (hp:p s=true) (B most:Nat) (v:Value) (acc:List Met) (hv:LM w (Fm B) v acc) (hB:B≤w.heap.size) (hb:b<B) (hm:acc.length≤most) (hm2:most≤100)
  (l:List Met) (s':PSt) (hr:addP most rd acc s=(l,s')) :
  Calls Tryz.prog 152 #[.pointer (some ⟨b,0,none⟩),v,.int .i64 (most:Int),.func (.func 112) #[.pointer (some ⟨b,0,none⟩)] #[]] w fun e w'=>∃ v',e = .returned v'∧LM w' (Fm B) v' l∧PC w' b A c ws s'∧Fr b v w v' w':=by
 have H:=Lib.hid h0
 have HV:=Lib.hid hv
 obtain ⟨Av,cv,xs,rfl,hxs,hcv,hcm,-,-⟩:=hv.sl metA_size
 have HE:=Lib.hid hE0
 have HR:=Lib.hid hr
 have HP:=Lib.hid hp
 have HM:=Lib.hid hm
 clear h0 hv hE0 hr hp hxs
 by_cases hlen:acc.length=most
 ·have b1:((acc.length:Int) == (most:Int))=true:=by rw [beq_iff_eq];omega
  have hx:=HR.out
  unfold addP at hx
  rw [if_pos hlen] at hx
  simp only [Prod.mk.injEq] at hx
  obtain ⟨rfl,rfl⟩:=hx
  clear hlen
  go_enter Tryz.func152,Tryz.ntmps152
  go_wp2_with fail
  refine (fail_any H.out 4 (by decide) (by decide)).mono ?_;rintro e w1 ⟨rfl,hp1,ho1⟩
  go_wp2_with fail
  go_ret
  exact ⟨_,rfl,RepL.oth RM.lasts HV.out ho1 hb,hp1,Fr.oth ho1 _⟩
 ·have b1:((acc.length:Int) == (most:Int))=false:=by rw [beq_eq_false_iff_ne];omega
  have hx:=HR.out
  unfold addP at hx
  rw [if_neg hlen] at hx
  obtain ⟨⟨y,s1⟩,hy⟩:∃ r,Hid (rd s=r):=⟨_,rfl⟩
  rw [hy.out] at hx
  simp only [Prod.mk.injEq] at hx
  obtain ⟨rfl,rfl⟩:=hx
  have HRD:=Lib.hid (hrd w s H.out HE.out HP.out y s1 hy.out)
  have h63:(acc.length:Int)≤100000:=by have:=HM.out;omega
  clear hlen
  go_enter Tryz.func152,Tryz.ntmps152
  go_wp2_with fail
  refine HRD.out.mono ?_;rintro e w1 ⟨⟨mn,mo,mr,ma,mt⟩,rfl,hr1,hp1,ho1⟩
  obtain ⟨uA,uc,-,rfl,-,-,-,-,-⟩:=(hr1.2.2.2.1).sl fldA_size
  obtain ⟨zA,zc,-,rfl,-,-,-,-,-⟩:=(hr1.2.2.2.2).sl fldA_size
  rw [show vluT ⟨mn,mo,mr,.slice uA y.args.length uc,.slice zA y.thr.length zc⟩ = .agg #[.string ⟨mn.toArray⟩,.bool mo,.string ⟨mr.toArray⟩,.slice uA y.args.length uc,.slice zA y.thr.length zc] from rfl]
  have HV1:=Lib.hid (RepL.oth RM.lasts HV.out ho1 hb)
  have HX1:=Lib.hid (fresh_but RM.lasts hr1 hB fun g e=>(HV.out.own_lt g e).2)
  have HP1:=Lib.hid hp1
  have HO1:=Lib.hid ho1
  have hB1:B≤w1.heap.size:=Nat.le_trans hB ho1.size
  have HG:=Lib.hid fun g e=>(HV.out.own_lt g e).1
  have HONE:Hid (∀ u ∈ (metA ⟨mn,mo,mr,.slice uA y.args.length uc,.slice zA y.thr.length zc⟩).toList,u.oneCell'=true):=by
   intro u hu
   simp [metA,conA,bt] at hu
   rcases hu with rfl | rfl | rfl | rfl | rfl <;> rfl
  clear hr1 hp1 ho1
  go_wp2_with (at_builtin;go_must (refine wpList_appL _ RM.lasts infoT Tryz.underlying53 rfl (by decide) (by decide) metA_size rfl _ _ rfl B b (.slice Av acc.length cv) acc ⟨mn,mo,mr,.slice uA y.args.length uc,.slice zA y.thr.length zc⟩ y rfl (RepL.nx RM.lasts HV1.out (nx0 _ _)) HONE.out _ rfl (fun j hj=>cell_newP (by simp)) (RM.lasts (Mv.but (Mv.nx (nx0 _ _) (Nat.le_refl _)) _) HX1.out) h63 (Nat.le_trans hB1 (nx0 _ _).size) hb ?_;intro v2 w2 hl2 hf2 hk2;have HL2:=Lib.hid hl2;have HF2:=Lib.hid hf2;have HK2:=Lib.hid hk2;clear hl2 hf2 hk2))
  go_ret
  exact ⟨_,rfl,HL2.out,(HP1.out.nx (nx0 _ _)).fr HF2.out HG.out hb HK2.out,(Fr.oth (HO1.out.trans (Oth.nx (nx0 _ _))) _).trans HF2.out⟩
theorem infoD:(Tryz.prog.info? 55).map (fun i=>(i.zero,i.size,i.bytes))=some (some (.agg #[.int .i64 0,.string ⟨#[]⟩,.string ⟨#[]⟩,.int .i64 0,.int .i64 0,.int .u64 0,.string ⟨#[]⟩,.slice none 0 0,.slice none 0 0,.slice none 0 0,.string ⟨#[]⟩,.slice none 0 0]),12,192):=by kernel_rfl
def vluD (x:DfnS):Value:=.agg (dfnA x)
set_option maxRecDepth 100000 in
set_option maxHeartbeats 3200000 in
theorem addD_any {w:World} {b c:Nat} {A:Option Addr} {ws:List TokV} {s:PSt} {E:World→Prop} (p:PSt→Bool) (rd:PSt→Dfn×PSt)
  (hrd:ReadC vluD RD b c A ws E 56 #[.pointer (some ⟨b,0,none⟩)] p rd) (h0:PC w b A c ws s) (hE0:E w) (hp:p s=true) (B most:Nat) (v:Value) (acc:List Dfn) (hv:LD w (Fm B) v acc) (hB:B≤w.heap.size) (hb:b<B) (hm:acc.length≤most) (hm2:most≤100)
  (l:List Dfn) (s':PSt) (hr:addP most rd acc s=(l,s')) :
  Calls Tryz.prog 98 #[.pointer (some ⟨b,0,none⟩),v,.int .i64 (most:Int),.func (.func 56) #[.pointer (some ⟨b,0,none⟩)] #[]] w fun e w'=>∃ v',e = .returned v'∧LD w' (Fm B) v' l∧PC w' b A c ws s'∧Fr b v w v' w':=by
 have H:=Lib.hid h0
 have HV:=Lib.hid hv
 obtain ⟨Av,cv,xs,rfl,hxs,hcv,hcm,-,-⟩:=hv.sl dfnA_size
 have HE:=Lib.hid hE0
 have HR:=Lib.hid hr
 have HP:=Lib.hid hp
 have HM:=Lib.hid hm
 clear h0 hv hE0 hr hp hxs
 by_cases hlen:acc.length=most
 ·have b1:((acc.length:Int) == (most:Int))=true:=by rw [beq_iff_eq];omega
  have hx:=HR.out
  unfold addP at hx
  rw [if_pos hlen] at hx
  simp only [Prod.mk.injEq] at hx
  obtain ⟨rfl,rfl⟩:=hx
  clear hlen
  go_enter Tryz.func98,Tryz.ntmps98
  go_wp2_with fail
  refine (fail_any H.out 4 (by decide) (by decide)).mono ?_;rintro e w1 ⟨rfl,hp1,ho1⟩
  go_wp2_with fail
  go_ret
  exact ⟨_,rfl,RepL.oth RD.lasts HV.out ho1 hb,hp1,Fr.oth ho1 _⟩
 ·have b1:((acc.length:Int) == (most:Int))=false:=by rw [beq_eq_false_iff_ne];omega
  have hx:=HR.out
  unfold addP at hx
  rw [if_neg hlen] at hx
  obtain ⟨⟨y,s1⟩,hy⟩:∃ r,Hid (rd s=r):=⟨_,rfl⟩
  rw [hy.out] at hx
  simp only [Prod.mk.injEq] at hx
  obtain ⟨rfl,rfl⟩:=hx
  have HRD:=Lib.hid (hrd w s H.out HE.out HP.out y s1 hy.out)
  have h63:(acc.length:Int)≤100000:=by have:=HM.out;omega
  clear hlen
  go_enter Tryz.func98,Tryz.ntmps98
  go_wp2_with fail
  refine HRD.out.mono ?_;rintro e w1 ⟨⟨dk,dn,dt,⟨xk,xn,xd,xs,xl⟩,df,dm,de,ds⟩,rfl,hr1,hp1,ho1⟩
  obtain ⟨xy,-,xh⟩:=RC.of hr1.2.2.2.1
  obtain ⟨xA,xc,-,rfl,-,-,-,-,-⟩:=xh.sl conA_size
  clear xh
  obtain ⟨uA,uc,-,rfl,-,-,-,-,-⟩:=(hr1.2.2.2.2.1).sl fldA_size
  obtain ⟨zA,zc,-,rfl,-,-,-,-,-⟩:=(hr1.2.2.2.2.2.1).sl memA_size
  obtain ⟨qA,qc,-,rfl,-,-,-,-,-⟩:=(hr1.2.2.2.2.2.2.2).sl metA_size
  rw [show vluD ⟨dk,dn,dt,⟨xk,xn,xd,xs,.slice xA xy.length xc⟩,.slice uA y.fields.length uc,.slice zA y.mems.length zc,de,.slice qA y.mets.length qc⟩ = .agg #[.int .i64 (dk:Int),.string ⟨dn.toArray⟩,.string ⟨dt.toArray⟩,.int .i64 (xk:Int),.int .i64 xn,.int .u64 (xd:Int),.string ⟨xs.toArray⟩,.slice xA xy.length xc,.slice uA y.fields.length uc,.slice zA y.mems.length zc,.string ⟨de.toArray⟩,.slice qA y.mets.length qc] from rfl]
  have HV1:=Lib.hid (RepL.oth RD.lasts HV.out ho1 hb)
  have HX1:=Lib.hid (fresh_but RD.lasts hr1 hB fun g e=>(HV.out.own_lt g e).2)
  have HP1:=Lib.hid hp1
  have HO1:=Lib.hid ho1
  have hB1:B≤w1.heap.size:=Nat.le_trans hB ho1.size
  have HG:=Lib.hid fun g e=>(HV.out.own_lt g e).1
  have HONE:Hid (∀ u ∈ (dfnA ⟨dk,dn,dt,⟨xk,xn,xd,xs,.slice xA xy.length xc⟩,.slice uA y.fields.length uc,.slice zA y.mems.length zc,de,.slice qA y.mets.length qc⟩).toList,u.oneCell'=true):=by
   intro u hu
   simp [dfnA,conA,bt] at hu
   rcases hu with rfl | rfl | rfl | rfl | rfl | rfl | rfl | rfl | rfl | rfl | rfl | rfl <;> rfl
  clear hr1 hp1 ho1
  go_wp2_with (at_builtin;go_must (refine wpList_appL _ RD.lasts infoD Tryz.underlying25 rfl (by decide) (by decide) dfnA_size rfl _ _ rfl B b (.slice Av acc.length cv) acc ⟨dk,dn,dt,⟨xk,xn,xd,xs,.slice xA xy.length xc⟩,.slice uA y.fields.length uc,.slice zA y.mems.length zc,de,.slice qA y.mets.length qc⟩ y rfl (RepL.nx RD.lasts HV1.out (nx0 _ _)) HONE.out _ rfl (fun j hj=>cell_newP (by simp)) (RD.lasts (Mv.but (Mv.nx (nx0 _ _) (Nat.le_refl _)) _) HX1.out) h63 (Nat.le_trans hB1 (nx0 _ _).size) hb ?_;intro v2 w2 hl2 hf2 hk2;have HL2:=Lib.hid hl2;have HF2:=Lib.hid hf2;have HK2:=Lib.hid hk2;clear hl2 hf2 hk2))
  go_ret
  exact ⟨_,rfl,HL2.out,(HP1.out.nx (nx0 _ _)).fr HF2.out HG.out hb HK2.out,(Fr.oth (HO1.out.trans (Oth.nx (nx0 _ _))) _).trans HF2.out⟩
theorem infoS:(Tryz.prog.info? 82).map (fun i=>(i.zero,i.size,i.bytes))=some (some (.agg #[.string ⟨#[]⟩,.string ⟨#[]⟩]),2,32):=by kernel_rfl
def vluS (x:Spc):Value:=.agg (spcA x)
set_option maxRecDepth 100000 in
set_option maxHeartbeats 3200000 in
theorem addS_any {w:World} {b c:Nat} {A:Option Addr} {ws:List TokV} {s:PSt} {E:World→Prop} (p:PSt→Bool) (rd:PSt→Spc×PSt)
  (hrd:ReadC vluS (REq (α:=Spc)) b c A ws E 53 #[.pointer (some ⟨b,0,none⟩)] p rd) (h0:PC w b A c ws s) (hE0:E w) (hp:p s=true) (B most:Nat) (v:Value) (acc:List Spc) (hv:LS w (Fm B) v acc) (hB:B≤w.heap.size) (hb:b<B) (hm:acc.length≤most) (hm2:most≤100)
  (l:List Spc) (s':PSt) (hr:addP most rd acc s=(l,s')) :
  Calls Tryz.prog 52 #[.pointer (some ⟨b,0,none⟩),v,.int .i64 (most:Int),.func (.func 53) #[.pointer (some ⟨b,0,none⟩)] #[]] w fun e w'=>∃ v',e = .returned v'∧LS w' (Fm B) v' l∧PC w' b A c ws s'∧Fr b v w v' w':=by
 have H:=Lib.hid h0
 have HV:=Lib.hid hv
 obtain ⟨Av,cv,xs,rfl,hxs,hcv,hcm,-,-⟩:=hv.sl spcA_size
 have HE:=Lib.hid hE0
 have HR:=Lib.hid hr
 have HP:=Lib.hid hp
 have HM:=Lib.hid hm
 clear h0 hv hE0 hr hp hxs
 by_cases hlen:acc.length=most
 ·have b1:((acc.length:Int) == (most:Int))=true:=by rw [beq_iff_eq];omega
  have hx:=HR.out
  unfold addP at hx
  rw [if_pos hlen] at hx
  simp only [Prod.mk.injEq] at hx
  obtain ⟨rfl,rfl⟩:=hx
  clear hlen
  go_enter Tryz.func52,Tryz.ntmps52
  go_wp2_with fail
  refine (fail_any H.out 4 (by decide) (by decide)).mono ?_;rintro e w1 ⟨rfl,hp1,ho1⟩
  go_wp2_with fail
  go_ret
  exact ⟨_,rfl,RepL.oth REq.lasts HV.out ho1 hb,hp1,Fr.oth ho1 _⟩
 ·have b1:((acc.length:Int) == (most:Int))=false:=by rw [beq_eq_false_iff_ne];omega
  have hx:=HR.out
  unfold addP at hx
  rw [if_neg hlen] at hx
  obtain ⟨⟨y,s1⟩,hy⟩:∃ r,Hid (rd s=r):=⟨_,rfl⟩
  rw [hy.out] at hx
  simp only [Prod.mk.injEq] at hx
  obtain ⟨rfl,rfl⟩:=hx
  have HRD:=Lib.hid (hrd w s H.out HE.out HP.out y s1 hy.out)
  have h63:(acc.length:Int)≤100000:=by have:=HM.out;omega
  clear hlen
  go_enter Tryz.func52,Tryz.ntmps52
  go_wp2_with fail
  refine HRD.out.mono ?_;rintro e w1 ⟨⟨so,sn⟩,rfl,hr1,hp1,ho1⟩
  rw [show vluS ⟨so,sn⟩ = .agg #[.string ⟨so.toArray⟩,.string ⟨sn.toArray⟩] from rfl]
  have HV1:=Lib.hid (RepL.oth REq.lasts HV.out ho1 hb)
  have HX1:=Lib.hid (fresh_but REq.lasts hr1 hB fun g e=>(HV.out.own_lt g e).2)
  have HP1:=Lib.hid hp1
  have HO1:=Lib.hid ho1
  have hB1:B≤w1.heap.size:=Nat.le_trans hB ho1.size
  have HG:=Lib.hid fun g e=>(HV.out.own_lt g e).1
  have HONE:Hid (∀ u ∈ (spcA ⟨so,sn⟩).toList,u.oneCell'=true):=by
   intro u hu
   simp [spcA,conA,bt] at hu
   rcases hu with rfl | rfl <;> rfl
  clear hr1 hp1 ho1
  go_wp2_with (at_builtin;go_must (refine wpList_appL _ REq.lasts infoS Tryz.underlying24 rfl (by decide) (by decide) spcA_size rfl _ _ rfl B b (.slice Av acc.length cv) acc ⟨so,sn⟩ y rfl (RepL.nx REq.lasts HV1.out (nx0 _ _)) HONE.out _ rfl (fun j hj=>cell_newP (by simp)) (REq.lasts (Mv.but (Mv.nx (nx0 _ _) (Nat.le_refl _)) _) HX1.out) h63 (Nat.le_trans hB1 (nx0 _ _).size) hb ?_;intro v2 w2 hl2 hf2 hk2;have HL2:=Lib.hid hl2;have HF2:=Lib.hid hf2;have HK2:=Lib.hid hk2;clear hl2 hf2 hk2))
  go_ret
  exact ⟨_,rfl,HL2.out,(HP1.out.nx (nx0 _ _)).fr HF2.out HG.out hb HK2.out,(Fr.oth (HO1.out.trans (Oth.nx (nx0 _ _))) _).trans HF2.out⟩
theorem infoI:(Tryz.prog.info? 9).map (fun i=>(i.zero,i.size,i.bytes))=some (some (.string ⟨#[]⟩),1,16):=by kernel_rfl
def vluI (x:(List UInt8)):Value:=.string ⟨x.toArray⟩
set_option maxRecDepth 100000 in
set_option maxHeartbeats 3200000 in
theorem addI_any {w:World} {b c:Nat} {A:Option Addr} {ws:List TokV} {s:PSt} {E:World→Prop} (p:PSt→Bool) (rd:PSt→(List UInt8)×PSt)
  (hrd:ReadC vluI (REq (α:=List UInt8)) b c A ws E 51 #[.pointer (some ⟨b,0,none⟩)] p rd) (h0:PC w b A c ws s) (hE0:E w) (hp:p s=true) (B most:Nat) (v:Value) (acc:List (List UInt8)) (hv:LT w (Fm B) v acc) (hB:B≤w.heap.size) (hb:b<B) (hm:acc.length≤most) (hm2:most≤100)
  (l:List (List UInt8)) (s':PSt) (hr:addP most rd acc s=(l,s')) :
  Calls Tryz.prog 50 #[.pointer (some ⟨b,0,none⟩),v,.int .i64 (most:Int),.func (.func 51) #[.pointer (some ⟨b,0,none⟩)] #[]] w fun e w'=>∃ v',e = .returned v'∧LT w' (Fm B) v' l∧PC w' b A c ws s'∧Fr b v w v' w':=by
 have H:=Lib.hid h0
 have HV:=Lib.hid hv
 obtain ⟨Av,cv,xs,rfl,hxs,hcv,hcm,-,-⟩:=hv.sl strA_size
 have HE:=Lib.hid hE0
 have HR:=Lib.hid hr
 have HP:=Lib.hid hp
 have HM:=Lib.hid hm
 clear h0 hv hE0 hr hp hxs
 by_cases hlen:acc.length=most
 ·have b1:((acc.length:Int) == (most:Int))=true:=by rw [beq_iff_eq];omega
  have hx:=HR.out
  unfold addP at hx
  rw [if_pos hlen] at hx
  simp only [Prod.mk.injEq] at hx
  obtain ⟨rfl,rfl⟩:=hx
  clear hlen
  go_enter Tryz.func50,Tryz.ntmps50
  go_wp2_with fail
  refine (fail_any H.out 4 (by decide) (by decide)).mono ?_;rintro e w1 ⟨rfl,hp1,ho1⟩
  go_wp2_with fail
  go_ret
  exact ⟨_,rfl,RepL.oth REq.lasts HV.out ho1 hb,hp1,Fr.oth ho1 _⟩
 ·have b1:((acc.length:Int) == (most:Int))=false:=by rw [beq_eq_false_iff_ne];omega
  have hx:=HR.out
  unfold addP at hx
  rw [if_neg hlen] at hx
  obtain ⟨⟨y,s1⟩,hy⟩:∃ r,Hid (rd s=r):=⟨_,rfl⟩
  rw [hy.out] at hx
  simp only [Prod.mk.injEq] at hx
  obtain ⟨rfl,rfl⟩:=hx
  have HRD:=Lib.hid (hrd w s H.out HE.out HP.out y s1 hy.out)
  have h63:(acc.length:Int)≤100000:=by have:=HM.out;omega
  clear hlen
  go_enter Tryz.func50,Tryz.ntmps50
  go_wp2_with fail
  refine HRD.out.mono ?_;rintro e w1 ⟨x,rfl,hr1,hp1,ho1⟩
  rw [show vluI x = .string ⟨x.toArray⟩ from rfl]
  have HV1:=Lib.hid (RepL.oth REq.lasts HV.out ho1 hb)
  have HX1:=Lib.hid (fresh_but REq.lasts hr1 hB fun g e=>(HV.out.own_lt g e).2)
  have HP1:=Lib.hid hp1
  have HO1:=Lib.hid ho1
  have hB1:B≤w1.heap.size:=Nat.le_trans hB ho1.size
  have HG:=Lib.hid fun g e=>(HV.out.own_lt g e).1
  have HONE:Hid (∀ u ∈ (strA x).toList,u.oneCell'=true):=by
   intro u hu
   simp [strA,conA,bt] at hu
   subst hu;rfl
  clear hr1 hp1 ho1
  go_wp2_with (at_builtin;go_must (refine wpList_appL _ REq.lasts infoI Tryz.underlying23 rfl (by decide) (by decide) strA_size rfl _ _ rfl B b (.slice Av acc.length cv) acc x y rfl (RepL.nx REq.lasts HV1.out (nx0 _ _)) HONE.out _ rfl (fun j hj=>cell_newP (by simp)) (REq.lasts (Mv.but (Mv.nx (nx0 _ _) (Nat.le_refl _)) _) HX1.out) h63 (Nat.le_trans hB1 (nx0 _ _).size) hb ?_;intro v2 w2 hl2 hf2 hk2;have HL2:=Lib.hid hl2;have HF2:=Lib.hid hf2;have HK2:=Lib.hid hk2;clear hl2 hf2 hk2))
  go_ret
  exact ⟨_,rfl,HL2.out,(HP1.out.nx (nx0 _ _)).fr HF2.out HG.out hb HK2.out,(Fr.oth (HO1.out.trans (Oth.nx (nx0 _ _))) _).trans HF2.out⟩
end Go.Proofs.YtbblfkdmkpkmcaaGreatDoor
