/- The document's play: files. -/
import Derived.Test.YtjggghfekakogaaGreatDoorH16
set_option linter.unusedVariables false
set_option linter.unusedSimpArgs false
set_option linter.unnecessarySimpa false
namespace Go.Proofs.YtjggghfekakogaaGreatDoor
open Go.RowKit
theorem filA_size (x:FilS):(filA x).size=3:=rfl
section
variable {α β:Type} {f:α→Array Value} {k:Nat} {T:TypeId} {R:World→(Nat→Prop)→α→β→Prop}
theorem rowL_app (xs ys:List α):rowL f (xs++ys)=rowL f xs++rowL f ys:=List.flatMap_append
variable (w:World) {ops:Array Oper} {rest:List Oper} {o:Oper} {a:Act} {Q:Exit→Act→World→Prop} {sz:Nat} {T2:TypeId} {z:Value}
theorem wpList_appLs (hR:Lasts R) (hinfo:(Tryz.prog.info? T).map (fun i=>(i.zero,i.size,i.bytes))=some (some z,k,sz)) (hund:Tryz.prog.underlying T2=some (.slice T)) (hzs:z.cells.size=k) (hk:0<k) (hsz:sz≤1000)
  (hf:∀ x,(f x).size=k)
  (hgd:o.guard=none) (s x:Operand) (ho:o.op = .call { callee:=.builtin .append,args:=#[s,x],argTypes:=#[T2,T2] })
  (B b:Nat) (v:Value) (l:List β) (v2:Value) (l2:List β) (hs:a.eval s=v) (hrep:RepL f k T R w (Fm B) v l) (hx:a.eval x=v2) (hrep2:RepL f k T R w (But (Fm B) v) v2 l2) (hpos:0<l2.length)
  (hone:∀ P (ex:α) (ey:β),R w P ex ey→∀ u ∈ (f ex).toList,u.oneCell'=true) (h63:(l.length:Int)+(l2.length:Int)≤100000) (hB:B≤w.heap.size) (hb:b<B)
  (h:∀ v' w',RepL f k T R w' (Fm B) v' (l++l2)→Fr b v w v' w'→(∀ k,k<w.heap.size→v.ownBlock≠some k→w'.heap[k]? = w.heap[k]?)→wpList Tryz.prog ops Q rest (a.put o.dst v') w'):wpList Tryz.prog ops Q (o :: rest) a w:=by
 refine wpList_plain hgd fun K hK=>?_
 obtain ⟨i,hi,hz,h1,h2⟩:=info_parts hinfo
 obtain ⟨xs,hsl,hall⟩:=hrep
 obtain ⟨ys,hsl2,hall2⟩:=hrep2
 have hlen:=hall.len
 have hlen2:=hall2.len
 obtain ⟨A2,c2,hv2,-,-,hrd⟩:=hsl2.1.sl hf
 obtain ⟨g2,rfl,hg2,hc2⟩:=hrd (by omega)
 have hcells:∀ j u,(rowL f ys)[j]? = some u→w.cell? ((⟨g2,0,none⟩:Addr).add j)=some u:=by
  intro j u hu
  have hj:j<ys.length * k:=by
   rcases Nat.lt_or_ge j (ys.length * k) with h | h
   ·exact h
   ·rw [List.getElem?_eq_none (by rw [rowL_length hf];exact h)] at hu;cases hu
  have hq:j / k<ys.length:=Nat.div_lt_of_lt_mul (by rw [Nat.mul_comm];exact hj)
  have hm:j % k<k:=Nat.mod_lt _ hk
  have hdm:j / k * k+j % k=j:=by rw [Nat.mul_comm];exact Nat.div_add_mod j k
  have:=hc2 (j / k) hq (j % k) hm
  rw [hdm] at this
  rw [Addr.add_lit,Nat.zero_add,this,← hu]
  have hr:=rowL_get hf ys (j / k) hq (j % k) hm
  rw [hdm] at hr
  exact hr.symm
 have hone2:∀ u ∈ rowL f ys,u.oneCell'=true:=by
  intro u hu
  obtain ⟨y,hy,hyu⟩:=List.mem_flatMap.1 hu
  obtain ⟨j,hj,rfl⟩:=List.getElem_of_mem hy
  exact hone _ _ _ (hall2.at_ j hj (by omega)) u hyu
 obtain ⟨v',w',hrun,ho',hg,_,hob⟩:=run_append_own_at (P:=Tryz.prog) w 0 T2 o.type T i _ k sz hund hi hz h1 h2 hzs hk v xs.length (rowL f xs) hsl.1 ⟨g2,0,none⟩ ys.length c2 (rowL f ys) (rowL_length hf ys) hcells hone2 (by simp [maxLen];omega)
  (by
   have:(xs.length+ys.length) * sz≤100001 * 1000:=Nat.mul_le_mul (by omega) hsz
   omega) (Nat.zero_le _)
 have hfr:Fr b v w v' w':=⟨hg.os,hg.tape,hg.output,hg.size,fun k hk _ hv=>hg.block k hk (fun e=>hv e.symm),fun k e=>by
  rcases hob with h | h
  ·exact .inl (h ▸ e)
  ·rw [h] at e;cases e;exact .inr (Nat.le_refl _)⟩
 have hmv:=hfr.mv hb
 have hmv2:Mv (But (But (Fm B) v) v2) (But (Fm B) v') w w':=⟨fun g hg hl=>hmv.keep g hg.1 hl,fun g hg hl=>hmv.to g hg.1 hl⟩
 have hrep':RepL f k T R w' (Fm B) v' (l++l2):=by
  refine ⟨xs++ys,⟨?_,fun g' e=>?_⟩,All2.app (hall2.mono fun _ _ h=>hR hmv2 h) (hall.mono fun _ _ h=>hR hmv h)⟩
  ·unfold OwnS
   rw [List.length_append,rowL_app]
   exact ho'
  ·rcases hob with h | h
   ·exact hsl.2 g' (h ▸ e)
   ·rw [h] at e;cases e;exact hB
 have:=hK _ _ (h v' w' hrep' hfr (fun k hk hv=>hg.block k hk (fun e=>hv e.symm)))
 unfold Oper.wp execOp
 simp only [ho,resolve,invoke,builtin,Sem.run_bind,Sem.run_pure,Result.andThen_ok,List.map_toArray,List.map_cons,List.map_nil,hs,hx,hv2,hrun]
 exact this
end
theorem RD.one {w:World} {P:Nat→Prop} {x:DfnS} {y:Dfn} (h:RD w P x y):∀ u ∈ (dfnA x).toList,u.oneCell'=true:=by
 obtain ⟨k,nm,ty,⟨ik,iN,iD,iS,iL⟩,fv,mv,ex,tv⟩:=x
 obtain ⟨-,-,-,h4,h5,h6,-,h8⟩:=h
 obtain ⟨l,-,h4l⟩:=RC.of h4
 obtain ⟨_,_,_,e4,-⟩:=RepL.sl conA_size h4l
 obtain ⟨_,_,_,e5,-⟩:=RepL.sl fldA_size h5
 obtain ⟨_,_,_,e6,-⟩:=RepL.sl memA_size h6
 obtain ⟨_,_,_,e8,-⟩:=RepL.sl metA_size h8
 dsimp only at e4 e5 e6 e8
 subst e4 e5 e6 e8
 intro u hu
 simp [dfnA,bt] at hu
 rcases hu with rfl | rfl | rfl | rfl | rfl | rfl | rfl | rfl | rfl | rfl | rfl | rfl <;> rfl
def PFiles (fls:List Fil):Prop :=
 (∃ d1 d2,fls=[⟨[[98,97,115,101]],[⟨[103,111],[97,46,98]⟩],d1⟩,⟨[],[],d2⟩]∧PRest [98,97,115,101,46] d1∧PBase d2)∨(∃ d1 d2,fls=[⟨[],[],d1++d2⟩]∧PBase d1∧PRest [] d2)
def LFi:=RepL filA 3 27 RFile
def PFilesR (b:Nat) (w:World) (B:Nat) (v:Value) (w':World):Prop :=
 ∃ (fls:List Fil) (r':List UInt8),LFi w' (Fm B) v fls∧PFiles fls∧Pk w' b r'∧Oth b w w'
theorem files_fin2 {b B0 C:Nat} {w w4:World} {iv sv v1 v2:Value} {d1 d2:List Dfn} {r:List UInt8} (hI:LT w4 (InB B0 C) iv [[98,97,115,101]]) (hS:LS w4 (InB B0 C) sv [⟨[103,111],[97,46,98]⟩]) (h1:LD w4 (InB B0 C) v1 d1) (h2:LD w4 (InB B0 C) v2 d2)
  (hC:w4.heap.size=C) (hB:B0≤C) (hpk:Pk w4 b r) (hoth:Oth b w w4) (hr:PRest [98,97,115,101,46] d1) (hb:PBase d2) (cs:Array Value) (hcs:cs.toList=rowL filA [⟨iv,sv,v1⟩,⟨nilV,nilV,v2⟩]) :
  PFilesR b w B0 (.slice (some ⟨C,0,none⟩) 2 2) (w4.alloc (.cells cs 27)):=by
 have n3:Nx w4 (w4.alloc (.cells cs 27)):=nx0 _ _
 have kk:∀ g,InB B0 C g→(w4.alloc (.cells cs 27)).heap[g]? = w4.heap[g]?:=fun g hg=>n3.block g (by have:=hg.2;omega)
 have hnew:=heap_alloc_new w4 (.cells cs 27)
 rw [hC] at hnew
 have tq:∀ g,InB B0 C g→But (Fm B0) (.slice (some ⟨C,0,none⟩) 2 2) g:=fun g hg=>⟨hg.1,fun e=>by have:=hg.2;simp only [Value.ownBlock,Option.some.injEq] at e;omega⟩
 have hI3:=RepL.mv REq.lasts ⟨fun g hg _=>kk g hg,fun g hg _=>tq g hg⟩ hI
 have hS3:=RepL.mv REq.lasts ⟨fun g hg _=>kk g hg,fun g hg _=>tq g hg⟩ hS
 have h13:=RepL.mv RD.lasts ⟨fun g hg _=>kk g hg,fun g hg _=>tq g hg⟩ h1
 have h23:=RepL.mv RD.lasts ⟨fun g hg _=>kk g hg,fun g hg _=>tq g hg⟩ h2
 have hpk3:=hpk.nx n3
 have hoth3:=hoth.trans (Oth.nx n3)
 clear hI hS h1 h2 kk tq n3
 generalize w4.alloc (.cells cs 27)=W3 at *
 have hall:All2 (RFile W3 (But (Fm B0) (.slice (some ⟨C,0,none⟩) 2 2))) [⟨iv,sv,v1⟩,⟨nilV,nilV,v2⟩] [⟨[[98,97,115,101]],[⟨[103,111],[97,46,98]⟩],d1⟩,⟨[],[],d2⟩] :=
  ⟨⟨hI3,hS3,h13⟩,⟨RepL.nil_,RepL.nil_,h23⟩,trivial⟩
 have hld:LFi W3 (Fm B0) (.slice (some ⟨C,0,none⟩) 2 2) [⟨[[98,97,115,101]],[⟨[103,111],[97,46,98]⟩],d1⟩,⟨[],[],d2⟩] :=
  RepL.built filA_size hcs hnew (show B0≤C from hB) (show 2≤maxLen by decide) hall
 exact ⟨_,r,hld,.inl ⟨d1,d2,rfl,hr,hb⟩,hpk3,hoth3⟩
theorem files_fin1 {b B0 C:Nat} {w w4:World} {v1:Value} {d1 d2:List Dfn} {r:List UInt8} (h1:LD w4 (InB B0 C) v1 (d1++d2))
  (hC:w4.heap.size=C) (hB:B0≤C) (hpk:Pk w4 b r) (hoth:Oth b w w4) (hb:PBase d1) (hr:PRest [] d2) (cs:Array Value) (hcs:cs.toList=rowL filA [⟨nilV,nilV,v1⟩]) :
  PFilesR b w B0 (.slice (some ⟨C,0,none⟩) 1 1) (w4.alloc (.cells cs 27)):=by
 have n3:Nx w4 (w4.alloc (.cells cs 27)):=nx0 _ _
 have kk:∀ g,InB B0 C g→(w4.alloc (.cells cs 27)).heap[g]? = w4.heap[g]?:=fun g hg=>n3.block g (by have:=hg.2;omega)
 have hnew:=heap_alloc_new w4 (.cells cs 27)
 rw [hC] at hnew
 have tq:∀ g,InB B0 C g→But (Fm B0) (.slice (some ⟨C,0,none⟩) 1 1) g:=fun g hg=>⟨hg.1,fun e=>by have:=hg.2;simp only [Value.ownBlock,Option.some.injEq] at e;omega⟩
 have h13:=RepL.mv RD.lasts ⟨fun g hg _=>kk g hg,fun g hg _=>tq g hg⟩ h1
 have hpk3:=hpk.nx n3
 have hoth3:=hoth.trans (Oth.nx n3)
 clear h1 kk tq n3
 generalize w4.alloc (.cells cs 27)=W3 at *
 have hall:All2 (RFile W3 (But (Fm B0) (.slice (some ⟨C,0,none⟩) 1 1))) [⟨nilV,nilV,v1⟩] [⟨[],[],d1++d2⟩] :=
  ⟨⟨RepL.nil_,RepL.nil_,h13⟩,trivial⟩
 have hld:LFi W3 (Fm B0) (.slice (some ⟨C,0,none⟩) 1 1) [⟨[],[],d1++d2⟩] :=
  RepL.built filA_size hcs hnew (show B0≤C from hB) (show 1≤maxLen by decide) hall
 exact ⟨_,r,hld,.inr ⟨d1,d2,rfl,hb,hr⟩,hpk3,hoth3⟩
set_option maxRecDepth 100000 in
set_option maxHeartbeats 6400000 in
theorem plFiles_any (b:Nat) (r:List UInt8) (w:World) (hP:Pk w b r) :
  Calls Tryz.prog 20 #[.pointer (some ⟨b,0,none⟩)] w fun e w'=>∃ v,e = .returned v∧PFilesR b w w.heap.size v w':=by
 obtain ⟨B0,hB0e⟩:∃ B0,w.heap.size=B0:=⟨_,rfl⟩
 rw [hB0e]
 have hb0:b<B0:=by rw [← hB0e];exact hP.lt
 have HWB:Hid (w.heap.size=B0):=hB0e
 have HP:=Lib.hid hP
 clear hP hB0e
 go_enter Tryz.func20,Tryz.ntmps20
 go_wp2_with fail
 refine (num_any b 3 r w HP.out (by decide) (by decide)).mono ?_;rintro e w1 ⟨rfl,hP1,hO1⟩
 have hkn:=numP_lt 3 (by decide) r
 obtain ⟨n,r1,hN⟩:∃ n r1,numP 3 r=(n,r1):=⟨_,_,rfl⟩
 rw [hN] at hP1 hkn ⊢
 dsimp only at hP1 hkn ⊢
 have hB1:B0≤w1.heap.size:=by rw [← HWB.out];exact hO1.size
 have HP1:=Lib.hid hP1
 have HO1:=Lib.hid hO1
 clear hN hP1 hO1 HP
 by_cases h0:n=0
 ·subst h0
  obtain ⟨g1,hg1⟩:∃ g1,w1.heap.size=g1:=⟨_,rfl⟩
  have n2:Nx w1 ((w1.alloc (.cells #[.string ⟨#[98,97,115,101]⟩] 9)).alloc (.cells #[.string ⟨#[103,111]⟩,.string ⟨#[97,46,98]⟩] 50)):=Nx.al (nx0 _ _) _
  have hz2:((w1.alloc (.cells #[.string ⟨#[98,97,115,101]⟩] 9)).alloc (.cells #[.string ⟨#[103,111]⟩,.string ⟨#[97,46,98]⟩] 50)).heap.size=g1+2:=by simp [hg1]
  have hi2:LT ((w1.alloc (.cells #[.string ⟨#[98,97,115,101]⟩] 9)).alloc (.cells #[.string ⟨#[103,111]⟩,.string ⟨#[97,46,98]⟩] 50)) (InB B0 (g1+2)) (.slice (some ⟨g1,0,none⟩) 1 1) [[98,97,115,101]]:=by
   have:=(Blk.new w1 #[.string ⟨#[98,97,115,101]⟩] 9).alloc (.cells #[.string ⟨#[103,111]⟩,.string ⟨#[97,46,98]⟩] 50)
   rw [hg1] at this
   exact RepL.built strA_size (xs:=[[98,97,115,101]]) rfl this.2 ⟨by omega,by omega⟩ (show 1≤maxLen by decide) ⟨rfl,trivial⟩
  have hs2:LS ((w1.alloc (.cells #[.string ⟨#[98,97,115,101]⟩] 9)).alloc (.cells #[.string ⟨#[103,111]⟩,.string ⟨#[97,46,98]⟩] 50)) (InB B0 (g1+2)) (.slice (some ⟨g1+1,0,none⟩) 1 1) [⟨[103,111],[97,46,98]⟩]:=by
   have:=Blk.new (w1.alloc (.cells #[.string ⟨#[98,97,115,101]⟩] 9)) #[.string ⟨#[103,111]⟩,.string ⟨#[97,46,98]⟩] 50
   rw [show (w1.alloc (.cells #[.string ⟨#[98,97,115,101]⟩] 9)).heap.size=g1+1 by simp [hg1]] at this
   exact RepL.built spcA_size (xs:=[⟨[103,111],[97,46,98]⟩]) rfl this.2 ⟨by omega,by omega⟩ (show 1≤maxLen by decide) ⟨rfl,trivial⟩
  have HZ2:=Lib.hid hz2
  have HI2:=Lib.hid hi2
  have HS2:=Lib.hid hs2
  have HP2:=Lib.hid (HP1.out.nx n2)
  have HO2:=Lib.hid (HO1.out.trans (Oth.nx n2))
  clear hz2 hi2 hs2 n2
  go_wp2_with fail
  refine (plRest_any b ⟨#[98,97,115,101,46]⟩ [98,97,115,101,46] r1 _ rfl (by decide) HP2.out).mono ?_;rintro e w3 ⟨v,rfl,d1,r3,hld,hpr,hP3,hO3⟩
  obtain ⟨A1,c1,-,rfl,-,-,-,-,-⟩:=hld.sl dfnA_size
  rw [HZ2.out] at hld
  have h23:g1+2≤w3.heap.size:=by rw [← HZ2.out];exact hO3.size
  have HI3:=Lib.hid (HI2.out.keepIn REq.lasts fun g hg hl=>hO3.block g (by rw [HZ2.out];exact hl) (by omega))
  have HS3:=Lib.hid (HS2.out.keepIn REq.lasts fun g hg hl=>hO3.block g (by rw [HZ2.out];exact hl) (by omega))
  have HD3:=Lib.hid ((RepL.wide RD.lasts hld (Q:=Fm B0) fun g hg _=>by have h2:g1+2≤g:=hg;exact (show B0≤g by omega)).tight RD.lasts)
  have HO3:=Lib.hid (HO2.out.trans hO3)
  have HP3:=Lib.hid hP3
  have HPR:=Lib.hid hpr
  clear hld hpr hP3 hO3 HI2 HS2 HZ2 HP2 HO2
  go_wp2_with fail
  refine (plBase_any b r3 w3 HP3.out).mono ?_;rintro e w4 ⟨v,rfl,d2,r4,hld,hpb,hP4,hO4⟩
  obtain ⟨A2,c2,-,rfl,-,-,-,-,-⟩:=hld.sl dfnA_size
  obtain ⟨C,hC⟩:∃ C,w4.heap.size=C:=⟨_,rfl⟩
  have h34:w3.heap.size≤C:=by rw [← hC];exact hO4.size
  have HI4:=Lib.hid ((HI3.out.keepIn REq.lasts fun g hg hl=>hO4.block g (by omega) (by omega)).wide REq.lasts (Q:=InB B0 C) fun g hg _=>⟨hg.1,by have:=hg.2;omega⟩)
  have HS4:=Lib.hid ((HS3.out.keepIn REq.lasts fun g hg hl=>hO4.block g (by omega) (by omega)).wide REq.lasts (Q:=InB B0 C) fun g hg _=>⟨hg.1,by have:=hg.2;omega⟩)
  have HD4:=Lib.hid ((HD3.out.keepIn RD.lasts fun g hg hl=>hO4.block g hl (by omega)).wide RD.lasts (Q:=InB B0 C) fun g hg _=>⟨hg.1,by have:=hg.2;omega⟩)
  have hE4:=(RepL.wide RD.lasts hld (Q:=Fm B0) fun g hg _=>by have h2:w3.heap.size≤g:=hg;exact (show B0≤g by omega)).tight RD.lasts
  rw [hC] at hE4
  have HE4:=Lib.hid hE4
  have HO4:=Lib.hid (HO3.out.trans hO4)
  have HP4:=Lib.hid hP4
  have HPB:=Lib.hid hpb
  have HC:=Lib.hid hC
  have hBC:B0≤C:=by omega
  clear hld hpb hP4 hO4 hE4
  go_wp2_with fail
  go_ret
  exact ⟨_,rfl,files_fin2 HI4.out HS4.out HD4.out HE4.out HC.out hBC HP4.out HO4.out HPR.out HPB.out _ (by simp [rowL,filA,nilV])⟩
 ·have d0:((n:Int) == 0)=false:=by rw [beq_eq_false_iff_ne];omega
  have d0':¬ (n:Int)=0:=by omega
  go_wp2_with fail
  refine (plBase_any b r1 w1 HP1.out).mono ?_;rintro e w3 ⟨v,rfl,d1,r3,hld,hpb,hP3,hO3⟩
  obtain ⟨A1,c1,-,rfl,-,-,-,-,-⟩:=hld.sl dfnA_size
  have h23:w1.heap.size≤w3.heap.size:=hO3.size
  have HD3:=Lib.hid (RepL.wide RD.lasts hld (Q:=Fm B0) fun g hg _=>by have h2:w1.heap.size≤g:=hg;exact (show B0≤g by omega))
  have HO3:=Lib.hid (HO1.out.trans hO3)
  have HP3:=Lib.hid hP3
  have HPB:=Lib.hid hpb
  clear hld hpb hP3 hO3
  go_wp2_with fail
  refine (plRest_any b ⟨#[]⟩ [] r3 w3 rfl (by decide) HP3.out).mono ?_;rintro e w4 ⟨v,rfl,d2,r4,hld,hpr,hP4,hO4⟩
  obtain ⟨A2,c2,-,rfl,-,-,-,-,-⟩:=hld.sl dfnA_size
  have h34:w3.heap.size≤w4.heap.size:=hO4.size
  have HD4:=Lib.hid (RepL.oth RD.lasts HD3.out hO4 hb0)
  have hown:∀ k,(Value.slice A1 d1.length c1).ownBlock=some k→B0≤k∧k<w3.heap.size:=fun k e=>HD3.out.own_lt k e
  have HE4:=Lib.hid (RepL.wide RD.lasts hld (Q:=But (Fm B0) (.slice A1 d1.length c1)) fun g hg _=>by
   have h2:w3.heap.size≤g:=hg
   exact ⟨(show B0≤g by omega),fun e=>by have:=hown g e;omega⟩)
  have HO4:=Lib.hid (HO3.out.trans hO4)
  have HP4:=Lib.hid hP4
  have HOWN:=Lib.hid hown
  have hl1:d1.length=5:=by
   obtain ⟨ms,ty,c,fs,fu,e,-⟩:=HPB.out.is
   rw [e];rfl
  have hl2:d2.length=4:=by
   obtain ⟨fq,fx,ms,e,-⟩:=hpr.is
   rw [e];rfl
  have HPR:=Lib.hid hpr
  have h63:(d1.length:Int)+(d2.length:Int)≤100000:=by omega
  have hpos:0<d2.length:=by omega
  have hBw:B0≤w4.heap.size:=by omega
  clear hld hpr hP4 hO4 hown hl1 hl2
  go_wp2_with (at_builtin;go_must (refine wpList_appLs _ RD.lasts infoD Tryz.underlying25 rfl (by decide) (by decide) dfnA_size rfl _ _ rfl B0 b (.slice A1 d1.length c1) d1 (.slice A2 d2.length c2) d2 rfl HD4.out rfl HE4.out hpos (fun _ _ _ h=>RD.one h) h63 hBw hb0 ?_;intro v2 w5 hl2 hf2 hk2;obtain ⟨vA,vc,-,rfl,-,-,-,-,-⟩:=RepL.sl dfnA_size hl2;obtain ⟨C,hC⟩:∃ C,w5.heap.size=C:=⟨_,rfl⟩;have hl5:=hl2.tight RD.lasts;rw [hC] at hl5;have HL2:=Lib.hid hl5;have HC:=Lib.hid hC;have HF2:=Lib.hid hf2;have HK2:=Lib.hid hk2;have hwC:w4.heap.size≤C:=Nat.le_trans hf2.size (Nat.le_of_eq hC);clear hl2 hl5 hf2 hk2))
  go_ret
  have hP5:Pk w5 b r4:=HP4.out.keep fun k hk=>HK2.out k (Nat.lt_of_le_of_lt hk HP4.out.lt) (fun e=>by have:=(HOWN.out k e).1;omega)
  exact ⟨_,rfl,files_fin1 HL2.out HC.out (by omega) hP5 (HF2.out.toOth HO4.out (fun k e=>(HOWN.out k e).1) (Nat.le_of_eq HWB.out)) HPB.out HPR.out _ (by simp [rowL,filA,nilV])⟩
end Go.Proofs.YtjggghfekakogaaGreatDoor
