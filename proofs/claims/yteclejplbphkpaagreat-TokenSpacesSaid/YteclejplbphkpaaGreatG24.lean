/- The document's play: files. The document's play: of numbers; the first file. How files are printed: as functions. Plain. -/
import Derived.Test.YteclejplbphkpaaGreatG23
import Derived.Test.YteclejplbphkpaaGreatG18
set_option linter.unusedVariables false
set_option linter.unusedSimpArgs false
set_option linter.unnecessarySimpa false
namespace Go.Proofs.YteclejplbphkpaaGreat
open Go.RowKit
theorem filA_size (x:FilS):(filA x).size=3:=rfl
section
variable {α β:Type} {f:α→Array Value} {k:Nat} {T:TypeId} {R:World→(Nat→Prop)→α→β→Prop}
theorem rowL_app (xs ys:List α):rowL f (xs++ys)=rowL f xs++rowL f ys:=List.flatMap_append
variable (w:World) {ops:Array Oper} {rest:List Oper} {o:Oper} {a:Act} {Q:Exit→Act→World→Prop} {sz:Nat} {T2:TypeId} {z:Value}
theorem wpList_appLs (hR:Lasts R) (hinfo:(Tryz.prog.info? T).map (fun i=>(i.zero,i.size,i.bytes))=some (some z,k,sz)) (hund:Tryz.prog.underlying T2=some (.slice T)) (hzs:z.cells.size=k) (hk:0<k) (hsz:sz≤1000)
  (hf:∀ x,(f x).size=k)
  (hgd:o.guard=none) (s x:Operand) (ho:o.op = .call { callee:=.builtin .append,args:=#[s,x],argTypes:=#[T2,T2] })
  (B b:Nat) (v:Value) (l:List β) (v2:Value) (l2:List β) (hs:a.eval s=v) (hrep:RepL f k T R w (Fm B) v l) (hx:a.eval x=v2) (hrep2:RepL f k T R w (But (Fm B) v) v2 l2) (hpos:0<l2.length)
  (hone:∀ P (ex:α) (ey:β),R w P ex ey→∀ u ∈ (f ex).toList,u.oneCell'=true) (h63:(l.length:Int)+(l2.length:Int)≤100000) (hB:B≤w.heap.size) (hb:b<B)
  (h:∀ v' w',RepL f k T R w' (Fm B) v' (l++l2)→Fr b v w v' w'→(∀ k,k<w.heap.size→v.ownBlock≠some k→w'.heap[k]? = w.heap[k]?)→wpList Tryz.prog ops Q rest (a.put o.dst v') w'):wpList Tryz.prog ops Q (o :: rest) a w:=by
 refine wpList_plain hgd fun K hK=>?_
 obtain ⟨i,hi,hz,h1,h2⟩:=info_parts hinfo
 obtain ⟨xs,hsl,hall⟩:=hrep
 obtain ⟨ys,hsl2,hall2⟩:=hrep2
 have hlen:=hall.len
 have hlen2:=hall2.len
 obtain ⟨A2,c2,hv2,-,-,hrd⟩:=hsl2.1.sl hf
 obtain ⟨g2,rfl,hg2,hc2⟩:=hrd (by omega)
 have hcells:∀ j u,(rowL f ys)[j]? = some u→w.cell? ((⟨g2,0,none⟩:Addr).add j)=some u:=by
  intro j u hu
  have hj:j<ys.length * k:=by
   rcases Nat.lt_or_ge j (ys.length * k) with h | h
   ·exact h
   ·rw [List.getElem?_eq_none (by rw [rowL_length hf];exact h)] at hu;cases hu
  have hq:j / k<ys.length:=Nat.div_lt_of_lt_mul (by rw [Nat.mul_comm];exact hj)
  have hm:j % k<k:=Nat.mod_lt _ hk
  have hdm:j / k * k+j % k=j:=by rw [Nat.mul_comm];exact Nat.div_add_mod j k
  have:=hc2 (j / k) hq (j % k) hm
  rw [hdm] at this
  rw [Addr.add_lit,Nat.zero_add,this,← hu]
  have hr:=rowL_get hf ys (j / k) hq (j % k) hm
  rw [hdm] at hr
  exact hr.symm
 have hone2:∀ u ∈ rowL f ys,u.oneCell'=true:=by
  intro u hu
  obtain ⟨y,hy,hyu⟩:=List.mem_flatMap.1 hu
  obtain ⟨j,hj,rfl⟩:=List.getElem_of_mem hy
  exact hone _ _ _ (hall2.at_ j hj (by omega)) u hyu
 obtain ⟨v',w',hrun,ho',hg,_,hob⟩:=run_append_own_at (P:=Tryz.prog) w 0 T2 o.type T i _ k sz hund hi hz h1 h2 hzs hk v xs.length (rowL f xs) hsl.1 ⟨g2,0,none⟩ ys.length c2 (rowL f ys) (rowL_length hf ys) hcells hone2 (by simp [maxLen];omega)
  (by
   have:(xs.length+ys.length) * sz≤100001 * 1000:=Nat.mul_le_mul (by omega) hsz
   omega) (Nat.zero_le _)
 have hfr:Fr b v w v' w':=⟨hg.os,hg.tape,hg.output,hg.size,fun k hk _ hv=>hg.block k hk (fun e=>hv e.symm),fun k e=>by
  rcases hob with h | h
  ·exact .inl (h ▸ e)
  ·rw [h] at e;cases e;exact .inr (Nat.le_refl _)⟩
 have hmv:=hfr.mv hb
 have hmv2:Mv (But (But (Fm B) v) v2) (But (Fm B) v') w w':=⟨fun g hg hl=>hmv.keep g hg.1 hl,fun g hg hl=>hmv.to g hg.1 hl⟩
 have hrep':RepL f k T R w' (Fm B) v' (l++l2):=by
  refine ⟨xs++ys,⟨?_,fun g' e=>?_⟩,All2.app (hall2.mono fun _ _ h=>hR hmv2 h) (hall.mono fun _ _ h=>hR hmv h)⟩
  ·unfold OwnS
   rw [List.length_append,rowL_app]
   exact ho'
  ·rcases hob with h | h
   ·exact hsl.2 g' (h ▸ e)
   ·rw [h] at e;cases e;exact hB
 have:=hK _ _ (h v' w' hrep' hfr (fun k hk hv=>hg.block k hk (fun e=>hv e.symm)))
 unfold Oper.wp execOp
 simp only [ho,resolve,invoke,builtin,Sem.run_bind,Sem.run_pure,Result.andThen_ok,List.map_toArray,List.map_cons,List.map_nil,hs,hx,hv2,hrun]
 exact this
end
theorem RD.one {w:World} {P:Nat→Prop} {x:DfnS} {y:Dfn} (h:RD w P x y):∀ u ∈ (dfnA x).toList,u.oneCell'=true:=by
 obtain ⟨k,nm,ty,⟨ik,iN,iD,iS,iL⟩,fv,mv,ex,tv⟩:=x
 obtain ⟨-,-,-,h4,h5,h6,-,h8⟩:=h
 obtain ⟨l,-,h4l⟩:=RC.of h4
 obtain ⟨_,_,_,e4,-⟩:=RepL.sl conA_size h4l
 obtain ⟨_,_,_,e5,-⟩:=RepL.sl fldA_size h5
 obtain ⟨_,_,_,e6,-⟩:=RepL.sl memA_size h6
 obtain ⟨_,_,_,e8,-⟩:=RepL.sl metA_size h8
 dsimp only at e4 e5 e6 e8
 subst e4 e5 e6 e8
 intro u hu
 simp [dfnA,bt] at hu
 rcases hu with rfl | rfl | rfl | rfl | rfl | rfl | rfl | rfl | rfl | rfl | rfl | rfl <;> rfl
def PFiles (fls:List Fil):Prop :=
 (∃ d1 d2,fls=[⟨[[98,97,115,101]],[⟨[103,111],[97,46,98]⟩],d1⟩,⟨[],[],d2⟩]∧PRest [98,97,115,101,46] d1∧PBase d2)∨(∃ d1 d2,fls=[⟨[],[],d1++d2⟩]∧PBase d1∧PRest [] d2)
def LFi:=RepL filA 3 33 RFile
def PFilesR (b:Nat) (w:World) (B:Nat) (v:Value) (w':World):Prop :=
 ∃ (fls:List Fil) (r':List UInt8),LFi w' (Fm B) v fls∧PFiles fls∧Pk w' b r'∧Oth b w w'
theorem files_fin2 {b B0 C:Nat} {w w4:World} {iv sv v1 v2:Value} {d1 d2:List Dfn} {r:List UInt8} (hI:LT w4 (InB B0 C) iv [[98,97,115,101]]) (hS:LS w4 (InB B0 C) sv [⟨[103,111],[97,46,98]⟩]) (h1:LD w4 (InB B0 C) v1 d1) (h2:LD w4 (InB B0 C) v2 d2)
  (hC:w4.heap.size=C) (hB:B0≤C) (hpk:Pk w4 b r) (hoth:Oth b w w4) (hr:PRest [98,97,115,101,46] d1) (hb:PBase d2) (cs:Array Value) (hcs:cs.toList=rowL filA [⟨iv,sv,v1⟩,⟨nilV,nilV,v2⟩]) :
  PFilesR b w B0 (.slice (some ⟨C,0,none⟩) 2 2) (w4.alloc (.cells cs 33)):=by
 have n3:Nx w4 (w4.alloc (.cells cs 33)):=nx0 _ _
 have kk:∀ g,InB B0 C g→(w4.alloc (.cells cs 33)).heap[g]? = w4.heap[g]?:=fun g hg=>n3.block g (by have:=hg.2;omega)
 have hnew:=heap_alloc_new w4 (.cells cs 33)
 rw [hC] at hnew
 have tq:∀ g,InB B0 C g→But (Fm B0) (.slice (some ⟨C,0,none⟩) 2 2) g:=fun g hg=>⟨hg.1,fun e=>by have:=hg.2;simp only [Value.ownBlock,Option.some.injEq] at e;omega⟩
 have hI3:=RepL.mv REq.lasts ⟨fun g hg _=>kk g hg,fun g hg _=>tq g hg⟩ hI
 have hS3:=RepL.mv REq.lasts ⟨fun g hg _=>kk g hg,fun g hg _=>tq g hg⟩ hS
 have h13:=RepL.mv RD.lasts ⟨fun g hg _=>kk g hg,fun g hg _=>tq g hg⟩ h1
 have h23:=RepL.mv RD.lasts ⟨fun g hg _=>kk g hg,fun g hg _=>tq g hg⟩ h2
 have hpk3:=hpk.nx n3
 have hoth3:=hoth.trans (Oth.nx n3)
 clear hI hS h1 h2 kk tq n3
 generalize w4.alloc (.cells cs 33)=W3 at *
 have hall:All2 (RFile W3 (But (Fm B0) (.slice (some ⟨C,0,none⟩) 2 2))) [⟨iv,sv,v1⟩,⟨nilV,nilV,v2⟩] [⟨[[98,97,115,101]],[⟨[103,111],[97,46,98]⟩],d1⟩,⟨[],[],d2⟩] :=
  ⟨⟨hI3,hS3,h13⟩,⟨RepL.nil_,RepL.nil_,h23⟩,trivial⟩
 have hld:LFi W3 (Fm B0) (.slice (some ⟨C,0,none⟩) 2 2) [⟨[[98,97,115,101]],[⟨[103,111],[97,46,98]⟩],d1⟩,⟨[],[],d2⟩] :=
  RepL.built filA_size hcs hnew (show B0≤C from hB) (show 2≤maxLen by decide) hall
 exact ⟨_,r,hld,.inl ⟨d1,d2,rfl,hr,hb⟩,hpk3,hoth3⟩
theorem files_fin1 {b B0 C:Nat} {w w4:World} {v1:Value} {d1 d2:List Dfn} {r:List UInt8} (h1:LD w4 (InB B0 C) v1 (d1++d2))
  (hC:w4.heap.size=C) (hB:B0≤C) (hpk:Pk w4 b r) (hoth:Oth b w w4) (hb:PBase d1) (hr:PRest [] d2) (cs:Array Value) (hcs:cs.toList=rowL filA [⟨nilV,nilV,v1⟩]) :
  PFilesR b w B0 (.slice (some ⟨C,0,none⟩) 1 1) (w4.alloc (.cells cs 33)):=by
 have n3:Nx w4 (w4.alloc (.cells cs 33)):=nx0 _ _
 have kk:∀ g,InB B0 C g→(w4.alloc (.cells cs 33)).heap[g]? = w4.heap[g]?:=fun g hg=>n3.block g (by have:=hg.2;omega)
 have hnew:=heap_alloc_new w4 (.cells cs 33)
 rw [hC] at hnew
 have tq:∀ g,InB B0 C g→But (Fm B0) (.slice (some ⟨C,0,none⟩) 1 1) g:=fun g hg=>⟨hg.1,fun e=>by have:=hg.2;simp only [Value.ownBlock,Option.some.injEq] at e;omega⟩
 have h13:=RepL.mv RD.lasts ⟨fun g hg _=>kk g hg,fun g hg _=>tq g hg⟩ h1
 have hpk3:=hpk.nx n3
 have hoth3:=hoth.trans (Oth.nx n3)
 clear h1 kk tq n3
 generalize w4.alloc (.cells cs 33)=W3 at *
 have hall:All2 (RFile W3 (But (Fm B0) (.slice (some ⟨C,0,none⟩) 1 1))) [⟨nilV,nilV,v1⟩] [⟨[],[],d1++d2⟩] :=
  ⟨⟨RepL.nil_,RepL.nil_,h13⟩,trivial⟩
 have hld:LFi W3 (Fm B0) (.slice (some ⟨C,0,none⟩) 1 1) [⟨[],[],d1++d2⟩] :=
  RepL.built filA_size hcs hnew (show B0≤C from hB) (show 1≤maxLen by decide) hall
 exact ⟨_,r,hld,.inr ⟨d1,d2,rfl,hb,hr⟩,hpk3,hoth3⟩
set_option maxRecDepth 100000 in
set_option maxHeartbeats 6400000 in
theorem plFiles_any (b:Nat) (r:List UInt8) (w:World) (hP:Pk w b r) :
  Calls Tryz.prog 8 #[.pointer (some ⟨b,0,none⟩)] w fun e w'=>∃ v,e = .returned v∧PFilesR b w w.heap.size v w':=by
 obtain ⟨B0,hB0e⟩:∃ B0,w.heap.size=B0:=⟨_,rfl⟩
 rw [hB0e]
 have hb0:b<B0:=by rw [← hB0e];exact hP.lt
 have HWB:Hid (w.heap.size=B0):=hB0e
 have HP:=Lib.hid hP
 clear hP hB0e
 go_enter Tryz.func8,Tryz.ntmps8
 go_wp2_with fail
 refine (num_any b 3 r w HP.out (by decide) (by decide)).mono ?_;rintro e w1 ⟨rfl,hP1,hO1⟩
 have hkn:=numP_lt 3 (by decide) r
 obtain ⟨n,r1,hN⟩:∃ n r1,numP 3 r=(n,r1):=⟨_,_,rfl⟩
 rw [hN] at hP1 hkn ⊢
 dsimp only at hP1 hkn ⊢
 have hB1:B0≤w1.heap.size:=by rw [← HWB.out];exact hO1.size
 have HP1:=Lib.hid hP1
 have HO1:=Lib.hid hO1
 clear hN hP1 hO1 HP
 by_cases h0:n=0
 ·subst h0
  obtain ⟨g1,hg1⟩:∃ g1,w1.heap.size=g1:=⟨_,rfl⟩
  have n2:Nx w1 ((w1.alloc (.cells #[.string ⟨#[98,97,115,101]⟩] 9)).alloc (.cells #[.string ⟨#[103,111]⟩,.string ⟨#[97,46,98]⟩] 51)):=Nx.al (nx0 _ _) _
  have hz2:((w1.alloc (.cells #[.string ⟨#[98,97,115,101]⟩] 9)).alloc (.cells #[.string ⟨#[103,111]⟩,.string ⟨#[97,46,98]⟩] 51)).heap.size=g1+2:=by simp [hg1]
  have hi2:LT ((w1.alloc (.cells #[.string ⟨#[98,97,115,101]⟩] 9)).alloc (.cells #[.string ⟨#[103,111]⟩,.string ⟨#[97,46,98]⟩] 51)) (InB B0 (g1+2)) (.slice (some ⟨g1,0,none⟩) 1 1) [[98,97,115,101]]:=by
   have:=(Blk.new w1 #[.string ⟨#[98,97,115,101]⟩] 9).alloc (.cells #[.string ⟨#[103,111]⟩,.string ⟨#[97,46,98]⟩] 51)
   rw [hg1] at this
   exact RepL.built strA_size (xs:=[[98,97,115,101]]) rfl this.2 ⟨by omega,by omega⟩ (show 1≤maxLen by decide) ⟨rfl,trivial⟩
  have hs2:LS ((w1.alloc (.cells #[.string ⟨#[98,97,115,101]⟩] 9)).alloc (.cells #[.string ⟨#[103,111]⟩,.string ⟨#[97,46,98]⟩] 51)) (InB B0 (g1+2)) (.slice (some ⟨g1+1,0,none⟩) 1 1) [⟨[103,111],[97,46,98]⟩]:=by
   have:=Blk.new (w1.alloc (.cells #[.string ⟨#[98,97,115,101]⟩] 9)) #[.string ⟨#[103,111]⟩,.string ⟨#[97,46,98]⟩] 51
   rw [show (w1.alloc (.cells #[.string ⟨#[98,97,115,101]⟩] 9)).heap.size=g1+1 by simp [hg1]] at this
   exact RepL.built spcA_size (xs:=[⟨[103,111],[97,46,98]⟩]) rfl this.2 ⟨by omega,by omega⟩ (show 1≤maxLen by decide) ⟨rfl,trivial⟩
  have HZ2:=Lib.hid hz2
  have HI2:=Lib.hid hi2
  have HS2:=Lib.hid hs2
  have HP2:=Lib.hid (HP1.out.nx n2)
  have HO2:=Lib.hid (HO1.out.trans (Oth.nx n2))
  clear hz2 hi2 hs2 n2
  go_wp2_with fail
  refine (plRest_any b ⟨#[98,97,115,101,46]⟩ [98,97,115,101,46] r1 _ rfl (by decide) HP2.out).mono ?_;rintro e w3 ⟨v,rfl,d1,r3,hld,hpr,hP3,hO3⟩
  obtain ⟨A1,c1,-,rfl,-,-,-,-,-⟩:=hld.sl dfnA_size
  rw [HZ2.out] at hld
  have h23:g1+2≤w3.heap.size:=by rw [← HZ2.out];exact hO3.size
  have HI3:=Lib.hid (HI2.out.keepIn REq.lasts fun g hg hl=>hO3.block g (by rw [HZ2.out];exact hl) (by omega))
  have HS3:=Lib.hid (HS2.out.keepIn REq.lasts fun g hg hl=>hO3.block g (by rw [HZ2.out];exact hl) (by omega))
  have HD3:=Lib.hid ((RepL.wide RD.lasts hld (Q:=Fm B0) fun g hg _=>by have h2:g1+2≤g:=hg;exact (show B0≤g by omega)).tight RD.lasts)
  have HO3:=Lib.hid (HO2.out.trans hO3)
  have HP3:=Lib.hid hP3
  have HPR:=Lib.hid hpr
  clear hld hpr hP3 hO3 HI2 HS2 HZ2 HP2 HO2
  go_wp2_with fail
  refine (plBase_any b r3 w3 HP3.out).mono ?_;rintro e w4 ⟨v,rfl,d2,r4,hld,hpb,hP4,hO4⟩
  obtain ⟨A2,c2,-,rfl,-,-,-,-,-⟩:=hld.sl dfnA_size
  obtain ⟨C,hC⟩:∃ C,w4.heap.size=C:=⟨_,rfl⟩
  have h34:w3.heap.size≤C:=by rw [← hC];exact hO4.size
  have HI4:=Lib.hid ((HI3.out.keepIn REq.lasts fun g hg hl=>hO4.block g (by omega) (by omega)).wide REq.lasts (Q:=InB B0 C) fun g hg _=>⟨hg.1,by have:=hg.2;omega⟩)
  have HS4:=Lib.hid ((HS3.out.keepIn REq.lasts fun g hg hl=>hO4.block g (by omega) (by omega)).wide REq.lasts (Q:=InB B0 C) fun g hg _=>⟨hg.1,by have:=hg.2;omega⟩)
  have HD4:=Lib.hid ((HD3.out.keepIn RD.lasts fun g hg hl=>hO4.block g hl (by omega)).wide RD.lasts (Q:=InB B0 C) fun g hg _=>⟨hg.1,by have:=hg.2;omega⟩)
  have hE4:=(RepL.wide RD.lasts hld (Q:=Fm B0) fun g hg _=>by have h2:w3.heap.size≤g:=hg;exact (show B0≤g by omega)).tight RD.lasts
  rw [hC] at hE4
  have HE4:=Lib.hid hE4
  have HO4:=Lib.hid (HO3.out.trans hO4)
  have HP4:=Lib.hid hP4
  have HPB:=Lib.hid hpb
  have HC:=Lib.hid hC
  have hBC:B0≤C:=by omega
  clear hld hpb hP4 hO4 hE4
  go_wp2_with fail
  go_ret
  exact ⟨_,rfl,files_fin2 HI4.out HS4.out HD4.out HE4.out HC.out hBC HP4.out HO4.out HPR.out HPB.out _ (by simp [rowL,filA,nilV])⟩
 ·have d0:((n:Int) == 0)=false:=by rw [beq_eq_false_iff_ne];omega
  have d0':¬ (n:Int)=0:=by omega
  go_wp2_with fail
  refine (plBase_any b r1 w1 HP1.out).mono ?_;rintro e w3 ⟨v,rfl,d1,r3,hld,hpb,hP3,hO3⟩
  obtain ⟨A1,c1,-,rfl,-,-,-,-,-⟩:=hld.sl dfnA_size
  have h23:w1.heap.size≤w3.heap.size:=hO3.size
  have HD3:=Lib.hid (RepL.wide RD.lasts hld (Q:=Fm B0) fun g hg _=>by have h2:w1.heap.size≤g:=hg;exact (show B0≤g by omega))
  have HO3:=Lib.hid (HO1.out.trans hO3)
  have HP3:=Lib.hid hP3
  have HPB:=Lib.hid hpb
  clear hld hpb hP3 hO3
  go_wp2_with fail
  refine (plRest_any b ⟨#[]⟩ [] r3 w3 rfl (by decide) HP3.out).mono ?_;rintro e w4 ⟨v,rfl,d2,r4,hld,hpr,hP4,hO4⟩
  obtain ⟨A2,c2,-,rfl,-,-,-,-,-⟩:=hld.sl dfnA_size
  have h34:w3.heap.size≤w4.heap.size:=hO4.size
  have HD4:=Lib.hid (RepL.oth RD.lasts HD3.out hO4 hb0)
  have hown:∀ k,(Value.slice A1 d1.length c1).ownBlock=some k→B0≤k∧k<w3.heap.size:=fun k e=>HD3.out.own_lt k e
  have HE4:=Lib.hid (RepL.wide RD.lasts hld (Q:=But (Fm B0) (.slice A1 d1.length c1)) fun g hg _=>by
   have h2:w3.heap.size≤g:=hg
   exact ⟨(show B0≤g by omega),fun e=>by have:=hown g e;omega⟩)
  have HO4:=Lib.hid (HO3.out.trans hO4)
  have HP4:=Lib.hid hP4
  have HOWN:=Lib.hid hown
  have hl1:d1.length=5:=by
   obtain ⟨ms,ty,c,fs,fu,e,-⟩:=HPB.out.is
   rw [e];rfl
  have hl2:d2.length=4:=by
   obtain ⟨fq,fx,ms,e,-⟩:=hpr.is
   rw [e];rfl
  have HPR:=Lib.hid hpr
  have h63:(d1.length:Int)+(d2.length:Int)≤100000:=by omega
  have hpos:0<d2.length:=by omega
  have hBw:B0≤w4.heap.size:=by omega
  clear hld hpr hP4 hO4 hown hl1 hl2
  go_wp2_with (at_builtin;go_must (refine wpList_appLs _ RD.lasts infoD Tryz.underlying31 rfl (by decide) (by decide) dfnA_size rfl _ _ rfl B0 b (.slice A1 d1.length c1) d1 (.slice A2 d2.length c2) d2 rfl HD4.out rfl HE4.out hpos (fun _ _ _ h=>RD.one h) h63 hBw hb0 ?_;intro v2 w5 hl2 hf2 hk2;obtain ⟨vA,vc,-,rfl,-,-,-,-,-⟩:=RepL.sl dfnA_size hl2;obtain ⟨C,hC⟩:∃ C,w5.heap.size=C:=⟨_,rfl⟩;have hl5:=hl2.tight RD.lasts;rw [hC] at hl5;have HL2:=Lib.hid hl5;have HC:=Lib.hid hC;have HF2:=Lib.hid hf2;have HK2:=Lib.hid hk2;have hwC:w4.heap.size≤C:=Nat.le_trans hf2.size (Nat.le_of_eq hC);clear hl2 hl5 hf2 hk2))
  go_ret
  have hP5:Pk w5 b r4:=HP4.out.keep fun k hk=>HK2.out k (Nat.lt_of_le_of_lt hk HP4.out.lt) (fun e=>by have:=(HOWN.out k e).1;omega)
  exact ⟨_,rfl,files_fin1 HL2.out HC.out (by omega) hP5 (HF2.out.toOth HO4.out (fun k e=>(HOWN.out k e).1) (Nat.le_of_eq HWB.out)) HPB.out HPR.out _ (by simp [rowL,filA,nilV])⟩
end Go.Proofs.YteclejplbphkpaaGreat
namespace Go.Proofs.YteclejplbphkpaaGreat
open Go.RowKit
set_option maxRecDepth 100000 in
set_option maxHeartbeats 1600000 in
theorem plMade_any (A:Option Addr) (xs:List UInt8) (c:Nat) (w:World) (hr:Rd bv w A xs) (hx:xs.length≤1000) :
  Calls Tryz.prog 7 #[.slice A xs.length c] w fun e w'=>∃ b,e = .returned (.pointer (some ⟨b,0,none⟩))∧Pk w' b xs∧Nx w w'∧w.heap.size≤b:=by
 have HR:=Lib.hid hr
 have hn0:Nx w (w.alloc (.cells #[.slice A xs.length c,.int .i64 0] 59)):=nx0 _ _
 have hB:=Blk.new w #[.slice A xs.length c,.int .i64 0] 59
 have hpk:Pk (w.alloc (.cells #[.slice A xs.length c,.int .i64 0] 59)) w.heap.size xs:=by
  refine ⟨A,c,0,xs,hB,hx,Nat.zero_le _,rfl,fun h=>?_⟩
  obtain ⟨b,off,rfl,hb,hc⟩:=hr (by cases xs with | nil=>exact absurd rfl h | cons a r=>simp)
  exact ⟨b,off,rfl,hb,fun j hj=>(hn0.cell (p:=⟨b,off+j,none⟩) hb).trans (hc j hj)⟩
 have HPK:=Lib.hid hpk
 have HN0:=Lib.hid hn0
 clear hr hpk hn0 hB
 go_enter Tryz.func7,Tryz.ntmps7
 go_wp2_with fail
 go_ret
 exact ⟨_,rfl,HPK.out,HN0.out,Nat.le_refl _⟩
theorem files_first {B:Nat} {w:World} {v:Value} {fls:List Fil} (h:LFi w (Fm B) v fls) (h0:0<fls.length) :
  ∃ g c x,v = .slice (some ⟨g,0,none⟩) fls.length c∧g<w.heap.size∧(∀ j,j<3→w.cell? ⟨g,j,none⟩=(filA x)[j]?)∧RFile w (Fm B) x fls[0]:=by
 obtain ⟨A,c,xs,rfl,h1,h2,h3,h4,h5⟩:=RepL.sl filA_size h
 obtain ⟨g,rfl,hg,hc⟩:=h4 (by omega)
 refine ⟨g,c,xs[0]'(by omega),rfl,hg,fun j hj=>by have:=hc 0 (by omega) j hj;rw [Nat.zero_mul,Nat.zero_add] at this;exact this,?_⟩
 exact RFile.lasts ⟨fun _ _ _=>rfl,fun _ h _=>h.1⟩ (h5.at_ 0 (by omega) h0)
end Go.Proofs.YteclejplbphkpaaGreat
namespace Go.Proofs.YteclejplbphkpaaGreat
def commaF:List (List UInt8)→List UInt8
 | []=>[]
 | [x]=>x
 | x :: y :: r=>x++[44,32]++commaF (y :: r)
theorem commaF_snoc:∀ (xs:List (List UInt8)) (x:List UInt8),commaF (xs++[x])=if xs=[] then x else commaF xs++[44,32]++x
 | [],x=>rfl
 | [a],x=>by simp [commaF]
 | a :: b :: r,x=>by
  have h:=commaF_snoc (b :: r) x
  rw [if_neg (by simp)] at h ⊢
  show a++[44,32]++commaF ((b :: r)++[x])=(a++[44,32]++commaF (b :: r))++[44,32]++x
  rw [h]
  simp
theorem commaF_len (xs ys:List (List UInt8)):(commaF xs).length≤(commaF (xs++ys)).length:=by
 induction ys generalizing xs with
 | nil=>rw [List.append_nil];exact Nat.le_refl _
 | cons y ys ih =>
  have h1:=ih (xs++[y])
  rw [List.append_assoc] at h1
  refine Nat.le_trans ?_ h1
  rw [commaF_snoc]
  split
  ·rename_i h;subst h;exact Nat.zero_le _
  ·(simp;try omega)
theorem commaF_step (xs:List (List UInt8)) (i:Nat) (hi:i<xs.length):commaF (xs.take (i+1))=(commaF (xs.take i)++if i=0 then [] else [44,32])++xs[i]∧(commaF (xs.take (i+1))).length≤(commaF xs).length:=by
 refine ⟨?_,?_⟩
 ·rw [List.take_add_one,List.getElem?_eq_getElem hi]
  show commaF (xs.take i++[xs[i]])=_
  rw [commaF_snoc]
  by_cases h0:i=0
  ·subst h0
   simp [commaF]
  ·rw [if_neg (by intro h;have:=congrArg List.length h;rw [List.length_take,List.length_nil] at this;omega),if_neg h0]
 ·have:=commaF_len (xs.take (i+1)) (xs.drop (i+1))
  rw [List.take_append_drop] at this
  exact this
def pairsF:List (List UInt8)→List (List UInt8)
 | a :: b :: r=>(a++[58,32]++b) :: pairsF r
 | _=>[]
theorem pairsF_snoc:∀ (n:Nat) (xs:List (List UInt8)) (a b:List UInt8),xs.length=2 * n→pairsF (xs++[a,b])=pairsF xs++[a++[58,32]++b]
 | 0,[],a,b,_=>rfl
 | n+1,x :: y :: r,a,b,h=>by
  have:=pairsF_snoc n r a b (by simp at h;omega)
  show (x++[58,32]++y) :: pairsF (r++[a,b])=_
  rw [this];rfl
theorem pairsF_app:∀ (n:Nat) (xs ys:List (List UInt8)),xs.length=2 * n→pairsF (xs++ys)=pairsF xs++pairsF ys
 | 0,[],ys,_=>by simp [pairsF]
 | n+1,x :: y :: r,ys,h=>by
  have:=pairsF_app n r ys (by simp at h;omega)
  show (x++[58,32]++y) :: pairsF (r++ys)=_
  rw [this];rfl
theorem pairsF_odd:∀ (n:Nat) (xs:List (List UInt8)) (a:List UInt8),xs.length=2 * n→pairsF (xs++[a])=pairsF xs
 | 0,[],a,_=>rfl
 | n+1,x :: y :: r,a,h=>by
  have:=pairsF_odd n r a (by simp at h;omega)
  show (x++[58,32]++y) :: pairsF (r++[a])=_
  rw [this];rfl
theorem pairsF_len:∀ (n:Nat) (xs:List (List UInt8)),xs.length=2 * n→(pairsF xs).length=n
 | 0,[],_=>rfl
 | n+1,x :: y :: r,h=>by
  have:=pairsF_len n r (by simp at h;omega)
  show (pairsF r).length+1=_
  rw [this]
theorem pairsF_step (xs:List (List UInt8)) (i m:Nat) (hm:i=2 * m) (h0:i<xs.length) (h1:i+1<xs.length) :
  commaF (pairsF (xs.take (i+2)))=(commaF (pairsF (xs.take i))++if i=0 then [] else [44,32])++(xs[i]++[58,32]++xs[i+1])∧(commaF (pairsF (xs.take (i+2)))).length≤(commaF (pairsF xs)).length:=by
 refine ⟨?_,?_⟩
 ·have ht:xs.take (i+2)=xs.take i++[xs[i],xs[i+1]]:=by
   have e1:=List.take_append_getElem (l:=xs) (i:=i) h0
   have e2:=List.take_append_getElem (l:=xs) (i:=i+1) h1
   show xs.take (i+1+1)=_
   rw [← e2,← e1,List.append_assoc]
   rfl
  have hl:(xs.take i).length=2 * m:=by rw [List.length_take];omega
  rw [ht,pairsF_snoc m _ _ _ hl,commaF_snoc]
  have hp:=pairsF_len m _ hl
  by_cases hz:i=0
  ·subst hz
   simp [pairsF,commaF]
  ·rw [if_neg (by intro h;rw [h,List.length_nil] at hp;omega),if_neg hz]
 ·have hp:=pairsF_app (m+1) (xs.take (i+2)) (xs.drop (i+2)) (by rw [List.length_take];omega)
  rw [List.take_append_drop] at hp
  rw [hp]
  exact commaF_len _ _
theorem pairsF_end (xs:List (List UInt8)) (i m:Nat) (hm:i=2 * m) (h0:i≤xs.length) (h1:¬ i+1<xs.length):pairsF (xs.take i)=pairsF xs:=by
 by_cases he:xs.length=i
 ·rw [← he,List.take_length]
 ·have h2:xs.length=i+1:=by omega
  have ht:xs=xs.take i++[xs[i]'(by omega)]:=by
   have:=List.take_append_getElem (l:=xs) (i:=i) (by omega)
   rw [this,← h2,List.take_length]
  have:=pairsF_odd m (xs.take i) (xs[i]'(by omega)) (by rw [List.length_take];omega)
  rw [← ht] at this
  exact this.symm
section
variable (tn:Int→List UInt8) (sh:Nat→List UInt8)
def constF:Nat→Con→List UInt8
 | 0,_=>[]
 | n+1,.mk k i d s l =>
  if k=1 then tn i else if k=2 then sh d else if k=3 then (if s.contains 34 then 39 :: (s++[39]) else 34 :: (s++[34])) else if k=4 then s
  else if k=5 then 91 :: (commaF (l.map (constF n))++[93]) else 123 :: (commaF (pairsF (l.map (constF n)))++[125])
def fieldF (f:Fld):List UInt8 :=
 (if f.hasID then tn f.id++[58,32] else [])++(if f.req=1 then [114,101,113,117,105,114,101,100,32] else if f.req=2 then [111,112,116,105,111,110,97,108,32] else [])++f.ty++[32]++f.nm ++
  (if f.hasIn then [32,61,32]++constF tn sh 13 f.ini else [])
def fieldsF (l:List Fld):List UInt8:=commaF (l.map (fieldF tn sh))
end
def okC:Nat→Con→Prop
 | 0,_=>False
 | n+1,.mk k i d s l=>(-9223372036854775808≤i∧i≤9223372036854775807)∧d<18446744073709551616∧l.length≤100000∧∀ y ∈ l,okC n y
end Go.Proofs.YteclejplbphkpaaGreat
