/- The contracts of constants. The contract of constant. -/
import Derived.Test.YtpbjkgpdkopgmaaGreatDoorG23
import Derived.Laws.EntriesVeiled
set_option linter.unusedVariables false
set_option linter.unusedSimpArgs false
set_option linter.unnecessarySimpa false
namespace Go.Proofs.YtpbjkgpdkopgmaaGreatDoor
open Go.RowKit
section
variable {α β:Type} {f:α→Array Value} {k:Nat} {T:TypeId} {R:World→(Nat→Prop)→α→β→Prop}
variable (w:World) {ops:Array Oper} {rest:List Oper} {o:Oper} {a:Act} {Q:Exit→Act→World→Prop} {sz:Nat} {T2:TypeId} {z:Value}
theorem wpList_appL2 (hR:Lasts R) (hinfo:(Tryz.prog.info? T).map (fun i=>(i.zero,i.size,i.bytes))=some (some z,k,sz)) (hund:Tryz.prog.underlying T2=some (.slice T)) (hzs:z.cells.size=k) (hk:0<k) (hsz:sz≤1000)
  (hf:∀ x,(f x).size=k)
  (hgd:o.guard=none) (s x:Operand) (ho:o.op = .call { callee:=.builtin .append,args:=#[s,x],argTypes:=#[T2,T2] })
  (B b:Nat) (v:Value) (l:List β) (ex fx:α) (ey fy:β) (hs:a.eval s=v) (hrep:RepL f k T R w (Fm B) v l) (hone:∀ u ∈ (f ex).toList++(f fx).toList,u.oneCell'=true) (g:Nat) (hx:a.eval x = .slice (some ⟨g,0,none⟩) 2 2)
  (hy:∀ j,j<2 * k→w.cell? ⟨g,j,none⟩=((f ex).toList++(f fx).toList)[j]?) (hey:R w (But (Fm B) v) ex ey) (hfy:R w (But (Fm B) v) fx fy) (h63:(l.length:Int)≤100000) (hB:B≤w.heap.size) (hb:b<B)
  (h:∀ v' w',RepL f k T R w' (Fm B) v' (l++[ey,fy])→Fr b v w v' w'→(∀ k,k<w.heap.size→v.ownBlock≠some k→w'.heap[k]? = w.heap[k]?)→wpList Tryz.prog ops Q rest (a.put o.dst v') w'):wpList Tryz.prog ops Q (o :: rest) a w:=by
 refine wpList_plain hgd fun K hK=>?_
 obtain ⟨i,hi,hz,h1,h2⟩:=info_parts hinfo
 obtain ⟨xs,hsl,hall⟩:=hrep
 have hlen:=hall.len
 have hn2:((f ex).toList++(f fx).toList).length=2 * k:=by rw [List.length_append,Array.length_toList,Array.length_toList,hf,hf];omega
 have hcells:∀ j u,((f ex).toList++(f fx).toList)[j]? = some u→w.cell? ((⟨g,0,none⟩:Addr).add j)=some u:=by
  intro j u hu
  have hj:j<2 * k:=by
   rcases Nat.lt_or_ge j (2 * k) with h | h
   ·exact h
   ·rw [List.getElem?_eq_none (by rw [hn2];exact h)] at hu;cases hu
  rw [Addr.add_lit,Nat.zero_add,hy j hj]
  exact hu
 obtain ⟨v',w',hrun,ho',hg,_,hob⟩:=run_append_own_at (P:=Tryz.prog) w 0 T2 o.type T i _ k sz hund hi hz h1 h2 hzs hk v xs.length (rowL f xs) hsl.1 ⟨g,0,none⟩ 2 2 ((f ex).toList++(f fx).toList) hn2 hcells hone (by simp [maxLen];omega)
  (by
    have:(xs.length+2) * sz≤100002 * 1000:=Nat.mul_le_mul (by omega) hsz
    omega) (Nat.zero_le _)
 have hfr:Fr b v w v' w':=⟨hg.os,hg.tape,hg.output,hg.size,fun k hk _ hv=>hg.block k hk (fun e=>hv e.symm),fun k e=>by
  rcases hob with h | h
  ·exact .inl (h ▸ e)
  ·rw [h] at e;cases e;exact .inr (Nat.le_refl _)⟩
 have hmv:=hfr.mv hb
 have hrep':RepL f k T R w' (Fm B) v' (l++[ey,fy]):=by
  refine ⟨xs++[ex,fx],⟨?_,fun g' e=>?_⟩,All2.app (us:=[ex,fx]) (vs:=[ey,fy]) ⟨hR hmv hey,hR hmv hfy,trivial⟩ (hall.mono fun _ _ h=>hR hmv h)⟩
  ·unfold OwnS
   rw [List.length_append,show xs++[ex,fx]=(xs++[ex])++[fx] by simp,rowL_snoc,rowL_snoc,List.append_assoc]
   exact ho'
  ·rcases hob with h | h
   ·exact hsl.2 g' (h ▸ e)
   ·rw [h] at e;cases e;exact hB
 have:=hK _ _ (h v' w' hrep' hfr (fun k hk hv=>hg.block k hk (fun e=>hv e.symm)))
 unfold Oper.wp execOp
 simp only [ho,resolve,invoke,builtin,Sem.run_bind,Sem.run_pure,Result.andThen_ok,List.map_toArray,List.map_cons,List.map_nil,hs,hx,hrun]
 exact this
end
def conN (ws:List TokV):Nat→PSt→Con×PSt
 | 0,s=>(con0,failP 6 s)
 | r+1,s =>
  if isP ws [91] s then (let a:=elemsP ws (atConP ws) 40 (conP ws r) (ws.length+1) [] (nextP s);(.mk 5 0 0 [] a.1,needP ws [93] a.2))
  else (let a:=elemsP ws (atConP ws) 40 (pairP ws (conP ws r)) (ws.length+1) [] (needP ws [123] s);(.mk 6 0 0 [] (flatP a.1),needP ws [125] a.2))
theorem conN_succ (ws:List TokV) (r:Nat) (s:PSt):conN ws (r+1) s=if isP ws [91] s then (.mk 5 0 0 [] (elemsP ws (atConP ws) 40 (conP ws r) (ws.length+1) [] (nextP s)).1,needP ws [93] (elemsP ws (atConP ws) 40 (conP ws r) (ws.length+1) [] (nextP s)).2)
  else (.mk 6 0 0 [] (flatP (elemsP ws (atConP ws) 40 (pairP ws (conP ws r)) (ws.length+1) [] (needP ws [123] s)).1),needP ws [125] (elemsP ws (atConP ws) 40 (pairP ws (conP ws r)) (ws.length+1) [] (needP ws [123] s)).2):=rfl
theorem conP_eq (ws:List TokV) (r:Nat) (s:PSt):conP ws r s=if !atConP ws s then (con0,failP 2 s) else if (wordP ws s).k=2∨(wordP ws s).k=3∨(wordP ws s).k=4∨(wordP ws s).k=1 then (conV (wordP ws s),nextP s) else conN ws r s:=by
 cases r with
 | zero=>rfl
 | succ r=>rfl
theorem elems_len {β:Type} (ws:List TokV) (p:PSt→Bool) (most:Nat) (rd:PSt→β×PSt):∀ (n:Nat) (acc:List β) (s:PSt),acc.length≤most→(elemsP ws p most rd n acc s).1.length≤most
 | 0,_,_,h=>h
 | n+1,acc,s,h=>by
  unfold elemsP
  split
  ·exact elems_len ws p most rd n _ _ (add_len most rd acc s h)
  ·exact h
theorem RdS.oth {α:Type} {f:α→Array Value} {k:Nat} {w w':World} {A:Option Addr} {xs:List α} {b:Nat} (h:RdS f k w A xs) (ho:Oth b w w') (hA:∀ g,A=some ⟨g,0,none⟩→g≠b):RdS f k w' A xs:=fun h0=>by
 obtain ⟨g,e,hg,hc⟩:=h h0
 refine ⟨g,e,Nat.lt_of_lt_of_le hg ho.size,fun i hi j hj=>?_⟩
 rw [← hc i hi j hj]
 unfold World.cell?
 simp only
 rw [ho.block g hg (hA g e)]
def Bt (B S:Nat) (g:Nat):Prop:=B≤g∧g<S
theorem flat_snoc (l:List (Con×Con)) (x y:Con):flatP (l++[(x,y)])=flatP l++[x,y]:=by simp [flatP]
theorem BoxP.apart {b g2 g3 g5 D g:Nat} {w w':World} (h:BoxP b g2 g3 g5 D w) (ho:Oth g w w') (n2:g2≠g) (n3:g3≠g) (n5:g5≠g):BoxP b g2 g3 g5 D w' :=
 ⟨⟨ho.blk h.bx.k2 n2,ho.blk h.bx.k3 n3,h.bx.n2,h.bx.n3⟩,ho.blk h.k5 n5,h.n5⟩
set_option maxRecDepth 100000 in
set_option maxHeartbeats 6400000 in
theorem conN_any {w:World} {b c:Nat} {A:Option Addr} {ws:List TokV} {s:PSt} (r:Nat) (hC:∀ r',r=r'+1→ConC b c A ws r') (h0:PC w b A c ws s) (D:Nat) (hD:D+r=13) (y:Con) (s':PSt) (hr:conN ws r s=(y,s')) :
  Calls Tryz.prog 148 #[.pointer (some ⟨b,0,none⟩),.int .i64 (D:Int)] w fun e w'=>∃ x,e = .returned (vluC x)∧RC (r+1) w' (Fm w.heap.size) x y∧PC w' b A c ws s'∧Oth b w w':=by
 have H:=Lib.hid h0
 obtain ⟨g2,hg2⟩:∃ g,w.heap.size=g:=⟨_,rfl⟩
 obtain ⟨g3,hg3⟩:∃ g,g2+1=g:=⟨_,rfl⟩
 obtain ⟨g4,hg4⟩:∃ g,g3+1=g:=⟨_,rfl⟩
 have hN1:=nx0 w (.cells #[.pointer (some ⟨b,0,none⟩)] 127)
 have hN2:=nx0 (w.alloc (.cells #[.pointer (some ⟨b,0,none⟩)] 127)) (.cells #[.int .i64 (D:Int)] 3)
 have hN3:=nx0 ((w.alloc (.cells #[.pointer (some ⟨b,0,none⟩)] 127)).alloc (.cells #[.int .i64 (D:Int)] 3)) (.cells #[.int .i64 0,.int .i64 0,.int .u64 0,.string ⟨#[]⟩,.slice none 0 0] 68)
 have hB2:=((Blk.new w #[.pointer (some ⟨b,0,none⟩)] 127).below hN2).below hN3
 have hB3:=(Blk.new (w.alloc (.cells #[.pointer (some ⟨b,0,none⟩)] 127)) #[.int .i64 (D:Int)] 3).below hN3
 have hB4:=Blk.new ((w.alloc (.cells #[.pointer (some ⟨b,0,none⟩)] 127)).alloc (.cells #[.int .i64 (D:Int)] 3)) #[.int .i64 0,.int .i64 0,.int .u64 0,.string ⟨#[]⟩,.slice none 0 0] 68
 have e3:(w.alloc (.cells #[.pointer (some ⟨b,0,none⟩)] 127)).heap.size=g3:=by simp;omega
 have e4:((w.alloc (.cells #[.pointer (some ⟨b,0,none⟩)] 127)).alloc (.cells #[.int .i64 (D:Int)] 3)).heap.size=g4:=by simp;omega
 rw [hg2] at hB2
 rw [e3] at hB3
 rw [e4] at hB4
 have HB2:=Lib.hid hB2
 have HB3:=Lib.hid hB3
 have HB4:=Lib.hid hB4
 have HN1:Hid (Nx w _):=Nx.trans (Nx.trans hN1 hN2) hN3
 have hbw:=h0.bw
 have HBW:=Lib.hid hbw
 have HG:Hid (w.heap.size≤g2∧g2<g3∧g3<g4∧b<g2):=by unfold Hid;omega
 have HR:=Lib.hid hr
 have HC:=Lib.hid hC
 have HD:=Lib.hid hD
 have hDI:(D:Int)≤13:=by omega
 clear hN1 hN2 hN3 hB2 hB3 hB4 e3 e4 h0 hr hC hD hbw
 go_enter Tryz.func148,Tryz.ntmps148
 go_upto_region 1 with (fail)
 generalize World.alloc (World.alloc (World.alloc w _) _) _=w1 at *
 have HP1:=Lib.hid (H.out.nx HN1.out)
 have c3:w1.cell? ⟨g3,0,none⟩=some (.int .i64 (D:Int)):=HB3.out.cell 0
 have c2:w1.cell? ⟨g2,0,none⟩=some (.pointer (some ⟨b,0,none⟩)):=HB2.out.cell 0
 have hmf:∀ (fn:Fn) (first cap:Array Value) (w:World),(Instr.makeFunc fn first cap).run Tryz.prog w = .ok (.func fn first cap) w:=fun fn first cap w=>makeFunc_run fn first cap w
 have HG2b:Hid (g2≠b∧g3≠b∧g4≠b):=by have:=HG.out;unfold Hid;omega
 have HG4:Hid (w.heap.size≤g4∧b<g4):=by have:=HG.out;unfold Hid;omega
 clear hg2 hg3 hg4
 cases r with
 | zero =>
  have b1:decide ((12:Int)<(D:Int))=true:=decide_eq_true (by have:=HD.out;omega)
  have hx:=HR.out
  unfold conN at hx
  simp only [Prod.mk.injEq] at hx
  obtain ⟨rfl,rfl⟩:=hx
  go_wp2_with fail
  refine (fail_any HP1.out 6 (by decide) (by decide)).mono ?_;rintro e w2 ⟨rfl,hp2,ho2⟩
  have HB:=Lib.hid (ho2.blk HB4.out HG2b.out.2.2)
  obtain ⟨d0,d1,d2,d3,d4,e0,e1,e2,e3,e4⟩:=cellsP5 HB.out
  have HP2:=Lib.hid hp2
  have HO2:=Lib.hid ((Oth.nx HN1.out).trans ho2)
  clear hp2 ho2 c2 c3
  go_wp2_with fail
  refine bodyPost_ret (results_cell_row rfl _ _ g4 _ _ _ _ rfl (HB.out.put5).2 Tryz.underlying68 rfl (by kernel_rfl)) rfl ?_
  have HW:=(Oth.refl g4 w2).own (i:=0) (v:=.int .i64 0) |>.own (i:=1) (v:=.int .i64 0) |>.own (i:=2) (v:=.int .u64 0) |>.own (i:=3) (v:=.string ⟨#[]⟩) |>.own (i:=4) (v:=.slice none 0 0)
  exact ⟨⟨0,0,0,[],.slice none 0 0⟩,rfl,rc_con0,HP2.out.apart HW HG4.out.2,HO2.out.apart HW HG4.out.1⟩
 | succ r =>
  have b1:decide ((12:Int)<(D:Int))=false:=decide_eq_false (by have:=HD.out;omega)
  have hD12:(D:Int)≤12:=by have:=HD.out;omega
  have HD1:Hid (D+1+r=13):=by have:=HD.out;unfold Hid;omega
  have HC1:Hid (ConC b c A ws r):=HC.out r rfl
  clear HC HD
  obtain ⟨g5,hg5⟩:∃ g,w1.heap.size=g:=⟨_,rfl⟩
  have hB5:=Blk.new w1 #[.func (.func 194) #[] #[.pointer (some ⟨g2,0,none⟩),.pointer (some ⟨g3,0,none⟩)]] 243
  rw [hg5] at hB5
  have hn5:Nx w1 _:=nx0 w1 (.cells #[.func (.func 194) #[] #[.pointer (some ⟨g2,0,none⟩),.pointer (some ⟨g3,0,none⟩)]] 243)
  have HN5:=Lib.hid hn5
  have HE5:Hid (BoxP b g2 g3 g5 D (w1.alloc (.cells #[.func (.func 194) #[] #[.pointer (some ⟨g2,0,none⟩),.pointer (some ⟨g3,0,none⟩)]] 243))) :=
   ⟨⟨(HB2.out.below hn5).less (Nat.zero_le _),(HB3.out.below hn5).less (Nat.zero_le _),HG2b.out.1,HG2b.out.2.1⟩,hB5.less (Nat.zero_le _),by have:=HB4.out.lt;have:=HG4.out.2;omega⟩
  have HK4:=Lib.hid (HB4.out.below hn5)
  have HP5:=Lib.hid (HP1.out.nx hn5)
  have HO5:Hid (Oth b w _):=(Oth.nx HN1.out).trans (Oth.nx hn5)
  have H45:Hid (g4<g5):=by have:=HB4.out.lt;unfold Hid;omega
  clear hB5 hn5 HB4 HB2 HB3
  go_upto_region 5 with (fail)
  generalize World.alloc w1 _=w2 at *
  clear c2 c3 hg5
  have c2:w2.cell? ⟨g2,0,none⟩=some (.pointer (some ⟨b,0,none⟩)):=HE5.out.bx.k2.cell 0
  obtain ⟨B1,hB1⟩:∃ B,Hid (isP ws [91] s=B):=⟨_,rfl⟩
  have HIT:=Lib.hid (ReadC.weak (p:=atConP ws) (item_any (g2:=g2) (g3:=g3) HC1.out HD1.out))
  have HPR:=Lib.hid (ReadC.weak (p:=atConP ws) (pair_any (g2:=g2) (g3:=g3) (g5:=g5) HC1.out HD1.out))
  go_wp2_with fail
  refine (take_any' HP5.out _ [91] (Tx.of _) B1 hB1.out).mono ?_;rintro e w3 ⟨rfl,hp3,ho3⟩
  have HP3:=Lib.hid hp3
  have HE3:=Lib.hid (BoxP.stays _ _ HE5.out ho3)
  have HK3:=Lib.hid (ho3.blk HK4.out HG2b.out.2.2)
  have HO3:=Lib.hid (HO5.out.trans ho3)
  clear hp3 ho3 c2
  have c2:w3.cell? ⟨g2,0,none⟩=some (.pointer (some ⟨b,0,none⟩)):=HE3.out.bx.k2.cell 0
  have c5:w3.cell? ⟨g5,0,none⟩=some (.func (.func 194) #[] #[.pointer (some ⟨g2,0,none⟩),.pointer (some ⟨g3,0,none⟩)]):=HE3.out.k5.cell 0
  have hx:=HR.out
  rw [conN_succ,hB1.out] at hx
  have HX:=Lib.hid hx
  clear hx
  cases B1
  ·obtain ⟨⟨la,sa⟩,hA⟩:∃ a,Hid (elemsP ws (atConP ws) 40 (pairP ws (conP ws r)) (ws.length+1) [] (needP ws [123] s)=a):=⟨_,rfl⟩
   have hx:=HX.out
   rw [if_neg (by decide),hA.out] at hx
   simp only [Prod.mk.injEq] at hx
   obtain ⟨rfl,rfl⟩:=hx
   have HLA40:Hid (la.length≤40):=by have:=elems_len ws (atConP ws) 40 (pairP ws (conP ws r)) (ws.length+1) [] (needP ws [123] s) (by decide);rw [hA.out] at this;exact this
   have HP3':Hid (PC w3 b A c ws s):=HP3.out
   have h24:g2≠g4:=by have:=HG.out;omega
   have H5:Hid (g3≠g4∧g5≠g4):=by have:=HG.out;have:=H45.out;unfold Hid;omega
   go_wp2_with fail
   refine (need_any HP3'.out _ [123] (Tx.of _) _ rfl).mono ?_;rintro e w4 ⟨rfl,hp4,ho4⟩
   have HK4':=Lib.hid (ho4.blk HK3.out HG2b.out.2.2)
   have HW4:Hid (Oth g4 w4 (w4.setCell ⟨g4,0,none⟩ (.int .i64 6))):=(Oth.refl g4 w4).own
   have HP4:=Lib.hid (hp4.apart HW4.out HG4.out.2)
   have HE4:=Lib.hid ((BoxP.stays _ _ HE3.out ho4).apart HW4.out h24 H5.out.1 H5.out.2)
   have HO4:=Lib.hid ((HO3.out.trans ho4).apart HW4.out HG4.out.1)
   have HK5:Hid (Blk (w4.setCell ⟨g4,0,none⟩ (.int .i64 6)) g4 g4 #[.int .i64 6,.int .i64 0,.int .u64 0,.string ⟨#[]⟩,.slice none 0 0] 68):=HK4'.out.put 0 _
   have c2':=(BoxP.stays _ _ HE3.out ho4).bx.k2.cell 0
   clear hp4 ho4 c2 c5
   have c2:w4.cell? ⟨g2,0,none⟩=some (.pointer (some ⟨b,0,none⟩)):=c2'
   obtain ⟨d0,d1,d2,d3,d4,e0,e1,e2,e3,e4⟩:=cellsP5 HK4'.out
   clear c2'
   go_wp2_with fail
   refine (elsP_any r g5 g2 BoxP.stays (atConP ws) (pairP ws (conP ws r)) atCon_at HPR.out (prog_pair ws r) HP4.out HE4.out 40 (by decide) la sa hA.out).mono ?_;rintro e w5 ⟨v5,rfl,hl5,hp5,ho5⟩
   obtain ⟨vA,vc,vx,rfl,hvx,-,-,hrd,hall⟩:=hl5.sl prA_size
   have HP5':=Lib.hid hp5
   have HE5':=Lib.hid (BoxP.stays _ _ HE4.out ho5)
   have HK6:=Lib.hid (ho5.blk HK5.out HG2b.out.2.2)
   have HO5':=Lib.hid (HO4.out.trans ho5)
   obtain ⟨B,hBd⟩:∃ B,(w4.setCell ⟨g4,0,none⟩ (.int .i64 6)).heap.size=B:=⟨_,rfl⟩
   rw [hBd] at hl5 hall
   have HB0:Hid (g4<B∧w.heap.size≤B∧b<B):=by have:=HK5.out.lt;have:=HO4.out.size;have:=HG4.out.2;unfold Hid;omega
   have HBS:Hid (B≤w5.heap.size):=by unfold Hid;rw [← hBd];exact ho5.size
   have HRD:=Lib.hid hrd
   have HALL:Hid (All2 (RPr (r+1) w5 (Bt B w5.heap.size)) vx la):=hall.mono fun x y h=>RPr.lasts _ ⟨fun _ _ _=>rfl,fun g hg hl=>⟨hg.1,hl⟩⟩ h
   have HVX:=Lib.hid hvx
   have HVA:Hid (∀ g,vA=some ⟨g,0,none⟩→g≠g4):=by
    unfold Hid;rintro g rfl
    have h1:=(hl5.own_lt g rfl).1
    have:B≤g:=h1
    have:=HB0.out.1
    omega
   clear hl5 hp5 ho5 hrd hall c2 d0 d1 d2 d3 d4 e0 e1 e2 e3 e4 hvx hBd
   go_wp2_with fail
   go_loopw [37] (fun iv wr=>∃ (i:Nat) (lv:Value) (acc:List Con),iv = .int .i64 (i:Int)∧i≤la.length∧Hid (acc=flatP (la.take i))∧LC (r+1) wr (Fm B) lv acc∧(∀ g,lv.ownBlock=some g→w5.heap.size≤g)∧Blk wr g4 g4 #[.int .i64 6,.int .i64 0,.int .u64 0,.string ⟨#[]⟩,lv] 68∧Oth g4 w5 wr) (fun iv _=>50 - (intOf iv).toNat)
   case atStart=>exact ⟨0,.slice none 0 0,[],rfl,Nat.zero_le _,rfl,RepL.nil_,(fun g e=>by simp [Value.ownBlock] at e),HK6.out,Oth.refl _ _⟩
   case round =>
    obtain ⟨i,lv,acc,rfl,hi,HACC,hlc,hown,hk,ho⟩:=hrel
    have HLC:=Lib.hid hlc
    have HOWN:=Lib.hid hown
    have HK:=Lib.hid hk
    have HO:=Lib.hid ho
    obtain ⟨lA,lc,lx,rfl,-,-,-,-,-⟩:=hlc.sl conA_size
    clear hlc hown hk ho
    by_cases hlt:i<la.length
    ·have hlx:i<vx.length:=by rw [HVX.out];exact hlt
     obtain ⟨gv,e,hg,hc⟩:=(HRD.out.oth HO.out HVA.out) (by omega)
     have hci:=hc i hlx
     have hai:=HALL.out.at_ i hlx hlt
     obtain ⟨⟨⟨xk,xn,xd,xs,xl⟩,⟨zk,zn,zd,zs,zl⟩⟩,hX⟩:∃ x,vx[i]=x:=⟨_,rfl⟩
     obtain ⟨⟨y1,y2⟩,hY⟩:∃ x,la[i]=x:=⟨_,rfl⟩
     rw [hX,hY] at hai
     rw [hX] at hci
     have HTK:Hid (acc++[y1,y2]=flatP (la.take (i+1))):=by
      unfold Hid
      rw [List.take_succ_eq_append_getElem hlt,hY,flat_snoc,HACC.out]
     obtain ⟨hai1,hai2⟩:=hai
     obtain ⟨xy,-,xh⟩:=RC.of hai1
     obtain ⟨xA,xc,-,rfl,-,-,-,-,-⟩:=xh.sl conA_size
     obtain ⟨zy,-,zh⟩:=RC.of hai2
     obtain ⟨zA,zc,-,rfl,-,-,-,-,-⟩:=zh.sl conA_size
     have t0:wr.cell? ⟨gv,i * 10,none⟩=some (.int .i64 (xk:Int)):=hci 0 (by decide)
     have t1:wr.cell? ⟨gv,i * 10+1,none⟩=some (.int .i64 xn):=hci 1 (by decide)
     have t2:wr.cell? ⟨gv,i * 10+2,none⟩=some (.int .u64 (xd:Int)):=hci 2 (by decide)
     have t3:wr.cell? ⟨gv,i * 10+3,none⟩=some (.string ⟨xs.toArray⟩):=hci 3 (by decide)
     have t4:wr.cell? ⟨gv,i * 10+4,none⟩=some (.slice xA xy.length xc):=hci 4 (by decide)
     have t5:wr.cell? ⟨gv,i * 10+5,none⟩=some (.int .i64 (zk:Int)):=hci 5 (by decide)
     have t6:wr.cell? ⟨gv,i * 10+6,none⟩=some (.int .i64 zn):=hci 6 (by decide)
     have t7:wr.cell? ⟨gv,i * 10+7,none⟩=some (.int .u64 (zd:Int)):=hci 7 (by decide)
     have t8:wr.cell? ⟨gv,i * 10+8,none⟩=some (.string ⟨zs.toArray⟩):=hci 8 (by decide)
     have t9:wr.cell? ⟨gv,i * 10+9,none⟩=some (.slice zA zy.length zc):=hci 9 (by decide)
     have hiI:(i:Int)<(la.length:Int):=by omega
     have hi40:(i:Int)≤40:=by have:=HLA40.out;omega
     have b2:decide ((i:Int)<(la.length:Int))=true:=decide_eq_true hiI
     subst e
     obtain ⟨g8,hg8⟩:∃ g,wr.heap.size=g:=⟨_,rfl⟩
     have hB8:=Blk.new wr #[.int .i64 (xk:Int),.int .i64 xn,.int .u64 (xd:Int),.string ⟨xs.toArray⟩,.slice xA xy.length xc,.int .i64 (zk:Int),.int .i64 zn,.int .u64 (zd:Int),.string ⟨zs.toArray⟩,.slice zA zy.length zc] 245
     rw [hg8] at hB8
     have hn8:Nx wr _:=nx0 wr (.cells #[.int .i64 (xk:Int),.int .i64 xn,.int .u64 (xd:Int),.string ⟨xs.toArray⟩,.slice xA xy.length xc,.int .i64 (zk:Int),.int .i64 zn,.int .u64 (zd:Int),.string ⟨zs.toArray⟩,.slice zA zy.length zc] 245)
     have HB8:=Lib.hid hB8
     have HN8:=Lib.hid hn8
     have HA1:=Lib.hid hai1
     have HA2:=Lib.hid hai2
     have HLT:=Lib.hid hlt
     clear hB8 hn8 hai1 hai2 xh zh hX hY hci hc hlx hg
     go_upto_region 15 with (fail)
     generalize World.alloc wr _=w6 at *
     clear t0 t1 t2 t3 t4 t5 t6 t7 t8 t9 hg8
     obtain ⟨q0,q1,q2,q3,q4,q5,q6,q7,q8,q9,-⟩:=cellsP10 HB8.out
     have HK6':=Lib.hid (HK.out.below HN8.out)
     have c4:w6.cell? ⟨g4,4,none⟩=some (.slice lA acc.length lc):=HK6'.out.cell 4
     have f4:w6.frozen? ⟨g4,4,none⟩=false:=HK6'.out.free 4
     have HLC6:=Lib.hid (RepL.nx (RC.lasts _) HLC.out HN8.out)
     have hS:=HBS.out
     have hSr:=HO.out.size
     have hS6:=HN8.out.size
     have HX1:=Lib.hid (RC.lasts (r+1) (Mv.but (P:=Fm B) (Q:=Fm B) (Mv.nx HN8.out (Nat.le_refl _)) (.slice lA acc.length lc)) (RC.lasts _ (Q:=But (Fm B) (.slice lA acc.length lc)) ⟨fun g hg hl=>HO.out.block g hl (by have:=hg.1;have:=HB0.out.1;omega),fun g hg hl=>⟨hg.1,fun e=>by have:=HOWN.out g e;have:=hg.2;omega⟩⟩ HA1.out))
     have HX2:=Lib.hid (RC.lasts (r+1) (Mv.but (P:=Fm B) (Q:=Fm B) (Mv.nx HN8.out (Nat.le_refl _)) (.slice lA acc.length lc)) (RC.lasts _ (Q:=But (Fm B) (.slice lA acc.length lc)) ⟨fun g hg hl=>HO.out.block g hl (by have:=hg.1;have:=HB0.out.1;omega),fun g hg hl=>⟨hg.1,fun e=>by have:=HOWN.out g e;have:=hg.2;omega⟩⟩ HA2.out))
     have HONE:Hid (∀ u ∈ (conA ⟨xk,xn,xd,xs,.slice xA xy.length xc⟩).toList++(conA ⟨zk,zn,zd,zs,.slice zA zy.length zc⟩).toList,u.oneCell'=true):=by
      intro u hu
      simp [conA,bt] at hu
      rcases hu with rfl | rfl | rfl | rfl | rfl | rfl | rfl | rfl | rfl | rfl <;> rfl
     have HFL:Hid ((acc.length:Int)≤100000):=by
      have h1:∀ l:List (Con×Con),(flatP l).length=2 * l.length:=by
       intro l;induction l with
       | nil=>rfl
       | cons a l ih =>
         have:flatP (a :: l)=[a.1,a.2]++flatP l:=by simp [flatP]
         rw [this,List.length_append,ih];simp;omega
      unfold Hid
      rw [HACC.out,h1,List.length_take]
      have:=HLA40.out
      omega
     have hB6:B≤w6.heap.size:=by omega
     have hg46:g4<w6.heap.size:=HK6'.out.lt
     have HG46:=Lib.hid hg46
     have HB6:=Lib.hid hB6
     clear hS hSr hS6 hg46 hB6
     go_wp2_with (at_builtin;go_must (refine wpList_appL2 _ (RC.lasts _) infoC Tryz.underlying66 rfl (by decide) (by decide) conA_size rfl _ _ rfl B b (.slice lA acc.length lc) acc ⟨xk,xn,xd,xs,.slice xA xy.length xc⟩ ⟨zk,zn,zd,zs,.slice zA zy.length zc⟩ y1 y2 rfl (RepL.nx (RC.lasts _) HLC6.out (nx0 _ _)) HONE.out _ rfl (fun j hj=>(cell_newP (by simp)).trans (by simp [conA,bt])) (RC.lasts _ (Mv.but (Mv.nx (nx0 _ _) (Nat.le_refl _)) _) HX1.out) (RC.lasts _ (Mv.but (Mv.nx (nx0 _ _) (Nat.le_refl _)) _) HX2.out) HFL.out (Nat.le_trans HB6.out (nx0 _ _).size) HB0.out.2.2 ?_;intro v7 w7 hl7 hf7 hk7;obtain ⟨uA,uc,ux,rfl,-,-,-,-,-⟩:=hl7.sl conA_size;have hne4:(Value.slice lA acc.length lc).ownBlock≠some g4:=(fun e=>by have:=HOWN.out g4 e;have:=HB0.out.1;have:=HBS.out;omega);have hb4:=hk7 g4 (Nat.lt_of_lt_of_le HG46.out (nx0 _ _).size) hne4;have HK7:Hid (Blk w7 g4 g4 #[.int .i64 6,.int .i64 0,.int .u64 0,.string ⟨#[]⟩,.slice lA acc.length lc] 68):=⟨Nat.le_refl _,hb4.trans (HK6'.out.alloc _).2⟩;have c47:w7.cell? ⟨g4,4,none⟩=some (.slice lA acc.length lc):=HK7.out.cell 4;have f47:w7.frozen? ⟨g4,4,none⟩=false:=HK7.out.free 4;have HL7:=Lib.hid hl7;have HF7:=Lib.hid hf7;have HK77:=Lib.hid hk7;clear hl7 hf7 hk7 hne4 hb4))
     go_roundw
     case rel =>
      have hsz:w5.heap.size≤w6.heap.size:=Nat.le_trans HO.out.size HN8.out.size
      refine ⟨i+1,_,_,by go_num,HLT.out,HTK.out,?_,fun g e=>?_,HK7.out.put 4 _,?_⟩
      ·have h7:=HL7.out
       rw [show (acc++[y1,y2]).length=acc.length+2 by simp] at h7
       exact LC.lasts _ (Mv.oth (Oth.set w7 g4 4 _) (Nat.le_refl _) HB0.out.1) h7
      ·rcases HF7.out.own g (by simpa [Value.ownBlock] using e) with h | h
       ·exact HOWN.out g h
       ·exact Nat.le_trans hsz (Nat.le_trans (nx0 w6 _).size h)
      ·refine Oth.own ⟨HF7.out.os.trans ((nx0 w6 _).os.trans (HN8.out.os.trans HO.out.os)),HF7.out.tape.trans ((nx0 w6 _).tape.trans (HN8.out.tape.trans HO.out.tape)),HF7.out.output.trans ((nx0 w6 _).output.trans (HN8.out.output.trans HO.out.output)),Nat.le_trans hsz (Nat.le_trans (nx0 w6 _).size HF7.out.size),fun k hk hne=>?_⟩
       have h1:k<w6.heap.size:=Nat.lt_of_lt_of_le hk hsz
       refine (HK77.out k (Nat.lt_of_lt_of_le h1 (nx0 w6 _).size) (fun e=>by have:=HOWN.out k e;omega)).trans (((nx0 w6 _).block k h1).trans ((HN8.out.block k (Nat.lt_of_lt_of_le hk HO.out.size)).trans (HO.out.block k hk hne)))
     case measure=>simp [intOf];omega
    ·have hil:i=la.length:=by omega
     have hfin:acc=flatP la:=by rw [HACC.out,hil,List.take_length]
     have b2:decide ((i:Int)<(la.length:Int))=false:=decide_eq_false (by omega)
     have HLC2:Hid (LC (r+1) wr (Fm B) (.slice lA acc.length lc) (flatP la)):=by have h:=HLC.out;rw [hfin] at h ⊢;exact h
     have c2:wr.cell? ⟨g2,0,none⟩=some (.pointer (some ⟨b,0,none⟩)):=(HE5'.out.apart HO.out h24 H5.out.1 H5.out.2).bx.k2.cell 0
     have HPr:=Lib.hid (HP5'.out.apart HO.out HG4.out.2)
     clear hi hil hfin
     go_wp2_with fail
     refine (need_any HPr.out _ [125] (Tx.of _) _ rfl).mono ?_;rintro e w7 ⟨rfl,hp7,ho7⟩
     have HK7:=Lib.hid (ho7.blk HK.out HG2b.out.2.2)
     have HP7:=Lib.hid hp7
     have HO7:=Lib.hid ho7
     clear hp7 ho7 c2
     obtain ⟨d0,d1,d2,d3,d4,e0,e1,e2,e3,e4⟩:=cellsP5 HK7.out
     go_wp2_with fail
     refine bodyPost_ret (results_cell_row rfl _ _ g4 _ _ _ _ rfl (HK7.out.put5).2 Tryz.underlying68 rfl (by kernel_rfl)) rfl ?_
     have HW:=(Oth.refl g4 w7).own (i:=0) (v:=.int .i64 6) |>.own (i:=1) (v:=.int .i64 0) |>.own (i:=2) (v:=.int .u64 0) |>.own (i:=3) (v:=.string ⟨#[]⟩) |>.own (i:=4) (v:=.slice lA acc.length lc)
     refine ⟨⟨6,0,0,[],.slice lA acc.length lc⟩,rfl,RC.mk ?_,HP7.out.apart HW HG4.out.2,(((HO5'.out.apart HO.out HG4.out.1).trans HO7.out).apart HW HG4.out.1)⟩
     exact LC.lasts _ (Mv.oth HW HB0.out.2.1 HB0.out.1) (LC.lasts _ (Mv.oth HO7.out (Nat.le_refl _) HB0.out.2.2) HLC2.out)
  ·obtain ⟨⟨la,sa⟩,hA⟩:∃ a,Hid (elemsP ws (atConP ws) 40 (conP ws r) (ws.length+1) [] (nextP s)=a):=⟨_,rfl⟩
   have hx:=HX.out
   rw [if_pos rfl,hA.out] at hx
   simp only [Prod.mk.injEq] at hx
   obtain ⟨rfl,rfl⟩:=hx
   have HP3':Hid (PC w3 b A c ws (nextP s)):=HP3.out
   go_wp2_with fail
   refine (elsC_any r g2 g3 BoxC.stays (atConP ws) (conP ws r) atCon_at HIT.out (prog_con ws r) HP3'.out HE3.out.bx 40 (by decide) la sa hA.out).mono ?_;rintro e w4 ⟨v4,rfl,hl4,hp4,ho4⟩
   obtain ⟨vA,vc,vx,rfl,-,-,-,-,-⟩:=hl4.sl conA_size
   have HP4:=Lib.hid hp4
   have HL4:=Lib.hid hl4
   have HE4:=Lib.hid (BoxP.stays _ _ HE3.out ho4)
   have HK5:=Lib.hid (ho4.blk HK3.out HG2b.out.2.2)
   have HO4:=Lib.hid (HO3.out.trans ho4)
   have hs3:=HK3.out.lt
   have HS3:Hid (w.heap.size≤w3.heap.size∧g4<w3.heap.size):=⟨HO3.out.size,hs3⟩
   clear hl4 hp4 ho4 c2 c5 hs3
   have c2:w4.cell? ⟨g2,0,none⟩=some (.pointer (some ⟨b,0,none⟩)):=HE4.out.bx.k2.cell 0
   obtain ⟨d0,d1,d2,d3,d4,e0,e1,e2,e3,e4⟩:=cellsP5 HK5.out
   have h24:g2≠g4:=by have:=HG.out;omega
   have HW4:=(Oth.refl g4 w4).own (i:=0) (v:=.int .i64 5) |>.own (i:=4) (v:=.slice vA la.length vc)
   have HW4':=Lib.hid HW4
   have HP4':=Lib.hid (HP4.out.apart HW4 HG4.out.2)
   clear HW4
   go_wp2_with fail
   refine (need_any HP4'.out _ [93] (Tx.of _) _ rfl).mono ?_;rintro e w6 ⟨rfl,hp6,ho6⟩
   have HK6:Hid (Blk w6 g4 g4 #[.int .i64 5,.int .i64 0,.int .u64 0,.string ⟨#[]⟩,.slice vA la.length vc] 68):=ho6.blk ((HK5.out.put 0 _).put 4 _) HG2b.out.2.2
   have HP6:=Lib.hid hp6
   have HO6:=Lib.hid ho6
   clear hp6 ho6 c2 d0 d1 d2 d3 d4 e0 e1 e2 e3 e4
   obtain ⟨d0,d1,d2,d3,d4,e0,e1,e2,e3,e4⟩:=cellsP5 HK6.out
   go_wp2_with fail
   refine bodyPost_ret (results_cell_row rfl _ _ g4 _ _ _ _ rfl (HK6.out.put5).2 Tryz.underlying68 rfl (by kernel_rfl)) rfl ?_
   have HW:=(Oth.refl g4 w6).own (i:=0) (v:=.int .i64 5) |>.own (i:=1) (v:=.int .i64 0) |>.own (i:=2) (v:=.int .u64 0) |>.own (i:=3) (v:=.string ⟨#[]⟩) |>.own (i:=4) (v:=.slice vA la.length vc)
   have hs3:=HS3.out.2
   have hb3:b<w3.heap.size:=by have:=HG4.out.2;omega
   refine ⟨⟨5,0,0,[],.slice vA la.length vc⟩,rfl,RC.mk ?_,HP6.out.apart HW HG4.out.2,((HO4.out.apart HW4'.out HG4.out.1).trans HO6.out).apart HW HG4.out.1⟩
   exact LC.lasts _ (Mv.oth HW HS3.out.1 hs3) (LC.lasts _ (Mv.oth HO6.out (Nat.le_refl _) hb3) (LC.lasts _ (Mv.oth HW4'.out (Nat.le_refl _) hs3) HL4.out))
end Go.Proofs.YtpbjkgpdkopgmaaGreatDoor
namespace Go.Proofs.YtpbjkgpdkopgmaaGreatDoor
open Go.RowKit
set_option maxRecDepth 100000 in
set_option maxHeartbeats 6400000 in
theorem con_step {b c:Nat} {A:Option Addr} {ws:List TokV} (r:Nat) (hC:∀ r',r=r'+1→ConC b c A ws r'):ConC b c A ws r:=by
 intro w s h0 D hD y s' hr
 have H:=Lib.hid h0
 have HC:=Lib.hid hC
 have HD:=Lib.hid hD
 rw [conP_eq] at hr
 obtain ⟨Q,hQ⟩:∃ B,Hid (atConP ws s=B):=⟨_,rfl⟩
 obtain ⟨⟨tk,tt,tn,td,tp⟩,hT⟩:∃ T,Hid (wordP ws s=T):=⟨_,rfl⟩
 rw [hQ.out,hT.out] at hr
 have HR:=Lib.hid hr
 obtain ⟨g4,hg4⟩:∃ g,w.heap.size=g:=⟨_,rfl⟩
 have hB4:=Blk.new w #[.int .i64 0,.int .i64 0,.int .u64 0,.string ⟨#[]⟩,.slice none 0 0] 68
 rw [hg4] at hB4
 have hN1:Nx w (w.alloc (.cells #[.int .i64 0,.int .i64 0,.int .u64 0,.string ⟨#[]⟩,.slice none 0 0] 68)):=nx0 _ _
 have HB4:=Lib.hid hB4
 have HN1:=Lib.hid hN1
 have HG4:Hid (w.heap.size≤g4∧b<g4∧g4≠b):=by have:=h0.bw;unfold Hid;omega
 have hDI:(D:Int)≤13:=by omega
 have HTX:=Lib.hid (word_k (ws:=ws) (s:=s) (k:=tk) (by rw [hT.out]))
 clear h0 hC hD hr hB4 hN1
 go_enter Tryz.func99,Tryz.ntmps99
 go_upto_region 1 with (fail)
 generalize World.alloc w _=w1 at *
 clear hg4
 have HP1:=Lib.hid (H.out.nx HN1.out)
 go_wp2_with fail
 refine (atCon_any HP1.out Q hQ.out).mono ?_;rintro e w2 ⟨rfl,hn2⟩
 have HP2:=Lib.hid (HP1.out.nx hn2)
 have HB2:=Lib.hid (HB4.out.below hn2)
 have HO2:Hid (Oth b w w2):=(Oth.nx HN1.out).trans (Oth.nx hn2)
 clear hn2
 cases Q
 ·have hx:=HR.out
  rw [if_pos (by decide)] at hx
  simp only [Prod.mk.injEq] at hx
  obtain ⟨rfl,rfl⟩:=hx
  go_wp2_with fail
  refine (fail_any HP2.out 2 (by decide) (by decide)).mono ?_;rintro e w3 ⟨rfl,hp3,ho3⟩
  have HB3:=Lib.hid (ho3.blk HB2.out HG4.out.2.2)
  obtain ⟨d0,d1,d2,d3,d4,e0,e1,e2,e3,e4⟩:=cellsP5 HB3.out
  have HP3:=Lib.hid hp3
  have HO3:=Lib.hid (HO2.out.trans ho3)
  clear hp3 ho3
  go_wp2_with fail
  refine bodyPost_ret (results_cell_row rfl _ _ g4 _ _ _ _ rfl (HB3.out.put5).2 Tryz.underlying68 rfl (by kernel_rfl)) rfl ?_
  have HW:=(Oth.refl g4 w3).own (i:=0) (v:=.int .i64 0) |>.own (i:=1) (v:=.int .i64 0) |>.own (i:=2) (v:=.int .u64 0) |>.own (i:=3) (v:=.string ⟨#[]⟩) |>.own (i:=4) (v:=.slice none 0 0)
  exact ⟨⟨0,0,0,[],.slice none 0 0⟩,rfl,rc_con0,HP3.out.apart HW HG4.out.2.1,HO3.out.apart HW HG4.out.1⟩
 ·have hx:=HR.out
  rw [if_neg (by decide)] at hx
  have HX:=Lib.hid hx
  clear hx HR
  go_wp2_with fail
  refine (word_any' HP2.out _ _ _ _ _ hT.out).mono ?_;rintro e w3 ⟨rfl,hn3⟩
  obtain ⟨g5,hg5⟩:∃ g,w3.heap.size=g:=⟨_,rfl⟩
  have hB5:=Blk.new w3 #[.int .i64 (tk:Int),.string ⟨tt.toArray⟩,.int .i64 tn,.int .u64 (td:Int),.int .i64 (tp:Int)] 92
  rw [hg5] at hB5
  have hn4:Nx w2 _:=Nx.trans hn3 (nx0 w3 (.cells #[.int .i64 (tk:Int),.string ⟨tt.toArray⟩,.int .i64 tn,.int .u64 (td:Int),.int .i64 (tp:Int)] 92))
  have h54:g5≠g4:=by have:=(HB2.out.below hn3).lt;omega
  have HB5:=Lib.hid hB5
  have HN4:=Lib.hid hn4
  clear hB5 hn4 hn3
  go_upto_region 5 with (fail)
  generalize World.alloc w3 _=w4 at *
  clear hg5
  have HP4:=Lib.hid (HP2.out.nx HN4.out)
  have HB4':=Lib.hid (HB2.out.below HN4.out)
  have HO4:=Lib.hid (HO2.out.trans (Oth.nx HN4.out))
  obtain ⟨t0,t1,t2,t3,t4,-⟩:=cellsP5 HB5.out
  obtain ⟨d0,d1,d2,d3,d4,e0,e1,e2,e3,e4⟩:=cellsP5 HB4'.out
  by_cases h2:tk=2
  ·subst h2
   have hx:=HX.out
   rw [if_pos (by decide)] at hx
   unfold conV at hx
   simp at hx
   obtain ⟨rfl,rfl⟩:=hx
   have HK6:=Lib.hid (HTX.out (by decide))
   clear HX
   go_wp2_with fail
   go_region
   all_goals
    generalize hW:World.drew _=w5
    have HB6:Hid (Blk w5 g4 g4 #[.int .i64 1,.int .i64 tn,.int .u64 0,.string ⟨#[]⟩,.slice none 0 0] 68):=by
     unfold Hid
     rw [← hW]
     first
      | exact ((HB4'.out.put 0 _).put 1 _).drew 1
      | exact ((HB4'.out.put 1 _).put 0 _).drew 1
    have HO5:Hid (Oth g4 w4 w5):=by
     unfold Hid
     rw [← hW]
     exact (((Oth.refl g4 w4).own).own).trans (Oth.nx ((Nx.refl _).dr 1))
    clear hW
    have HP5:=Lib.hid (HP4.out.apart HO5.out HG4.out.2.1)
    go_wp2_with fail
    refine (next_any HP5.out HK6.out _ _ _ _ _ hT.out).mono ?_;rintro e w6 ⟨rfl,hp6,ho6⟩
    have HB7:=Lib.hid (ho6.blk HB6.out HG4.out.2.2)
    have HP6:=Lib.hid hp6
    have HO6:=Lib.hid (((HO4.out.apart HO5.out HG4.out.1)).trans ho6)
    clear hp6 ho6 d0 d1 d2 d3 d4 e0 e1 e2 e3 e4
    obtain ⟨d0,d1,d2,d3,d4,e0,e1,e2,e3,e4⟩:=cellsP5 HB7.out
    go_wp2_with fail
    refine bodyPost_ret (results_cell_row rfl _ _ g4 _ _ _ _ rfl (HB7.out.put5).2 Tryz.underlying68 rfl (by kernel_rfl)) rfl ?_
    have HW:Oth g4 w6 (((((w6.setCell ⟨g4,0,none⟩ (.int .i64 1)).setCell ⟨g4,1,none⟩ (.int .i64 tn)).setCell ⟨g4,2,none⟩ (.int .u64 0)).setCell ⟨g4,3,none⟩ (.string ⟨#[]⟩)).setCell ⟨g4,4,none⟩ (.slice none 0 0)):=((((((Oth.refl g4 w6).own).own).own).own).own)
    exact ⟨⟨1,tn,0,[],.slice none 0 0⟩,rfl,RC.mk RepL.nil_,HP6.out.apart HW HG4.out.2.1,HO6.out.apart HW HG4.out.1⟩
  by_cases h3:tk=3
  ·subst h3
   have hx:=HX.out
   rw [if_pos (by decide)] at hx
   unfold conV at hx
   simp at hx
   obtain ⟨rfl,rfl⟩:=hx
   have HK6:=Lib.hid (HTX.out (by decide))
   clear HX h2
   go_wp2_with fail
   go_region
   all_goals
    generalize hW:World.drew _=w5
    have HB6:Hid (Blk w5 g4 g4 #[.int .i64 2,.int .i64 0,.int .u64 (td:Int),.string ⟨#[]⟩,.slice none 0 0] 68):=by
     unfold Hid
     rw [← hW]
     first
      | exact ((HB4'.out.put 0 _).put 2 _).drew 1
      | exact ((HB4'.out.put 2 _).put 0 _).drew 1
    have HO5:Hid (Oth g4 w4 w5):=by
     unfold Hid
     rw [← hW]
     exact (((Oth.refl g4 w4).own).own).trans (Oth.nx ((Nx.refl _).dr 1))
    clear hW
    have HP5:=Lib.hid (HP4.out.apart HO5.out HG4.out.2.1)
    go_wp2_with fail
    refine (next_any HP5.out HK6.out _ _ _ _ _ hT.out).mono ?_;rintro e w6 ⟨rfl,hp6,ho6⟩
    have HB7:=Lib.hid (ho6.blk HB6.out HG4.out.2.2)
    have HP6:=Lib.hid hp6
    have HO6:=Lib.hid (((HO4.out.apart HO5.out HG4.out.1)).trans ho6)
    clear hp6 ho6 d0 d1 d2 d3 d4 e0 e1 e2 e3 e4
    obtain ⟨d0,d1,d2,d3,d4,e0,e1,e2,e3,e4⟩:=cellsP5 HB7.out
    go_wp2_with fail
    refine bodyPost_ret (results_cell_row rfl _ _ g4 _ _ _ _ rfl (HB7.out.put5).2 Tryz.underlying68 rfl (by kernel_rfl)) rfl ?_
    have HW:Oth g4 w6 (((((w6.setCell ⟨g4,0,none⟩ (.int .i64 2)).setCell ⟨g4,1,none⟩ (.int .i64 0)).setCell ⟨g4,2,none⟩ (.int .u64 (td:Int))).setCell ⟨g4,3,none⟩ (.string ⟨#[]⟩)).setCell ⟨g4,4,none⟩ (.slice none 0 0)):=((((((Oth.refl g4 w6).own).own).own).own).own)
    exact ⟨⟨2,0,td,[],.slice none 0 0⟩,rfl,RC.mk RepL.nil_,HP6.out.apart HW HG4.out.2.1,HO6.out.apart HW HG4.out.1⟩
  by_cases h4:tk=4
  ·subst h4
   have hx:=HX.out
   rw [if_pos (by decide)] at hx
   unfold conV at hx
   simp at hx
   obtain ⟨rfl,rfl⟩:=hx
   have HK6:=Lib.hid (HTX.out (by decide))
   clear HX h2 h3
   go_wp2_with fail
   go_region
   all_goals
    generalize hW:World.drew _=w5
    have HB6:Hid (Blk w5 g4 g4 #[.int .i64 3,.int .i64 0,.int .u64 0,.string ⟨tt.toArray⟩,.slice none 0 0] 68):=by
     unfold Hid
     rw [← hW]
     first
      | exact ((HB4'.out.put 0 _).put 3 _).drew 1
      | exact ((HB4'.out.put 3 _).put 0 _).drew 1
    have HO5:Hid (Oth g4 w4 w5):=by
     unfold Hid
     rw [← hW]
     exact (((Oth.refl g4 w4).own).own).trans (Oth.nx ((Nx.refl _).dr 1))
    clear hW
    have HP5:=Lib.hid (HP4.out.apart HO5.out HG4.out.2.1)
    go_wp2_with fail
    refine (next_any HP5.out HK6.out _ _ _ _ _ hT.out).mono ?_;rintro e w6 ⟨rfl,hp6,ho6⟩
    have HB7:=Lib.hid (ho6.blk HB6.out HG4.out.2.2)
    have HP6:=Lib.hid hp6
    have HO6:=Lib.hid (((HO4.out.apart HO5.out HG4.out.1)).trans ho6)
    clear hp6 ho6 d0 d1 d2 d3 d4 e0 e1 e2 e3 e4
    obtain ⟨d0,d1,d2,d3,d4,e0,e1,e2,e3,e4⟩:=cellsP5 HB7.out
    go_wp2_with fail
    refine bodyPost_ret (results_cell_row rfl _ _ g4 _ _ _ _ rfl (HB7.out.put5).2 Tryz.underlying68 rfl (by kernel_rfl)) rfl ?_
    have HW:Oth g4 w6 (((((w6.setCell ⟨g4,0,none⟩ (.int .i64 3)).setCell ⟨g4,1,none⟩ (.int .i64 0)).setCell ⟨g4,2,none⟩ (.int .u64 0)).setCell ⟨g4,3,none⟩ (.string ⟨tt.toArray⟩)).setCell ⟨g4,4,none⟩ (.slice none 0 0)):=((((((Oth.refl g4 w6).own).own).own).own).own)
    exact ⟨⟨3,0,0,tt,.slice none 0 0⟩,rfl,RC.mk RepL.nil_,HP6.out.apart HW HG4.out.2.1,HO6.out.apart HW HG4.out.1⟩
  by_cases h1:tk=1
  ·subst h1
   have hx:=HX.out
   rw [if_pos (by decide)] at hx
   unfold conV at hx
   simp at hx
   obtain ⟨rfl,rfl⟩:=hx
   have HK6:=Lib.hid (HTX.out (by decide))
   clear HX h2 h3 h4
   go_wp2_with fail
   go_region
   all_goals
    generalize hW:World.drew _=w5
    have HB6:Hid (Blk w5 g4 g4 #[.int .i64 4,.int .i64 0,.int .u64 0,.string ⟨tt.toArray⟩,.slice none 0 0] 68):=by
     unfold Hid
     rw [← hW]
     first
      | exact ((HB4'.out.put 0 _).put 3 _).drew 1
      | exact ((HB4'.out.put 3 _).put 0 _).drew 1
    have HO5:Hid (Oth g4 w4 w5):=by
     unfold Hid
     rw [← hW]
     exact (((Oth.refl g4 w4).own).own).trans (Oth.nx ((Nx.refl _).dr 1))
    clear hW
    have HP5:=Lib.hid (HP4.out.apart HO5.out HG4.out.2.1)
    go_wp2_with fail
    refine (next_any HP5.out HK6.out _ _ _ _ _ hT.out).mono ?_;rintro e w6 ⟨rfl,hp6,ho6⟩
    have HB7:=Lib.hid (ho6.blk HB6.out HG4.out.2.2)
    have HP6:=Lib.hid hp6
    have HO6:=Lib.hid (((HO4.out.apart HO5.out HG4.out.1)).trans ho6)
    clear hp6 ho6 d0 d1 d2 d3 d4 e0 e1 e2 e3 e4
    obtain ⟨d0,d1,d2,d3,d4,e0,e1,e2,e3,e4⟩:=cellsP5 HB7.out
    go_wp2_with fail
    refine bodyPost_ret (results_cell_row rfl _ _ g4 _ _ _ _ rfl (HB7.out.put5).2 Tryz.underlying68 rfl (by kernel_rfl)) rfl ?_
    have HW:Oth g4 w6 (((((w6.setCell ⟨g4,0,none⟩ (.int .i64 4)).setCell ⟨g4,1,none⟩ (.int .i64 0)).setCell ⟨g4,2,none⟩ (.int .u64 0)).setCell ⟨g4,3,none⟩ (.string ⟨tt.toArray⟩)).setCell ⟨g4,4,none⟩ (.slice none 0 0)):=((((((Oth.refl g4 w6).own).own).own).own).own)
    exact ⟨⟨4,0,0,tt,.slice none 0 0⟩,rfl,RC.mk RepL.nil_,HP6.out.apart HW HG4.out.2.1,HO6.out.apart HW HG4.out.1⟩
  have hx:=HX.out
  rw [if_neg (by omega)] at hx
  have HX2:=Lib.hid hx
  have b1:((tk:Int) == 1)=false:=by rw [beq_eq_false_iff_ne];omega
  have b2:((tk:Int) == 2)=false:=by rw [beq_eq_false_iff_ne];omega
  have b3:((tk:Int) == 3)=false:=by rw [beq_eq_false_iff_ne];omega
  have b4:((tk:Int) == 4)=false:=by rw [beq_eq_false_iff_ne];omega
  clear hx h1 h2 h3 h4 HX
  go_wp2_with fail
  refine (conN_any r HC.out HP4.out D HD.out y s' HX2.out).mono ?_;rintro e w5 ⟨⟨xk,xn,xd,xs,xl⟩,rfl,hr5,hp5,ho5⟩
  obtain ⟨xy,-,xh⟩:=RC.of hr5
  obtain ⟨xA,xc,-,rfl,-,-,-,-,-⟩:=xh.sl conA_size
  clear xh
  rw [show vluC ⟨xk,xn,xd,xs,.slice xA xy.length xc⟩ = .agg #[.int .i64 (xk:Int),.int .i64 xn,.int .u64 (xd:Int),.string ⟨xs.toArray⟩,.slice xA xy.length xc] from rfl]
  have HB7:=Lib.hid (ho5.blk HB4'.out HG4.out.2.2)
  have HP6:=Lib.hid hp5
  have HO6:=Lib.hid (HO4.out.trans ho5)
  have HR5:=Lib.hid hr5
  have HS4:Hid (w.heap.size≤w4.heap.size∧g4<w4.heap.size):=⟨HO4.out.size,HB4'.out.lt⟩
  clear hp5 ho5 hr5 d0 d1 d2 d3 d4 e0 e1 e2 e3 e4
  obtain ⟨d0,d1,d2,d3,d4,e0,e1,e2,e3,e4⟩:=cellsP5 HB7.out
  go_wp2_with fail
  refine bodyPost_ret (results_cell_row rfl _ _ g4 _ _ _ _ rfl (HB7.out.put5).2 Tryz.underlying68 rfl (by kernel_rfl)) rfl ?_
  have HW:=(Oth.refl g4 w5).own (i:=0) (v:=.int .i64 (xk:Int)) |>.own (i:=1) (v:=.int .i64 xn) |>.own (i:=2) (v:=.int .u64 (xd:Int)) |>.own (i:=3) (v:=.string ⟨xs.toArray⟩) |>.own (i:=4) (v:=.slice xA xy.length xc)
  exact ⟨⟨xk,xn,xd,xs,.slice xA xy.length xc⟩,rfl,RC.lasts _ (Mv.oth HW HS4.out.1 HS4.out.2) HR5.out,HP6.out.apart HW HG4.out.2.1,HO6.out.apart HW HG4.out.1⟩
theorem con_all {b c:Nat} {A:Option Addr} {ws:List TokV}:∀ (r:Nat),ConC b c A ws r
 | 0=>con_step 0 (fun _ h=>by cases h)
 | r+1=>con_step (r+1) (fun r' e=>by cases e;exact con_all r)
theorem con_any {w:World} {b c:Nat} {A:Option Addr} {ws:List TokV} {s:PSt} (h0:PC w b A c ws s) (y:Con) (s':PSt) (hr:conP ws 12 s=(y,s')) :
  Calls Tryz.prog 99 #[.pointer (some ⟨b,0,none⟩),.int .i64 1] w fun e w'=>∃ x,e = .returned (vluC x)∧RC 13 w' (Fm w.heap.size) x y∧PC w' b A c ws s'∧Oth b w w' :=
 con_all 12 w s h0 1 (by decide) y s' hr
end Go.Proofs.YtpbjkgpdkopgmaaGreatDoor
