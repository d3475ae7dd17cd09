/- The contract of a file's reading. The contract of parse.Parse. -/
import Derived.Test.YtpbjkgpdkopgmaaGreatDoorG27
import Derived.Test.YtpbjkgpdkopgmaaGreatDoorG11
import Derived.BigRegion
set_option linter.unusedVariables false
set_option linter.unusedSimpArgs false
set_option linter.unnecessarySimpa false
namespace Go.Proofs.YtpbjkgpdkopgmaaGreatDoor
open Go.RowKit
theorem RepL.keepEq {α:Type} {f:α→Array Value} {k:Nat} {T:TypeId} {w w':World} {P:Nat→Prop} {v:Value} {l:List α} (h:RepL f k T (REq (α:=α)) w P v l) (hk:∀ g,v.ownBlock=some g→w'.heap[g]? = w.heap[g]?):RepL f k T (REq (α:=α)) w' P v l:=by
 obtain ⟨xs,h1,h2⟩:=h
 exact ⟨xs,⟨h1.1.keep hk,h1.2⟩,h2⟩
theorem RepL.ne {α β α' β':Type} {f:α→Array Value} {k:Nat} {T:TypeId} {R:World→(Nat→Prop)→α→β→Prop} {f':α'→Array Value} {k':Nat} {T':TypeId} {R':World→(Nat→Prop)→α'→β'→Prop} {w:World} {P P':Nat→Prop} {v v':Value} {l:List β} {l':List β'}
  (h:RepL f k T R w P v l) (h':RepL f' k' T' R' w P' v' l') (hT:T≠T') (g:Nat) (e:v.ownBlock=some g):v'.ownBlock≠some g:=fun e'=>by
 obtain ⟨xs,⟨⟨_,h1⟩,_⟩,_⟩:=h
 obtain ⟨xs',⟨⟨_,h2⟩,_⟩,_⟩:=h'
 rcases h1 with ⟨rfl,_⟩ | ⟨g1,cap,cur,rfl,_,hh,_⟩
 ·simp [Value.ownBlock] at e
 ·rcases h2 with ⟨rfl,_⟩ | ⟨g2,cap2,cur2,rfl,_,hh2,_⟩
  ·simp [Value.ownBlock] at e'
  ·simp [Value.ownBlock] at e e'
   subst e;subst e'
   rw [hh] at hh2
   simp only [Option.some.injEq,Obj.cells.injEq] at hh2
   exact hT hh2.2.1
theorem heads_inc (ws:List TokV) (n:Nat) (a:List (List UInt8)) (b:List Spc) (s:PSt) (h:isP ws kInclude s=true):headsP ws (n+1) a b s=headsP ws n (addP 5 (incP ws) a s).1 b (addP 5 (incP ws) a s).2:=by
 conv=>lhs;unfold headsP
 rw [if_pos h]
theorem heads_spc (ws:List TokV) (n:Nat) (a:List (List UInt8)) (b:List Spc) (s:PSt) (h1:isP ws kInclude s=false) (h:isP ws kNamespace s=true):headsP ws (n+1) a b s=headsP ws n a (addP 5 (spcP ws) b s).1 (addP 5 (spcP ws) b s).2:=by
 conv=>lhs;unfold headsP
 rw [if_neg (by rw [h1];decide),if_pos h]
theorem heads_end (ws:List TokV) (n:Nat) (a:List (List UInt8)) (b:List Spc) (s:PSt) (h1:isP ws kInclude s=false) (h:isP ws kNamespace s=false):headsP ws n a b s=((a,b),s):=by
 cases n with
 | zero=>rfl
 | succ n=>unfold headsP;rw [if_neg (by rw [h1];decide),if_neg (by rw [h];decide)]
theorem fuel_add {β:Type} {ws:List TokV} {p:PSt→Bool} {rd:PSt→β×PSt} (hp:Prog ws p rd) (most:Nat) (acc:List β) {s:PSt} {n:Nat} (hl:s.i<ws.length) (h:p s=true) (hf:s.e=0→ws.length - s.i<n+1) :
  (addP most rd acc s).2.e=0→ws.length - (addP most rd acc s).2.i<n:=by
 intro he
 have h3:=hp s hl h
 have h4:=hf h3.1
 unfold addP at he ⊢
 split at he
 ·exact absurd he (fail_ne 4 (by decide) s)
 ·rename_i h5
  rw [if_neg h5]
  dsimp only at he ⊢
  have:=h3.2.resolve_left (by simpa using he)
  omega
section
variable {b c:Nat} {A:Option Addr} {ws:List TokV}
set_option maxRecDepth 100000 in
set_option maxHeartbeats 12800000 in
theorem file_any {w:World} {s:PSt} (h0:PC w b A c ws s) (y:Fil) (s':PSt) (hr:fileP ws s=(y,s')) :
  Calls Tryz.prog 29 #[.pointer (some ⟨b,0,none⟩)] w fun e w'=>∃ x,e = .returned (.agg (filA x))∧RFile w' (Fm w.heap.size) x y∧PC w' b A c ws s'∧Oth b w w':=by
 have hmf:∀ (fn:Fn) (first cap:Array Value) (w:World),(Instr.makeFunc fn first cap).run Tryz.prog w = .ok (.func fn first cap) w:=fun fn first cap w=>makeFunc_run fn first cap w
 obtain ⟨⟨⟨la,lb⟩,s1⟩,h1⟩:∃ r,Hid (headsP ws (ws.length+1) [] [] s=r):=⟨_,rfl⟩
 obtain ⟨⟨ld,s2⟩,h2⟩:∃ r,Hid (elemsP ws (atDefP ws) 30 (defP ws) (ws.length+1) [] s1=r):=⟨_,rfl⟩
 obtain ⟨⟨tk,tt,tn,td,tp⟩,hT⟩:∃ T,Hid (wordP ws s2=T):=⟨_,rfl⟩
 have hx:((⟨la,lb,ld⟩:Fil),(if tk=6 then s2 else failP 2 s2))=(y,s'):=by
  rw [← hr];unfold fileP;dsimp only;rw [h1.out];dsimp only;rw [h2.out];dsimp only;rw [hT.out]
 simp only [Prod.mk.injEq] at hx
 obtain ⟨rfl,hs'⟩:=hx
 have HS':=Lib.hid hs'
 obtain ⟨g,hg⟩:∃ g,w.heap.size=g:=⟨_,rfl⟩
 have HS1:Hid (St b c A ws g 33 w s #[.slice none 0 0,.slice none 0 0,.slice none 0 0] (w.alloc (.cells #[.slice none 0 0,.slice none 0 0,.slice none 0 0] 33))):=St.new h0 hg
 have hfew:=h0.fin.few
 have hlt0:=h0.lt
 have hbg:b<g:=by have:=h0.bw;omega
 have hwg:w.heap.size≤g+1:=by omega
 have HBG:=Lib.hid hbg
 have HWG:=Lib.hid hwg
 have F0:∀ w1,(Instr.field 92 (.agg #[.int .i64 (tk:Int),.string ⟨tt.toArray⟩,.int .i64 tn,.int .u64 (td:Int),.int .i64 (tp:Int)]) 0).run Tryz.prog w1 = .ok (.int .i64 (tk:Int)) w1:=fun w1=>(tok_field _ _ _ _ _ w1).1
 clear h0 hr hs' hbg hwg
 go_enter Tryz.func29,Tryz.ntmps29
 go_upto_region 1 with (fail)
 generalize World.alloc w _=w1 at *
 clear hg
 go_loopw [] (fun wr=>∃ (n:Nat) (a:List (List UInt8)) (bb:List Spc) (s1':PSt) (iA:Option Addr) (ic:Nat) (sA:Option Addr) (sc:Nat),St b c A ws g 33 w s1' #[.slice iA a.length ic,.slice sA bb.length sc,.slice none 0 0] wr∧LT wr (Fm (g+1)) (.slice iA a.length ic) a∧LS wr (Fm (g+1)) (.slice sA bb.length sc) bb ∧
   Hid (headsP ws n a bb s1'=((la,lb),s1))∧Hid (s1'.e=0→ws.length - s1'.i<n)∧a.length≤5∧bb.length≤5) (fun wr=>leftP b wr)
 case atStart=>exact ⟨ws.length+1,[],[],s,none,0,none,0,HS1.out,RepL.nil_,RepL.nil_,h1.out,(fun _=>by omega),Nat.zero_le _,Nat.zero_le _⟩
 case round =>
  obtain ⟨n,a,bb,s1',iA,ic,sA,sc,hst,hlt,hls,HH,HF,hla,hlb⟩:=hrel
  have HST:=Lib.hid hst
  have HLT:=Lib.hid hlt
  have HLS:=Lib.hid hls
  have HLEFT:=Lib.hid hst.pc.left
  have HLA:=Lib.hid hla
  have HLB:=Lib.hid hlb
  clear hst hlt hls hla hlb
  obtain ⟨B1,hB1⟩:∃ B,Hid (isP ws kInclude s1'=B):=⟨_,rfl⟩
  obtain ⟨B2,hB2⟩:∃ B,Hid (isP ws kNamespace s1'=B):=⟨_,rfl⟩
  go_wp2_with fail
  refine (is_any HST.out.pc _ kInclude (Tx.of _) B1 hB1.out).mono ?_;rintro e w2 ⟨rfl,hn2⟩
  have HST2:=Lib.hid (HST.out.nx hn2)
  have HLT2:=Lib.hid (LT.lasts (Mv.nx hn2 (Nat.le_refl _)) HLT.out)
  have HLS2:=Lib.hid (LS.lasts (Mv.nx hn2 (Nat.le_refl _)) HLS.out)
  clear hn2
  cases B1
  ·go_wp2_with fail
   refine (is_any HST2.out.pc _ kNamespace (Tx.of _) B2 hB2.out).mono ?_;rintro e w3 ⟨rfl,hn3⟩
   have HST3:=Lib.hid (HST2.out.nx hn3)
   have HLT3:=Lib.hid (LT.lasts (Mv.nx hn3 (Nat.le_refl _)) HLT2.out)
   have HLS3:=Lib.hid (LS.lasts (Mv.nx hn3 (Nat.le_refl _)) HLS2.out)
   clear hn3
   cases B2
   ·have hx:=HH.out
    rw [heads_end ws n a bb s1' hB1.out hB2.out] at hx
    simp only [Prod.mk.injEq] at hx
    obtain ⟨⟨rfl,rfl⟩,rfl⟩:=hx
    go_wp2_with fail
    refine (elsD_any (E:=fun _=>True) stays_true (atDefP ws) (defP ws) atDef_at def_any (prog_def ws) HST3.out.pc trivial 30 (by decide) ld s2 h2.out).mono ?_;rintro e w4 ⟨v4,rfl,hl4,hp4,ho4⟩
    obtain ⟨dA,dc,dx,rfl,-,-,-,-,-⟩:=hl4.sl dfnA_size
    have hs4:=HST3.out.step hp4 ho4
    have hbg1:b<g+1:=by have:=HBG.out;omega
    have HLT4:=Lib.hid (LT.lasts (Mv.oth ho4 (Nat.le_refl _) hbg1) HLT3.out)
    have HLS4:=Lib.hid (LS.lasts (Mv.oth ho4 (Nat.le_refl _) hbg1) HLS3.out)
    have HLD4:Hid (LD w4 (Fm (g+1)) (.slice dA ld.length dc) ld):=LD.lasts (Mv.less (by have:=HST3.out.bl.lt;omega)) hl4
    have c2:w4.cell? ⟨g,2,none⟩=some (.slice none 0 0):=hs4.ce 2
    have f2:=hs4.fr 2
    have HST5:Hid (St b c A ws g 33 w s2 #[.slice iA a.length ic,.slice sA bb.length sc,.slice dA ld.length dc] (w4.setCell ⟨g,2,none⟩ (.slice dA ld.length dc))):=hs4.put 2 _ rfl
    clear hs4 hl4 hp4 ho4 hbg1
    go_wp2_with fail
    refine (word_any' HST5.out.pc _ _ _ _ _ hT.out).mono ?_;rintro e w6 ⟨rfl,hn6⟩
    have HST6:=Lib.hid (HST5.out.nx hn6)
    have hW4:=Oth.set w4 g 2 (.slice dA ld.length dc)
    have HLT6:=Lib.hid (LT.lasts (Mv.nx hn6 (Nat.le_refl _)) (LT.lasts (Mv.oth hW4 (Nat.le_refl _) (Nat.lt_succ_self _)) HLT4.out))
    have HLS6:=Lib.hid (LS.lasts (Mv.nx hn6 (Nat.le_refl _)) (LS.lasts (Mv.oth hW4 (Nat.le_refl _) (Nat.lt_succ_self _)) HLS4.out))
    have HLD6:=Lib.hid (LD.lasts (Mv.nx hn6 (Nat.le_refl _)) (LD.lasts (Mv.oth hW4 (Nat.le_refl _) (Nat.lt_succ_self _)) HLD4.out))
    clear hn6 hW4 c2 f2
    obtain ⟨Q,hQ⟩:∃ B,Hid (((tk:Int) != 6)=B):=⟨_,rfl⟩
    have hq:=hQ.out
    cases Q
    ·have h6:tk=6:=by have:=hQ.out;simp at this;omega
     have HE:Hid (s2=s'):=by have:=HS'.out;rw [if_pos h6] at this;exact this
     clear h6
     obtain rfl:=HE.out
     have c0:w6.cell? ⟨g,0,none⟩=some (.slice iA a.length ic):=HST6.out.ce 0
     have c1:w6.cell? ⟨g,1,none⟩=some (.slice sA bb.length sc):=HST6.out.ce 1
     have c2:w6.cell? ⟨g,2,none⟩=some (.slice dA ld.length dc):=HST6.out.ce 2
     have f0:=HST6.out.fr 0
     have f1:=HST6.out.fr 1
     have f2:=HST6.out.fr 2
     go_wp2_with fail
     have HS7:=(HST6.out.put 0 (.slice iA a.length ic) rfl).put 1 (.slice sA bb.length sc) rfl |>.put 2 (.slice dA ld.length dc) rfl
     refine bodyPost_ret (results_cell_row rfl _ _ g _ _ _ _ rfl HS7.bl.2 Tryz.underlying33 rfl (by kernel_rfl)) rfl ?_
     have HW:=(Oth.refl g w6).own (i:=0) (v:=.slice iA a.length ic) |>.own (i:=1) (v:=.slice sA bb.length sc) |>.own (i:=2) (v:=.slice dA ld.length dc)
     exact ⟨⟨.slice iA a.length ic,.slice sA bb.length sc,.slice dA ld.length dc⟩,rfl,⟨LT.lasts (Mv.oth HW HWG.out (Nat.lt_succ_self _)) HLT6.out,LS.lasts (Mv.oth HW HWG.out (Nat.lt_succ_self _)) HLS6.out,LD.lasts (Mv.oth HW HWG.out (Nat.lt_succ_self _)) HLD6.out⟩,HS7.pc,HS7.ot⟩
    ·have h6:¬ tk=6:=by have:=hQ.out;simp at this;omega
     have HE:Hid (failP 2 s2=s'):=by have:=HS'.out;rw [if_neg h6] at this;exact this
     clear h6
     go_wp2_with fail
     refine (fail_any HST6.out.pc 2 (by decide) (by decide)).mono ?_;rintro e w7 ⟨rfl,hp7,ho7⟩
     rw [HE.out] at hp7
     have hbg1:b<g+1:=by have:=HBG.out;omega
     have HST7:=Lib.hid (HST6.out.step hp7 ho7)
     have HLT7:=Lib.hid (LT.lasts (Mv.oth ho7 (Nat.le_refl _) hbg1) HLT6.out)
     have HLS7:=Lib.hid (LS.lasts (Mv.oth ho7 (Nat.le_refl _) hbg1) HLS6.out)
     have HLD7:=Lib.hid (LD.lasts (Mv.oth ho7 (Nat.le_refl _) hbg1) HLD6.out)
     clear hp7 ho7 hbg1
     have c0:w7.cell? ⟨g,0,none⟩=some (.slice iA a.length ic):=HST7.out.ce 0
     have c1:w7.cell? ⟨g,1,none⟩=some (.slice sA bb.length sc):=HST7.out.ce 1
     have c2:w7.cell? ⟨g,2,none⟩=some (.slice dA ld.length dc):=HST7.out.ce 2
     have f0:=HST7.out.fr 0
     have f1:=HST7.out.fr 1
     have f2:=HST7.out.fr 2
     go_wp2_with fail
     have HS7:=(HST7.out.put 0 (.slice iA a.length ic) rfl).put 1 (.slice sA bb.length sc) rfl |>.put 2 (.slice dA ld.length dc) rfl
     refine bodyPost_ret (results_cell_row rfl _ _ g _ _ _ _ rfl HS7.bl.2 Tryz.underlying33 rfl (by kernel_rfl)) rfl ?_
     have HW:=(Oth.refl g w7).own (i:=0) (v:=.slice iA a.length ic) |>.own (i:=1) (v:=.slice sA bb.length sc) |>.own (i:=2) (v:=.slice dA ld.length dc)
     exact ⟨⟨.slice iA a.length ic,.slice sA bb.length sc,.slice dA ld.length dc⟩,rfl,⟨LT.lasts (Mv.oth HW HWG.out (Nat.lt_succ_self _)) HLT7.out,LS.lasts (Mv.oth HW HWG.out (Nat.lt_succ_self _)) HLS7.out,LD.lasts (Mv.oth HW HWG.out (Nat.lt_succ_self _)) HLD7.out⟩,HS7.pc,HS7.ot⟩
   ·have he1:=(prog_spc ws s1' HST.out.pc.lt hB2.out).1
    obtain ⟨n,rfl⟩:∃ k,n=k+1:=⟨n - 1,by have:=HF.out he1;omega⟩
    have HH2:=HH.out
    rw [heads_spc ws n a bb s1' hB1.out hB2.out] at HH2
    have HHH:=Lib.hid HH2
    have HF2:=Lib.hid (fuel_add (prog_spc ws) 5 bb (n:=n) HST.out.pc.lt hB2.out HF.out)
    have HA:=Lib.hid (left_add (prog_spc ws) 5 bb HST.out.pc.lt hfew hB2.out)
    have HLN:=Lib.hid (add_len 5 (spcP ws) bb s1' HLB.out)
    obtain ⟨⟨l',s2'⟩,h12⟩:∃ r,Hid (addP 5 (spcP ws) bb s1'=r):=⟨_,rfl⟩
    rw [h12.out] at HHH HF2 HA HLN
    clear he1 HH2 HH HF
    go_wp2_with fail
    refine (is_any HST3.out.pc _ kInclude (Tx.of _) _ hB1.out).mono ?_;rintro e w4 ⟨rfl,hnb⟩
    have HSTb:=Lib.hid (HST3.out.nx hnb)
    have HLTb:=Lib.hid (LT.lasts (Mv.nx hnb (Nat.le_refl _)) HLT3.out)
    have HLSb:=Lib.hid (LS.lasts (Mv.nx hnb (Nat.le_refl _)) HLS3.out)
    clear hnb
    have c1:w4.cell? ⟨g,1,none⟩=some (.slice sA bb.length sc):=HSTb.out.ce 1
    have hgs:g+1≤w4.heap.size:=HSTb.out.bl.lt
    go_wp2_with fail
    refine (addS_any (E:=fun _=>True) (isP ws kNamespace) (spcP ws) spc_any HSTb.out.pc trivial hB2.out (g+1) 5 (.slice sA bb.length sc) bb HLSb.out hgs (by have:=HBG.out;omega) HLB.out (by decide) l' s2' h12.out).mono ?_;rintro e w9 ⟨v9,rfl,hl9,hp9,hf9⟩
    obtain ⟨vA,vc,vx,rfl,-,-,-,-,-⟩:=hl9.sl spcA_size
    have hown:∀ k,(Value.slice sA bb.length sc).ownBlock=some k→g+1≤k:=fun k e=>(HLSb.out.own_lt k e).1
    have hs9:St b c A ws g 33 w s2' #[.slice iA a.length ic,.slice sA bb.length sc,.slice none 0 0] w9:=⟨hp9,hf9.blk HSTb.out.bl (by have:=HBG.out;omega) (fun e=>by have:=hown g e;omega),hf9.toOth HSTb.out.ot hown HWG.out,HBG.out,HSTb.out.hg⟩
    have HLo9:Hid (LT w9 (Fm (g+1)) (.slice iA a.length ic) a):=RepL.keepEq HLTb.out fun k e=>hf9.block k (HLTb.out.own_lt k e).2 (by have h:=(HLTb.out.own_lt k e).1;have h':g+1≤k:=h;have:=HBG.out;omega) (RepL.ne HLTb.out HLSb.out (by decide) k e)
    have f1:=hs9.fr 1
    clear c1
    have c1:w9.cell? ⟨g,1,none⟩=some (.slice sA bb.length sc):=hs9.ce 1
    have HST9:Hid (St b c A ws g 33 w s2' #[.slice iA a.length ic,.slice vA l'.length vc,.slice none 0 0] (w9.setCell ⟨g,1,none⟩ (.slice vA l'.length vc))):=hs9.put 1 _ rfl
    have HL9:=Lib.hid hl9
    clear hs9 hl9 hp9 hf9 hown hgs
    go_wp2_with fail
    go_roundw
    case rel =>
     have hW9:=Oth.set w9 g 1 (.slice vA l'.length vc)
     exact ⟨n,a,l',s2',iA,ic,vA,vc,HST9.out,LT.lasts (Mv.oth hW9 (Nat.le_refl _) (Nat.lt_succ_self _)) HLo9.out,LS.lasts (Mv.oth hW9 (Nat.le_refl _) (Nat.lt_succ_self _)) HL9.out,HHH.out,HF2.out,HLA.out,HLN.out⟩
    case measure =>
     rw [HST9.out.pc.left,HLEFT.out]
     exact HA.out
  ·have he1:=(prog_inc ws s1' HST.out.pc.lt hB1.out).1
   obtain ⟨n,rfl⟩:∃ k,n=k+1:=⟨n - 1,by have:=HF.out he1;omega⟩
   have HH2:=HH.out
   rw [heads_inc ws n a bb s1' hB1.out] at HH2
   have HHH:=Lib.hid HH2
   have HF2:=Lib.hid (fuel_add (prog_inc ws) 5 a (n:=n) HST.out.pc.lt hB1.out HF.out)
   have HA:=Lib.hid (left_add (prog_inc ws) 5 a HST.out.pc.lt hfew hB1.out)
   have HLN:=Lib.hid (add_len 5 (incP ws) a s1' HLA.out)
   obtain ⟨⟨l',s2'⟩,h12⟩:∃ r,Hid (addP 5 (incP ws) a s1'=r):=⟨_,rfl⟩
   rw [h12.out] at HHH HF2 HA HLN
   clear he1 HH2 HH HF
   go_wp2_with fail
   refine (is_any HST2.out.pc _ kInclude (Tx.of _) _ hB1.out).mono ?_;rintro e w4 ⟨rfl,hnb⟩
   have HSTb:=Lib.hid (HST2.out.nx hnb)
   have HLTb:=Lib.hid (LT.lasts (Mv.nx hnb (Nat.le_refl _)) HLT2.out)
   have HLSb:=Lib.hid (LS.lasts (Mv.nx hnb (Nat.le_refl _)) HLS2.out)
   clear hnb
   have c0:w4.cell? ⟨g,0,none⟩=some (.slice iA a.length ic):=HSTb.out.ce 0
   have hgs:g+1≤w4.heap.size:=HSTb.out.bl.lt
   go_wp2_with fail
   refine (addI_any (E:=fun _=>True) (isP ws kInclude) (incP ws) inc_any HSTb.out.pc trivial hB1.out (g+1) 5 (.slice iA a.length ic) a HLTb.out hgs (by have:=HBG.out;omega) HLA.out (by decide) l' s2' h12.out).mono ?_;rintro e w9 ⟨v9,rfl,hl9,hp9,hf9⟩
   obtain ⟨vA,vc,vx,rfl,-,-,-,-,-⟩:=hl9.sl strA_size
   have hown:∀ k,(Value.slice iA a.length ic).ownBlock=some k→g+1≤k:=fun k e=>(HLTb.out.own_lt k e).1
   have hs9:St b c A ws g 33 w s2' #[.slice iA a.length ic,.slice sA bb.length sc,.slice none 0 0] w9:=⟨hp9,hf9.blk HSTb.out.bl (by have:=HBG.out;omega) (fun e=>by have:=hown g e;omega),hf9.toOth HSTb.out.ot hown HWG.out,HBG.out,HSTb.out.hg⟩
   have HLo9:Hid (LS w9 (Fm (g+1)) (.slice sA bb.length sc) bb):=RepL.keepEq HLSb.out fun k e=>hf9.block k (HLSb.out.own_lt k e).2 (by have h:=(HLSb.out.own_lt k e).1;have h':g+1≤k:=h;have:=HBG.out;omega) (RepL.ne HLSb.out HLTb.out (by decide) k e)
   have f0:=hs9.fr 0
   clear c0
   have c0:w9.cell? ⟨g,0,none⟩=some (.slice iA a.length ic):=hs9.ce 0
   have HST9:Hid (St b c A ws g 33 w s2' #[.slice vA l'.length vc,.slice sA bb.length sc,.slice none 0 0] (w9.setCell ⟨g,0,none⟩ (.slice vA l'.length vc))):=hs9.put 0 _ rfl
   have HL9:=Lib.hid hl9
   clear hs9 hl9 hp9 hf9 hown hgs
   go_wp2_with fail
   go_roundw
   case rel =>
    have hW9:=Oth.set w9 g 0 (.slice vA l'.length vc)
    exact ⟨n,l',bb,s2',vA,vc,sA,sc,HST9.out,LT.lasts (Mv.oth hW9 (Nat.le_refl _) (Nat.lt_succ_self _)) HL9.out,LS.lasts (Mv.oth hW9 (Nat.le_refl _) (Nat.lt_succ_self _)) HLo9.out,HHH.out,HF2.out,HLN.out,HLB.out⟩
   case measure =>
    rw [HST9.out.pc.left,HLEFT.out]
    exact HA.out
end
end Go.Proofs.YtpbjkgpdkopgmaaGreatDoor
namespace Go.Proofs.YtpbjkgpdkopgmaaGreatDoor
open Go.RowKit
theorem first_t (l:List UInt8):(firstS l).2.1.t.length≤l.length:=by
 cases l with
 | nil=>exact Nat.le_refl _
 | cons c r =>
  have e:firstS (c :: r)=if isLetS c || decide (c.toNat=95) then nameS (c :: r)
   else if isDig c || decide (c.toNat=43) || decide (c.toNat=45) || decide (c.toNat=46) then numberS (c :: r)
   else if c.toNat=34∨c.toNat=39 then quotedS c r
   else if signsL.contains c then (0,⟨5,[c],0,0,0⟩,1) else (2,tok0,0):=rfl
  rw [e]
  split
  ·unfold nameS
   split
   ·exact Nat.zero_le _
   ·split
    ·exact Nat.zero_le _
    ·exact List.length_take_le' _ _
  ·split
   ·unfold numberS
    repeat' split
    all_goals exact Nat.zero_le _
   ·split
    ·unfold quotedS
     split
     ·exact Nat.zero_le _
     ·have:=List.length_take_le' (quoteN c r) r
      exact Nat.le_trans this (by simp)
    ·split
     ·simp
     ·exact Nat.zero_le _
theorem next_t (o:Nat) (l:List UInt8):(nextS o l).2.2.1.t.length≤l.length:=by
 unfold nextS
 split
 ·exact Nat.zero_le _
 ·split
  ·exact Nat.zero_le _
  ·dsimp only
   unfold wordS
   split
   ·exact Nat.zero_le _
   ·split
    ·exact Nat.zero_le _
    ·exact Nat.le_trans (first_t _) (by simp)
theorem lex_t:∀ (f o:Nat) (l:List UInt8),∀ x ∈ (lexF f o l).1,x.t.length≤l.length
 | 0,_,_=>fun x h=>by cases h
 | f+1,o,l=>by
  have ih:=lex_t f (o+(nextS o l).2.2.2) (l.drop (nextS o l).2.2.2)
  intro x hx
  unfold lexF at hx
  split at hx
  ·cases hx
  ·split at hx
   ·simp at hx;subst hx;exact next_t o l
   ·split at hx
    ·exact Nat.le_trans (ih x hx) (by simp)
    ·rcases List.mem_cons.1 hx with rfl | hx
     ·exact next_t o l
     ·exact Nat.le_trans (ih x hx) (by simp)
theorem good_len {L:List UInt8}:∀ {ts:List TokV} {o:Nat},Good L o ts→ts.length+o≤L.length+1∧0<ts.length
 | [],_,h=>h.elim
 | [x],o,h=>⟨by have:=h.2.1;have:=h.2.2;simp;omega,by simp⟩
 | x :: y :: r,o,h=>by
  have h1:=(good_len (ts:=y :: r) h.2.2.2.2).1
  have h2:=h.2.1
  simp at h1 ⊢
  omega
theorem lex_ends (l:List UInt8) (h:(lexS l).2.1=0):Ends (lexS l).1∧0<(lexS l).1.length:=by
 have hg:=(lex_places l).1 h
 have hl:l.length≤2000:=by
  unfold lexS at h
  split at h
  ·cases h
  ·omega
 have h1:=good_len hg
 refine ⟨⟨fun i hi hk=>?_,by omega,fun x hx=>?_⟩,h1.2⟩
 ·have:=(hg.at_ i hi).2.2.1
  rw [List.getD_eq_getElem?_getD,List.getElem?_eq_getElem hi] at hk
  simp at hk
  have hne:¬ i+1=(lexS l).1.length:=fun e=>hk (this.2 e)
  omega
 ·unfold lexS at hx
  split at hx
  ·cases hx
  ·exact Nat.le_trans (lex_t _ _ _ x hx) hl
theorem results_cell_tmp2_rowP {P:Program} {fn:Func} {p u1 u2:Tmp} {ty:TypeId} (h:fn.results=#[.cell p ty,.tmp u1,.tmp u2]) (tmps:Array Value) (w:World) (g:Nat) (t:TypeId) (cs:Array Value) (fr:Nat×Nat) (d:TypeDesc)
  (hp:tmps.getD p undef = .pointer (some ⟨g,0,none⟩)) (hg:w.heap[g]? = some (.cells cs t fr))
  (hu:P.underlying ty=some d) (hd:(match d with | .struct _ | .array _ _=>true | _=>false)=true) (hi:(P.info? ty).map (·.size)=some cs.size) :
  (results fn tmps).run P w = .ok (.tuple #[.agg cs,tmps.getD u1 undef,tmps.getD u2 undef]) w:=by
 have hp':tmps[p]?.getD undef = .pointer (some ⟨g,0,none⟩):=by simpa using hp
 simp [results,h,hp',asAddr,run_loadVar_row w g t ty cs fr d hg hu hd hi]
theorem rfile0 {w:World} {P:Nat→Prop}:RFile w P ⟨.slice none 0 0,.slice none 0 0,.slice none 0 0⟩ fil0:=⟨RepL.nil_,RepL.nil_,RepL.nil_⟩
set_option maxRecDepth 100000 in
set_option maxHeartbeats 12800000 in
theorem fparse_any (w:World) (s:ByteArray) (l:List UInt8) (hl:Tx s l) (hs:(l.length:Int)≤140737488355328) (ht:TabK w) (hm:MaxC w) (hkw:1 < w.heap.size) :
  Calls Tryz.prog 12 #[.string s] w fun e w'=>∃ x,e = .returned (.tuple #[.agg (filA x),.int .i64 ((parseF l).2.1:Nat),.int .i64 ((parseF l).2.2:Nat)])∧RFile w' (Fm w.heap.size) x (parseF l).1∧Nx w w':=by
 have hmw:0 < w.heap.size:=by
  obtain ⟨m,hm⟩:=hm
  have:=World.block_lt_of_cell? w _ hm
  simpa using this
 obtain ⟨g,hg⟩:∃ g,w.heap.size=g:=⟨_,rfl⟩
 have hB1:=Blk.new w #[.slice none 0 0,.slice none 0 0,.slice none 0 0] 33
 rw [hg] at hB1
 have hn1:Nx w (w.alloc (.cells #[.slice none 0 0,.slice none 0 0,.slice none 0 0] 33)):=nx0 _ _
 have HLX:=Lib.hid (lex_any s l (w.alloc (.cells #[.slice none 0 0,.slice none 0 0,.slice none 0 0] 33)) hl hs (hm.nx hn1))
 have HB1:=Lib.hid hB1
 have HN1:=Lib.hid hn1
 have HT:=Lib.hid ht
 have HM:=Lib.hid hm
 have HGG:Hid (w.heap.size≤g∧1 < g∧0 < g):=by unfold Hid;omega
 obtain ⟨⟨ws,le,la⟩,hL⟩:∃ L,Hid (lexS l=L):=⟨_,rfl⟩
 have HEND:Hid (le=0→Ends ws∧0<ws.length):=by
  have:=lex_ends l
  rw [hL.out] at this
  exact this
 rw [hL.out] at HLX
 obtain ⟨⟨y,pe,pa⟩,hP⟩:∃ r,Hid (parseF l=r):=⟨_,rfl⟩
 rw [hP.out]
 have HPP:Hid ((if le≠0 then (fil0,le,la) else if (fileP ws ⟨0,0⟩).2.e≠0 then (fil0,(fileP ws ⟨0,0⟩).2.e,(ws.getD (fileP ws ⟨0,0⟩).2.i tok0).p) else ((fileP ws ⟨0,0⟩).1,0,0))=(y,pe,pa)):=by
  unfold Hid;rw [← hP.out];unfold parseF;dsimp only;rw [hL.out]
 clear hl hs ht hm hB1 hn1 hkw hmw
 go_enter Tryz.func12,Tryz.ntmps12
 go_upto_region 1 with (fail)
 generalize World.alloc w _=w1 at *
 clear hg
 go_wp2_with fail
 refine HLX.out.mono ?_;rintro e w2 ⟨v2,rfl,ho2,hn2⟩
 obtain ⟨A,c,rfl,hle,hcm,hrd⟩:=ho2.sl
 have HB2:=Lib.hid (HB1.out.below hn2)
 have HN2:=Lib.hid (HN1.out.trans hn2)
 have HRD:=Lib.hid hrd
 have HC:=Lib.hid hle
 clear hrd hle hcm hn2
 by_cases he:le=0
 ·subst he
  obtain ⟨hend,hpos⟩:=HEND.out rfl
  have hx:=HPP.out
  rw [if_neg (by decide)] at hx
  obtain ⟨⟨y',s'⟩,hF⟩:∃ r,Hid (fileP ws ⟨0,0⟩=r):=⟨_,rfl⟩
  rw [hF.out] at hx
  dsimp only at hx
  have HX:=Lib.hid hx
  have HA:Hid (∀ g',A=some ⟨g',0,none⟩→g<g'∧g'<w2.heap.size):=by
   unfold Hid;rintro g' rfl
   have h1:=World.ownsRow.lt ho2 g' rfl
   have h2:=HB1.out.lt
   exact ⟨by have:=h1.1;omega,h1.2⟩
  obtain ⟨b,hb⟩:∃ b,w2.heap.size=b:=⟨_,rfl⟩
  have hBc:=Blk.new w2 #[.slice A ws.length c,.int .i64 0,.int .i64 0] 89
  rw [hb] at hBc
  have hn3:Nx w2 (w2.alloc (.cells #[.slice A ws.length c,.int .i64 0,.int .i64 0] 89)):=nx0 _ _
  have hgb:g<b:=by have:=HB2.out.lt;omega
  have HPC:Hid (PC (w2.alloc (.cells #[.slice A ws.length c,.int .i64 0,.int .i64 0] 89)) b A c ws ⟨0,0⟩) :=
   ⟨hBc.less (Nat.zero_le _),HRD.out.nx hn3,fun g' e=>by have:=(HA.out g' e).2;omega,HC.out,(HT.out.nx HN2.out).nx hn3,(HM.out.nx HN2.out).nx hn3,by have:=HGG.out;omega,by have:=HGG.out;omega,hend,hpos,Nat.zero_le _⟩
  have HB3:=Lib.hid (HB2.out.below hn3)
  have HN3:=Lib.hid (HN2.out.trans hn3)
  have HGB:=Lib.hid hgb
  have hb1:w.heap.size≤b:=by have:=HGG.out.1;omega
  have HBW:=Lib.hid hb1
  have hi:ws.length≤2001:=hend.few
  have hfi:∀ w',PC w' b A c ws s'→s'.i<ws.length:=fun w' h=>h.lt
  clear hend hpos hx ho2 hBc hn3 hgb hb1 HPP
  go_upto_region 5 with (fail)
  generalize World.alloc w2 _=w3 at *
  clear hb
  go_wp2_with fail
  refine (file_any HPC.out y' s' hF.out).mono ?_;rintro e w4 ⟨⟨xi,xs,xd⟩,rfl,hr4,hp4,ho4⟩
  obtain ⟨i1,i2,-,rfl,-,-,-,-,-⟩:=hr4.1.sl strA_size
  obtain ⟨j1,j2,-,rfl,-,-,-,-,-⟩:=hr4.2.1.sl spcA_size
  obtain ⟨k1,k2,-,rfl,-,-,-,-,-⟩:=hr4.2.2.sl dfnA_size
  rw [show filA ⟨.slice i1 y'.incs.length i2,.slice j1 y'.spaces.length j2,.slice k1 y'.defs.length k2⟩=#[.slice i1 y'.incs.length i2,.slice j1 y'.spaces.length j2,.slice k1 y'.defs.length k2] from rfl]
  have hg3:g<w3.heap.size:=HB3.out.lt
  have HB4:=Lib.hid (ho4.blk HB3.out (by have:=HGB.out;omega))
  have HN4:=Lib.hid (ho4.to HN3.out HBW.out)
  have HR4:Hid (RFile w4 (Fm (g+1)) ⟨.slice i1 y'.incs.length i2,.slice j1 y'.spaces.length j2,.slice k1 y'.defs.length k2⟩ y'):=RFile.lasts (Mv.less hg3) hr4
  have HP4:=Lib.hid hp4
  have hl4:=hp4.lt
  clear hr4 hp4 ho4 hfi hg3
  have d0:w4.cell? ⟨g,0,none⟩=some (.slice none 0 0):=HB4.out.cell 0
  have d1:w4.cell? ⟨g,1,none⟩=some (.slice none 0 0):=HB4.out.cell 1
  have d2:w4.cell? ⟨g,2,none⟩=some (.slice none 0 0):=HB4.out.cell 2
  have f0:=HB4.out.free 0
  have f1:=HB4.out.free 1
  have f2:=HB4.out.free 2
  go_upto_region 6 with (fail)
  obtain ⟨w5,hw5⟩:∃ w5,((w4.setCell ⟨g,0,none⟩ (.slice i1 y'.incs.length i2)).setCell ⟨g,1,none⟩ (.slice j1 y'.spaces.length j2)).setCell ⟨g,2,none⟩ (.slice k1 y'.defs.length k2)=w5:=⟨_,rfl⟩
  have HW5:Hid (Oth g w4 w5):=by unfold Hid;rw [← hw5];exact (((Oth.refl g w4).own).own).own
  have HB5:Hid (Blk w5 g g #[.slice i1 y'.incs.length i2,.slice j1 y'.spaces.length j2,.slice k1 y'.defs.length k2] 33):=by
   unfold Hid;rw [← hw5];exact ((HB4.out.put 0 _).put 1 _).put 2 _
  have HN5:Hid (Nx w w5):=HW5.out.to HN4.out HGG.out.1
  have HR5:=Lib.hid (RFile.lasts (Mv.oth HW5.out (Nat.le_refl _) (Nat.lt_succ_self _)) HR4.out)
  rw [hw5]
  have HBc5:=Lib.hid (HW5.out.blk HP4.out.cur (by have:=HGB.out;omega))
  clear hw5 d0 d1 d2 f0 f1 f2
  have e1:w5.cell? ⟨b,1,none⟩=some (.int .i64 (s'.i:Int)):=HBc5.out.cell 1
  have e2:w5.cell? ⟨b,2,none⟩=some (.int .i64 (s'.e:Int)):=HBc5.out.cell 2
  by_cases he:s'.e=0
  ·have b1:((s'.e:Int) != 0)=false:=by rw [he];rfl
   have hx:=HX.out
   rw [if_neg (by simpa using he)] at hx
   simp only [Prod.mk.injEq] at hx
   obtain ⟨rfl,rfl,rfl⟩:=hx
   have d0:w5.cell? ⟨g,0,none⟩=some (.slice i1 y'.incs.length i2):=HB5.out.cell 0
   have d1:w5.cell? ⟨g,1,none⟩=some (.slice j1 y'.spaces.length j2):=HB5.out.cell 1
   have d2:w5.cell? ⟨g,2,none⟩=some (.slice k1 y'.defs.length k2):=HB5.out.cell 2
   have f0:=HB5.out.free 0
   have f1:=HB5.out.free 1
   have f2:=HB5.out.free 2
   clear he
   go_wp2_with fail
   refine bodyPost_ret (results_cell_tmp2_rowP rfl _ _ g _ _ _ _ rfl (((HB5.out.put 0 (.slice i1 y'.incs.length i2)).put 1 (.slice j1 y'.spaces.length j2)).put 2 (.slice k1 y'.defs.length k2)).2 Tryz.underlying33 rfl (by kernel_rfl)) rfl ?_
   have HW:=(Oth.refl g w5).own (i:=0) (v:=.slice i1 y'.incs.length i2) |>.own (i:=1) (v:=.slice j1 y'.spaces.length j2) |>.own (i:=2) (v:=.slice k1 y'.defs.length k2)
   exact ⟨⟨.slice i1 y'.incs.length i2,.slice j1 y'.spaces.length j2,.slice k1 y'.defs.length k2⟩,rfl,RFile.lasts (Mv.oth HW (by have:=HGG.out.1;omega) (Nat.lt_succ_self _)) HR5.out,HW.to HN5.out HGG.out.1⟩
  ·have b1:((s'.e:Int) != 0)=true:=by rw [bne_iff_ne];omega
   have hx:=HX.out
   rw [if_pos he] at hx
   simp only [Prod.mk.injEq] at hx
   obtain ⟨rfl,rfl,hpa⟩:=hx
   obtain ⟨g',rfl,hg',hgg',hct⟩:=HP4.out.tok
   have hne:g'≠g:=by have:=(HA.out g' rfl).1;omega
   obtain ⟨⟨tk,tt,tn,td,tp⟩,hT⟩:∃ T,ws.getD s'.i tok0=T:=⟨_,rfl⟩
   have t4':=hct 4 (by decide)
   rw [hT] at t4' hpa
   obtain rfl:tp=pa:=hpa
   have t4:w5.cell? ⟨g',s'.i * 5+4,none⟩=some (.int .i64 (tp:Int)):=by
    rw [← show w4.cell? ⟨g',s'.i * 5+4,none⟩=some (.int .i64 (tp:Int)) from t4']
    unfold World.cell?
    simp only
    rw [HW5.out.block g' hg' hne]
   have hltI:(s'.i:Int)<(ws.length:Int):=by omega
   have hl3:(s'.i:Int)≤2001:=by omega
   have d0:w5.cell? ⟨g,0,none⟩=some (.slice i1 y'.incs.length i2):=HB5.out.cell 0
   have d1:w5.cell? ⟨g,1,none⟩=some (.slice j1 y'.spaces.length j2):=HB5.out.cell 1
   have d2:w5.cell? ⟨g,2,none⟩=some (.slice k1 y'.defs.length k2):=HB5.out.cell 2
   have f0:=HB5.out.free 0
   have f1:=HB5.out.free 1
   have f2:=HB5.out.free 2
   have hbg:b≠g:=by have:=HGB.out;omega
   have hbg2:g≠b:=hbg.symm
   have hne2:g≠g':=hne.symm
   clear he t4' hct hT hg' hgg'
   go_wp2_with fail
   go_region
   all_goals
    go_wp2_with fail
    refine bodyPost_ret (results_cell_tmp2_rowP rfl _ _ g _ _ _ _ rfl ((((HB5.out.put 0 (.slice none 0 0)).put 1 (.slice none 0 0)).put 2 (.slice none 0 0)).drew 1).2 Tryz.underlying33 rfl (by kernel_rfl)) rfl ?_
    have HW:=(Oth.refl g w5).own (i:=0) (v:=.slice none 0 0) |>.own (i:=1) (v:=.slice none 0 0) |>.own (i:=2) (v:=.slice none 0 0)
    exact ⟨⟨.slice none 0 0,.slice none 0 0,.slice none 0 0⟩,rfl,rfile0,(HW.to HN5.out HGG.out.1).dr 1⟩
 ·have b1:((le:Int) != 0)=true:=by rw [bne_iff_ne];omega
  have hx:=HPP.out
  rw [if_pos he] at hx
  simp only [Prod.mk.injEq] at hx
  obtain ⟨rfl,rfl,rfl⟩:=hx
  have c0:w2.cell? ⟨g,0,none⟩=some (.slice none 0 0):=HB2.out.cell 0
  have c1:w2.cell? ⟨g,1,none⟩=some (.slice none 0 0):=HB2.out.cell 1
  have c2:w2.cell? ⟨g,2,none⟩=some (.slice none 0 0):=HB2.out.cell 2
  have f0:=HB2.out.free 0
  have f1:=HB2.out.free 1
  have f2:=HB2.out.free 2
  clear he ho2
  go_wp2_with fail
  refine bodyPost_ret (results_cell_tmp2_rowP rfl _ _ g _ _ _ _ rfl (((HB2.out.put 0 (.slice none 0 0)).put 1 (.slice none 0 0)).put 2 (.slice none 0 0)).2 Tryz.underlying33 rfl (by kernel_rfl)) rfl ?_
  exact ⟨⟨.slice none 0 0,.slice none 0 0,.slice none 0 0⟩,rfl,rfile0,((HN2.out.put' HGG.out.1 0 _).put' HGG.out.1 1 _).put' HGG.out.1 2 _⟩
end Go.Proofs.YtpbjkgpdkopgmaaGreatDoor
