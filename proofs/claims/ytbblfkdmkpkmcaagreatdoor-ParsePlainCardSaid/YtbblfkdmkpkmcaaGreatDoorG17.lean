/- The contract of a file's reading. The contracts of dec's cutting of texts: a sign, digits. The contracts of token's small functions. The contracts of token's gaps, signs, digits. -/
import Derived.Test.YtbblfkdmkpkmcaaGreatDoorG16
import Derived.Test.YtbblfkdmkpkmcaaGreatDoorProg
import Derived.Test.YtbblfkdmkpkmcaaGreatDoorG01
import Derived.Test.YtbblfkdmkpkmcaaGreatDoorG00
import Derived.Test.YtbblfkdmkpkmcaaGreatDoorG02
import Derived.WalkSpells
import Derived.Deep.QuietTactic
import Derived.BigQuiet
import Derived.Lib.Strings
import Derived.Test.YtbblfkdmkpkmcaaGreatDoorShelf
import Derived.Laws.Rows
import Derived.Laws.ResultCell
set_option linter.unusedVariables false
set_option linter.unusedSimpArgs false
set_option linter.unnecessarySimpa false
namespace Go.Proofs.YtbblfkdmkpkmcaaGreatDoor
open Go.RowKit
theorem RepL.keepEq {α:Type} {f:α→Array Value} {k:Nat} {T:TypeId} {w w':World} {P:Nat→Prop} {v:Value} {l:List α} (h:RepL f k T (REq (α:=α)) w P v l) (hk:∀ g,v.ownBlock=some g→w'.heap[g]? = w.heap[g]?):RepL f k T (REq (α:=α)) w' P v l:=by
 obtain ⟨xs,h1,h2⟩:=h
 exact ⟨xs,⟨h1.1.keep hk,h1.2⟩,h2⟩
theorem RepL.ne {α β α' β':Type} {f:α→Array Value} {k:Nat} {T:TypeId} {R:World→(Nat→Prop)→α→β→Prop} {f':α'→Array Value} {k':Nat} {T':TypeId} {R':World→(Nat→Prop)→α'→β'→Prop} {w:World} {P P':Nat→Prop} {v v':Value} {l:List β} {l':List β'}
  (h:RepL f k T R w P v l) (h':RepL f' k' T' R' w P' v' l') (hT:T≠T') (g:Nat) (e:v.ownBlock=some g):v'.ownBlock≠some g:=fun e'=>by
 obtain ⟨xs,⟨⟨_,h1⟩,_⟩,_⟩:=h
 obtain ⟨xs',⟨⟨_,h2⟩,_⟩,_⟩:=h'
 rcases h1 with ⟨rfl,_⟩ | ⟨g1,cap,cur,rfl,_,hh,_⟩
 ·simp [Value.ownBlock] at e
 ·rcases h2 with ⟨rfl,_⟩ | ⟨g2,cap2,cur2,rfl,_,hh2,_⟩
  ·simp [Value.ownBlock] at e'
  ·simp [Value.ownBlock] at e e'
   subst e;subst e'
   rw [hh] at hh2
   simp only [Option.some.injEq,Obj.cells.injEq] at hh2
   exact hT hh2.2.1
theorem heads_inc (ws:List TokV) (n:Nat) (a:List (List UInt8)) (b:List Spc) (s:PSt) (h:isP ws kInclude s=true):headsP ws (n+1) a b s=headsP ws n (addP 5 (incP ws) a s).1 b (addP 5 (incP ws) a s).2:=by
 conv=>lhs;unfold headsP
 rw [if_pos h]
theorem heads_spc (ws:List TokV) (n:Nat) (a:List (List UInt8)) (b:List Spc) (s:PSt) (h1:isP ws kInclude s=false) (h:isP ws kNamespace s=true):headsP ws (n+1) a b s=headsP ws n a (addP 5 (spcP ws) b s).1 (addP 5 (spcP ws) b s).2:=by
 conv=>lhs;unfold headsP
 rw [if_neg (by rw [h1];decide),if_pos h]
theorem heads_end (ws:List TokV) (n:Nat) (a:List (List UInt8)) (b:List Spc) (s:PSt) (h1:isP ws kInclude s=false) (h:isP ws kNamespace s=false):headsP ws n a b s=((a,b),s):=by
 cases n with
 | zero=>rfl
 | succ n=>unfold headsP;rw [if_neg (by rw [h1];decide),if_neg (by rw [h];decide)]
theorem fuel_add {β:Type} {ws:List TokV} {p:PSt→Bool} {rd:PSt→β×PSt} (hp:Prog ws p rd) (most:Nat) (acc:List β) {s:PSt} {n:Nat} (hl:s.i<ws.length) (h:p s=true) (hf:s.e=0→ws.length - s.i<n+1) :
  (addP most rd acc s).2.e=0→ws.length - (addP most rd acc s).2.i<n:=by
 intro he
 have h3:=hp s hl h
 have h4:=hf h3.1
 unfold addP at he ⊢
 split at he
 ·exact absurd he (fail_ne 4 (by decide) s)
 ·rename_i h5
  rw [if_neg h5]
  dsimp only at he ⊢
  have:=h3.2.resolve_left (by simpa using he)
  omega
section
variable {b c:Nat} {A:Option Addr} {ws:List TokV}
set_option maxRecDepth 100000 in
set_option maxHeartbeats 12800000 in
theorem file_any {w:World} {s:PSt} (h0:PC w b A c ws s) (y:Fil) (s':PSt) (hr:fileP ws s=(y,s')) :
  Calls Tryz.prog 27 #[.pointer (some ⟨b,0,none⟩)] w fun e w'=>∃ x,e = .returned (.agg (filA x))∧RFile w' (Fm w.heap.size) x y∧PC w' b A c ws s'∧Oth b w w':=by
 have hmf:∀ (fn:Fn) (first cap:Array Value) (w:World),(Instr.makeFunc fn first cap).run Tryz.prog w = .ok (.func fn first cap) w:=fun fn first cap w=>makeFunc_run fn first cap w
 obtain ⟨⟨⟨la,lb⟩,s1⟩,h1⟩:∃ r,Hid (headsP ws (ws.length+1) [] [] s=r):=⟨_,rfl⟩
 obtain ⟨⟨ld,s2⟩,h2⟩:∃ r,Hid (elemsP ws (atDefP ws) 30 (defP ws) (ws.length+1) [] s1=r):=⟨_,rfl⟩
 obtain ⟨⟨tk,tt,tn,td,tp⟩,hT⟩:∃ T,Hid (wordP ws s2=T):=⟨_,rfl⟩
 have hx:((⟨la,lb,ld⟩:Fil),(if tk=6 then s2 else failP 2 s2))=(y,s'):=by
  rw [← hr];unfold fileP;dsimp only;rw [h1.out];dsimp only;rw [h2.out];dsimp only;rw [hT.out]
 simp only [Prod.mk.injEq] at hx
 obtain ⟨rfl,hs'⟩:=hx
 have HS':=Lib.hid hs'
 obtain ⟨g,hg⟩:∃ g,w.heap.size=g:=⟨_,rfl⟩
 have HS1:Hid (St b c A ws g 27 w s #[.slice none 0 0,.slice none 0 0,.slice none 0 0] (w.alloc (.cells #[.slice none 0 0,.slice none 0 0,.slice none 0 0] 27))):=St.new h0 hg
 have hfew:=h0.fin.few
 have hlt0:=h0.lt
 have hbg:b<g:=by have:=h0.bw;omega
 have hwg:w.heap.size≤g+1:=by omega
 have HBG:=Lib.hid hbg
 have HWG:=Lib.hid hwg
 have F0:∀ w1,(Instr.field 68 (.agg #[.int .i64 (tk:Int),.string ⟨tt.toArray⟩,.int .i64 tn,.int .u64 (td:Int),.int .i64 (tp:Int)]) 0).run Tryz.prog w1 = .ok (.int .i64 (tk:Int)) w1:=fun w1=>(tok_field _ _ _ _ _ w1).1
 clear h0 hr hs' hbg hwg
 go_enter Tryz.func27,Tryz.ntmps27
 go_upto_region 1 with (fail)
 generalize World.alloc w _=w1 at *
 clear hg
 go_loopw [] (fun wr=>∃ (n:Nat) (a:List (List UInt8)) (bb:List Spc) (s1':PSt) (iA:Option Addr) (ic:Nat) (sA:Option Addr) (sc:Nat),St b c A ws g 27 w s1' #[.slice iA a.length ic,.slice sA bb.length sc,.slice none 0 0] wr∧LT wr (Fm (g+1)) (.slice iA a.length ic) a∧LS wr (Fm (g+1)) (.slice sA bb.length sc) bb ∧
   Hid (headsP ws n a bb s1'=((la,lb),s1))∧Hid (s1'.e=0→ws.length - s1'.i<n)∧a.length≤5∧bb.length≤5) (fun wr=>leftP b wr)
 case atStart=>exact ⟨ws.length+1,[],[],s,none,0,none,0,HS1.out,RepL.nil_,RepL.nil_,h1.out,(fun _=>by omega),Nat.zero_le _,Nat.zero_le _⟩
 case round =>
  obtain ⟨n,a,bb,s1',iA,ic,sA,sc,hst,hlt,hls,HH,HF,hla,hlb⟩:=hrel
  have HST:=Lib.hid hst
  have HLT:=Lib.hid hlt
  have HLS:=Lib.hid hls
  have HLEFT:=Lib.hid hst.pc.left
  have HLA:=Lib.hid hla
  have HLB:=Lib.hid hlb
  clear hst hlt hls hla hlb
  obtain ⟨B1,hB1⟩:∃ B,Hid (isP ws kInclude s1'=B):=⟨_,rfl⟩
  obtain ⟨B2,hB2⟩:∃ B,Hid (isP ws kNamespace s1'=B):=⟨_,rfl⟩
  go_wp2_with fail
  refine (is_any HST.out.pc _ kInclude (Tx.of _) B1 hB1.out).mono ?_;rintro e w2 ⟨rfl,hn2⟩
  have HST2:=Lib.hid (HST.out.nx hn2)
  have HLT2:=Lib.hid (LT.lasts (Mv.nx hn2 (Nat.le_refl _)) HLT.out)
  have HLS2:=Lib.hid (LS.lasts (Mv.nx hn2 (Nat.le_refl _)) HLS.out)
  clear hn2
  cases B1
  ·go_wp2_with fail
   refine (is_any HST2.out.pc _ kNamespace (Tx.of _) B2 hB2.out).mono ?_;rintro e w3 ⟨rfl,hn3⟩
   have HST3:=Lib.hid (HST2.out.nx hn3)
   have HLT3:=Lib.hid (LT.lasts (Mv.nx hn3 (Nat.le_refl _)) HLT2.out)
   have HLS3:=Lib.hid (LS.lasts (Mv.nx hn3 (Nat.le_refl _)) HLS2.out)
   clear hn3
   cases B2
   ·have hx:=HH.out
    rw [heads_end ws n a bb s1' hB1.out hB2.out] at hx
    simp only [Prod.mk.injEq] at hx
    obtain ⟨⟨rfl,rfl⟩,rfl⟩:=hx
    go_wp2_with fail
    refine (elsD_any (E:=fun _=>True) stays_true (atDefP ws) (defP ws) atDef_at def_any (prog_def ws) HST3.out.pc trivial 30 (by decide) ld s2 h2.out).mono ?_;rintro e w4 ⟨v4,rfl,hl4,hp4,ho4⟩
    obtain ⟨dA,dc,dx,rfl,-,-,-,-,-⟩:=hl4.sl dfnA_size
    have hs4:=HST3.out.step hp4 ho4
    have hbg1:b<g+1:=by have:=HBG.out;omega
    have HLT4:=Lib.hid (LT.lasts (Mv.oth ho4 (Nat.le_refl _) hbg1) HLT3.out)
    have HLS4:=Lib.hid (LS.lasts (Mv.oth ho4 (Nat.le_refl _) hbg1) HLS3.out)
    have HLD4:Hid (LD w4 (Fm (g+1)) (.slice dA ld.length dc) ld):=LD.lasts (Mv.less (by have:=HST3.out.bl.lt;omega)) hl4
    have c2:w4.cell? ⟨g,2,none⟩=some (.slice none 0 0):=hs4.ce 2
    have f2:=hs4.fr 2
    have HST5:Hid (St b c A ws g 27 w s2 #[.slice iA a.length ic,.slice sA bb.length sc,.slice dA ld.length dc] (w4.setCell ⟨g,2,none⟩ (.slice dA ld.length dc))):=hs4.put 2 _ rfl
    clear hs4 hl4 hp4 ho4 hbg1
    go_wp2_with fail
    refine (word_any' HST5.out.pc _ _ _ _ _ hT.out).mono ?_;rintro e w6 ⟨rfl,hn6⟩
    have HST6:=Lib.hid (HST5.out.nx hn6)
    have hW4:=Oth.set w4 g 2 (.slice dA ld.length dc)
    have HLT6:=Lib.hid (LT.lasts (Mv.nx hn6 (Nat.le_refl _)) (LT.lasts (Mv.oth hW4 (Nat.le_refl _) (Nat.lt_succ_self _)) HLT4.out))
    have HLS6:=Lib.hid (LS.lasts (Mv.nx hn6 (Nat.le_refl _)) (LS.lasts (Mv.oth hW4 (Nat.le_refl _) (Nat.lt_succ_self _)) HLS4.out))
    have HLD6:=Lib.hid (LD.lasts (Mv.nx hn6 (Nat.le_refl _)) (LD.lasts (Mv.oth hW4 (Nat.le_refl _) (Nat.lt_succ_self _)) HLD4.out))
    clear hn6 hW4 c2 f2
    obtain ⟨Q,hQ⟩:∃ B,Hid (((tk:Int) != 6)=B):=⟨_,rfl⟩
    have hq:=hQ.out
    cases Q
    ·have h6:tk=6:=by have:=hQ.out;simp at this;omega
     have HE:Hid (s2=s'):=by have:=HS'.out;rw [if_pos h6] at this;exact this
     clear h6
     obtain rfl:=HE.out
     have c0:w6.cell? ⟨g,0,none⟩=some (.slice iA a.length ic):=HST6.out.ce 0
     have c1:w6.cell? ⟨g,1,none⟩=some (.slice sA bb.length sc):=HST6.out.ce 1
     have c2:w6.cell? ⟨g,2,none⟩=some (.slice dA ld.length dc):=HST6.out.ce 2
     have f0:=HST6.out.fr 0
     have f1:=HST6.out.fr 1
     have f2:=HST6.out.fr 2
     go_wp2_with fail
     have HS7:=(HST6.out.put 0 (.slice iA a.length ic) rfl).put 1 (.slice sA bb.length sc) rfl |>.put 2 (.slice dA ld.length dc) rfl
     refine bodyPost_ret (results_cell_row rfl _ _ g _ _ _ _ rfl HS7.bl.2 Tryz.underlying27 rfl (by kernel_rfl)) rfl ?_
     have HW:=(Oth.refl g w6).own (i:=0) (v:=.slice iA a.length ic) |>.own (i:=1) (v:=.slice sA bb.length sc) |>.own (i:=2) (v:=.slice dA ld.length dc)
     exact ⟨⟨.slice iA a.length ic,.slice sA bb.length sc,.slice dA ld.length dc⟩,rfl,⟨LT.lasts (Mv.oth HW HWG.out (Nat.lt_succ_self _)) HLT6.out,LS.lasts (Mv.oth HW HWG.out (Nat.lt_succ_self _)) HLS6.out,LD.lasts (Mv.oth HW HWG.out (Nat.lt_succ_self _)) HLD6.out⟩,HS7.pc,HS7.ot⟩
    ·have h6:¬ tk=6:=by have:=hQ.out;simp at this;omega
     have HE:Hid (failP 2 s2=s'):=by have:=HS'.out;rw [if_neg h6] at this;exact this
     clear h6
     go_wp2_with fail
     refine (fail_any HST6.out.pc 2 (by decide) (by decide)).mono ?_;rintro e w7 ⟨rfl,hp7,ho7⟩
     rw [HE.out] at hp7
     have hbg1:b<g+1:=by have:=HBG.out;omega
     have HST7:=Lib.hid (HST6.out.step hp7 ho7)
     have HLT7:=Lib.hid (LT.lasts (Mv.oth ho7 (Nat.le_refl _) hbg1) HLT6.out)
     have HLS7:=Lib.hid (LS.lasts (Mv.oth ho7 (Nat.le_refl _) hbg1) HLS6.out)
     have HLD7:=Lib.hid (LD.lasts (Mv.oth ho7 (Nat.le_refl _) hbg1) HLD6.out)
     clear hp7 ho7 hbg1
     have c0:w7.cell? ⟨g,0,none⟩=some (.slice iA a.length ic):=HST7.out.ce 0
     have c1:w7.cell? ⟨g,1,none⟩=some (.slice sA bb.length sc):=HST7.out.ce 1
     have c2:w7.cell? ⟨g,2,none⟩=some (.slice dA ld.length dc):=HST7.out.ce 2
     have f0:=HST7.out.fr 0
     have f1:=HST7.out.fr 1
     have f2:=HST7.out.fr 2
     go_wp2_with fail
     have HS7:=(HST7.out.put 0 (.slice iA a.length ic) rfl).put 1 (.slice sA bb.length sc) rfl |>.put 2 (.slice dA ld.length dc) rfl
     refine bodyPost_ret (results_cell_row rfl _ _ g _ _ _ _ rfl HS7.bl.2 Tryz.underlying27 rfl (by kernel_rfl)) rfl ?_
     have HW:=(Oth.refl g w7).own (i:=0) (v:=.slice iA a.length ic) |>.own (i:=1) (v:=.slice sA bb.length sc) |>.own (i:=2) (v:=.slice dA ld.length dc)
     exact ⟨⟨.slice iA a.length ic,.slice sA bb.length sc,.slice dA ld.length dc⟩,rfl,⟨LT.lasts (Mv.oth HW HWG.out (Nat.lt_succ_self _)) HLT7.out,LS.lasts (Mv.oth HW HWG.out (Nat.lt_succ_self _)) HLS7.out,LD.lasts (Mv.oth HW HWG.out (Nat.lt_succ_self _)) HLD7.out⟩,HS7.pc,HS7.ot⟩
   ·have he1:=(prog_spc ws s1' HST.out.pc.lt hB2.out).1
    obtain ⟨n,rfl⟩:∃ k,n=k+1:=⟨n - 1,by have:=HF.out he1;omega⟩
    have HH2:=HH.out
    rw [heads_spc ws n a bb s1' hB1.out hB2.out] at HH2
    have HHH:=Lib.hid HH2
    have HF2:=Lib.hid (fuel_add (prog_spc ws) 5 bb (n:=n) HST.out.pc.lt hB2.out HF.out)
    have HA:=Lib.hid (left_add (prog_spc ws) 5 bb HST.out.pc.lt hfew hB2.out)
    have HLN:=Lib.hid (add_len 5 (spcP ws) bb s1' HLB.out)
    obtain ⟨⟨l',s2'⟩,h12⟩:∃ r,Hid (addP 5 (spcP ws) bb s1'=r):=⟨_,rfl⟩
    rw [h12.out] at HHH HF2 HA HLN
    clear he1 HH2 HH HF
    go_wp2_with fail
    refine (is_any HST3.out.pc _ kInclude (Tx.of _) _ hB1.out).mono ?_;rintro e w4 ⟨rfl,hnb⟩
    have HSTb:=Lib.hid (HST3.out.nx hnb)
    have HLTb:=Lib.hid (LT.lasts (Mv.nx hnb (Nat.le_refl _)) HLT3.out)
    have HLSb:=Lib.hid (LS.lasts (Mv.nx hnb (Nat.le_refl _)) HLS3.out)
    clear hnb
    have c1:w4.cell? ⟨g,1,none⟩=some (.slice sA bb.length sc):=HSTb.out.ce 1
    have hgs:g+1≤w4.heap.size:=HSTb.out.bl.lt
    go_wp2_with fail
    refine (addS_any (E:=fun _=>True) (isP ws kNamespace) (spcP ws) spc_any HSTb.out.pc trivial hB2.out (g+1) 5 (.slice sA bb.length sc) bb HLSb.out hgs (by have:=HBG.out;omega) HLB.out (by decide) l' s2' h12.out).mono ?_;rintro e w9 ⟨v9,rfl,hl9,hp9,hf9⟩
    obtain ⟨vA,vc,vx,rfl,-,-,-,-,-⟩:=hl9.sl spcA_size
    have hown:∀ k,(Value.slice sA bb.length sc).ownBlock=some k→g+1≤k:=fun k e=>(HLSb.out.own_lt k e).1
    have hs9:St b c A ws g 27 w s2' #[.slice iA a.length ic,.slice sA bb.length sc,.slice none 0 0] w9:=⟨hp9,hf9.blk HSTb.out.bl (by have:=HBG.out;omega) (fun e=>by have:=hown g e;omega),hf9.toOth HSTb.out.ot hown HWG.out,HBG.out,HSTb.out.hg⟩
    have HLo9:Hid (LT w9 (Fm (g+1)) (.slice iA a.length ic) a):=RepL.keepEq HLTb.out fun k e=>hf9.block k (HLTb.out.own_lt k e).2 (by have h:=(HLTb.out.own_lt k e).1;have h':g+1≤k:=h;have:=HBG.out;omega) (RepL.ne HLTb.out HLSb.out (by decide) k e)
    have f1:=hs9.fr 1
    clear c1
    have c1:w9.cell? ⟨g,1,none⟩=some (.slice sA bb.length sc):=hs9.ce 1
    have HST9:Hid (St b c A ws g 27 w s2' #[.slice iA a.length ic,.slice vA l'.length vc,.slice none 0 0] (w9.setCell ⟨g,1,none⟩ (.slice vA l'.length vc))):=hs9.put 1 _ rfl
    have HL9:=Lib.hid hl9
    clear hs9 hl9 hp9 hf9 hown hgs
    go_wp2_with fail
    go_roundw
    case rel =>
     have hW9:=Oth.set w9 g 1 (.slice vA l'.length vc)
     exact ⟨n,a,l',s2',iA,ic,vA,vc,HST9.out,LT.lasts (Mv.oth hW9 (Nat.le_refl _) (Nat.lt_succ_self _)) HLo9.out,LS.lasts (Mv.oth hW9 (Nat.le_refl _) (Nat.lt_succ_self _)) HL9.out,HHH.out,HF2.out,HLA.out,HLN.out⟩
    case measure =>
     rw [HST9.out.pc.left,HLEFT.out]
     exact HA.out
  ·have he1:=(prog_inc ws s1' HST.out.pc.lt hB1.out).1
   obtain ⟨n,rfl⟩:∃ k,n=k+1:=⟨n - 1,by have:=HF.out he1;omega⟩
   have HH2:=HH.out
   rw [heads_inc ws n a bb s1' hB1.out] at HH2
   have HHH:=Lib.hid HH2
   have HF2:=Lib.hid (fuel_add (prog_inc ws) 5 a (n:=n) HST.out.pc.lt hB1.out HF.out)
   have HA:=Lib.hid (left_add (prog_inc ws) 5 a HST.out.pc.lt hfew hB1.out)
   have HLN:=Lib.hid (add_len 5 (incP ws) a s1' HLA.out)
   obtain ⟨⟨l',s2'⟩,h12⟩:∃ r,Hid (addP 5 (incP ws) a s1'=r):=⟨_,rfl⟩
   rw [h12.out] at HHH HF2 HA HLN
   clear he1 HH2 HH HF
   go_wp2_with fail
   refine (is_any HST2.out.pc _ kInclude (Tx.of _) _ hB1.out).mono ?_;rintro e w4 ⟨rfl,hnb⟩
   have HSTb:=Lib.hid (HST2.out.nx hnb)
   have HLTb:=Lib.hid (LT.lasts (Mv.nx hnb (Nat.le_refl _)) HLT2.out)
   have HLSb:=Lib.hid (LS.lasts (Mv.nx hnb (Nat.le_refl _)) HLS2.out)
   clear hnb
   have c0:w4.cell? ⟨g,0,none⟩=some (.slice iA a.length ic):=HSTb.out.ce 0
   have hgs:g+1≤w4.heap.size:=HSTb.out.bl.lt
   go_wp2_with fail
   refine (addI_any (E:=fun _=>True) (isP ws kInclude) (incP ws) inc_any HSTb.out.pc trivial hB1.out (g+1) 5 (.slice iA a.length ic) a HLTb.out hgs (by have:=HBG.out;omega) HLA.out (by decide) l' s2' h12.out).mono ?_;rintro e w9 ⟨v9,rfl,hl9,hp9,hf9⟩
   obtain ⟨vA,vc,vx,rfl,-,-,-,-,-⟩:=hl9.sl strA_size
   have hown:∀ k,(Value.slice iA a.length ic).ownBlock=some k→g+1≤k:=fun k e=>(HLTb.out.own_lt k e).1
   have hs9:St b c A ws g 27 w s2' #[.slice iA a.length ic,.slice sA bb.length sc,.slice none 0 0] w9:=⟨hp9,hf9.blk HSTb.out.bl (by have:=HBG.out;omega) (fun e=>by have:=hown g e;omega),hf9.toOth HSTb.out.ot hown HWG.out,HBG.out,HSTb.out.hg⟩
   have HLo9:Hid (LS w9 (Fm (g+1)) (.slice sA bb.length sc) bb):=RepL.keepEq HLSb.out fun k e=>hf9.block k (HLSb.out.own_lt k e).2 (by have h:=(HLSb.out.own_lt k e).1;have h':g+1≤k:=h;have:=HBG.out;omega) (RepL.ne HLSb.out HLTb.out (by decide) k e)
   have f0:=hs9.fr 0
   clear c0
   have c0:w9.cell? ⟨g,0,none⟩=some (.slice iA a.length ic):=hs9.ce 0
   have HST9:Hid (St b c A ws g 27 w s2' #[.slice vA l'.length vc,.slice sA bb.length sc,.slice none 0 0] (w9.setCell ⟨g,0,none⟩ (.slice vA l'.length vc))):=hs9.put 0 _ rfl
   have HL9:=Lib.hid hl9
   clear hs9 hl9 hp9 hf9 hown hgs
   go_wp2_with fail
   go_roundw
   case rel =>
    have hW9:=Oth.set w9 g 0 (.slice vA l'.length vc)
    exact ⟨n,l',bb,s2',vA,vc,sA,sc,HST9.out,LT.lasts (Mv.oth hW9 (Nat.le_refl _) (Nat.lt_succ_self _)) HL9.out,LS.lasts (Mv.oth hW9 (Nat.le_refl _) (Nat.lt_succ_self _)) HLo9.out,HHH.out,HF2.out,HLN.out,HLB.out⟩
   case measure =>
    rw [HST9.out.pc.left,HLEFT.out]
    exact HA.out
end
end Go.Proofs.YtbblfkdmkpkmcaaGreatDoor
namespace Go.Proofs.YtbblfkdmkpkmcaaGreatDoor
open Go.RowKit
set_option maxRecDepth 100000 in
set_option maxHeartbeats 800000 in
theorem cutSign_any (s:ByteArray) (l:List UInt8) (w:World) (hl:Tx s l) (hs:(l.length:Int)≤10000) :
  Calls Tryz.prog 225 #[.string s] w fun e w'=>∃ t:ByteArray,e = .returned (.tuple #[.bool (signS l).1,.string t])∧Hid (Tx t (signS l).2)∧Below w.heap.size w w':=by
 cases l with
 | nil =>
  have e1:=hl.nil.1
  have HL:=Lib.hid hl
  clear hl
  go_enter Tryz.func225,Tryz.ntmps225
  go_wp2_with fail
  go_ret2
  exact ⟨s,rfl,HL,Below.refl _ _⟩
 | cons c l =>
  obtain ⟨hp,t,e0,e1,ht,e2,e3⟩:=hl.cons
  have HT:=Lib.hid ht
  have HL:=Lib.hid hl
  clear ht hl
  by_cases c43:c.toNat=43
  ·have b1:((c.toNat:Int) == 43)=true:=by rw [beq_iff_eq];omega
   have b2:((c.toNat:Int) == 45)=false:=by rw [beq_eq_false_iff_ne];omega
   have HC:Hid (signS (c :: l)=(false,l)):=by unfold Hid;simp [signS,c43]
   clear c43
   go_enter Tryz.func225,Tryz.ntmps225
   go_wp2_with fail
   go_quiet (fail)
   go_wp2_with fail
   go_ret2
   rw [HC.out]
   exact ⟨t,rfl,HT,⟨rfl,rfl,rfl,Nat.le_refl _,fun _ _=>rfl⟩⟩
  ·have b1:((c.toNat:Int) == 43)=false:=by rw [beq_eq_false_iff_ne];omega
   by_cases c45:c.toNat=45
   ·have b2:((c.toNat:Int) == 45)=true:=by rw [beq_iff_eq];omega
    have HC:Hid (signS (c :: l)=(true,l)):=by unfold Hid;simp [signS,c45]
    clear c43 c45
    go_enter Tryz.func225,Tryz.ntmps225
    go_wp2_with fail
    go_quiet (fail)
    go_wp2_with fail
    go_ret2
    rw [HC.out]
    exact ⟨t,rfl,HT,⟨rfl,rfl,rfl,Nat.le_refl _,fun _ _=>rfl⟩⟩
   ·have b2:((c.toNat:Int) == 45)=false:=by rw [beq_eq_false_iff_ne];omega
    have HC:Hid (signS (c :: l)=(false,c :: l)):=by unfold Hid;simp [signS,c43,c45]
    clear c43 c45
    go_enter Tryz.func225,Tryz.ntmps225
    go_wp2_with fail
    go_ret2
    rw [HC.out]
    exact ⟨s,rfl,HL,Below.refl _ _⟩
def spanD:List UInt8→List UInt8×List UInt8
 | []=>([],[])
 | c :: s=>if isDig c then (c :: (spanD s).1,(spanD s).2) else ([],c :: s)
theorem spanD_app (l:List UInt8):l=(spanD l).1++(spanD l).2:=by
 induction l with
 | nil=>rfl
 | cons c l ih =>
   unfold spanD;split
   ·simp only [List.cons_append];rw [← ih]
   ·rfl
theorem spanD_is (a b:List UInt8) (ha:∀ c ∈ a,isDig c=true) (hb:b=[]∨∃ c t,b=c :: t∧isDig c=false):spanD (a++b)=(a,b):=by
 induction a with
 | nil =>
  rcases hb with rfl | ⟨c,t,rfl,hc⟩
  ·rfl
  ·simp [spanD,hc]
 | cons c a ih =>
  rw [List.cons_append,spanD,if_pos (ha c (List.mem_cons_self ..)),ih (fun d hd=>ha d (List.mem_cons_of_mem _ hd))]
theorem isDig_iff (c:UInt8):isDig c=true↔48≤c.toNat∧c.toNat≤57:=by unfold isDig;simp
set_option maxRecDepth 100000 in
set_option maxHeartbeats 800000 in
theorem cutDigits_any (s:ByteArray) (l:List UInt8) (w:World) (hl:Tx s l) (hs:(l.length:Int)≤10000) :
  Calls Tryz.prog 226 #[.string s] w fun e w'=>∃ t u:ByteArray,e = .returned (.tuple #[.string t,.string u])∧Hid (Tx t (spanD l).1)∧Hid (Tx u (spanD l).2)∧Below w.heap.size w w':=by
 have HL:=Lib.hid hl
 have hz:(s.size:Int)≤10000:=by rw [hl.size];exact hs
 clear hl
 go_enter Tryz.func226,Tryz.ntmps226
 go_wp2_with fail
 go_loopw [4] (fun v wr=>∃ (n:Nat),v = .int .i64 n∧n≤l.length∧Hid (∀ c ∈ l.take n,isDig c=true)∧Below w.heap.size w wr) (fun v _=>(10000 - intOf v).toNat)
 case atStart=>exact ⟨0,rfl,Nat.zero_le _,by unfold Hid;simp,Below.refl _ _⟩
 case round =>
  obtain ⟨n,rfl,hn,HA,hb⟩:=hrel
  obtain ⟨t,e1,ht⟩:∃ t,s.extract 0 n=t∧Hid (Tx t (l.take n)):=⟨_,rfl,by unfold Hid Tx;rw [Lib.extract_data,show s.data.toList=l from HL.out];simp⟩
  obtain ⟨u,e2,hu⟩:∃ u,s.extract n s.size=u∧Hid (Tx u (l.drop n)):=⟨_,rfl,by unfold Hid Tx;rw [Lib.extract_data,show s.data.toList=l from HL.out,HL.out.size,List.take_of_length_le (by simp)]⟩
  have hfin:(l.drop n=[]∨∃ c v,l.drop n=c :: v∧isDig c=false)→spanD l=(l.take n,l.drop n):=fun h=>by
   have:=spanD_is (l.take n) (l.drop n) HA.out h
   rwa [List.take_append_drop] at this
  have HFIN:=Lib.hid hfin
  clear hfin
  by_cases hlt:n<l.length
  ·obtain ⟨hp,e0⟩:=HL.out.idx n hlt
   obtain ⟨c,hc⟩:∃ c,l[n]=c:=⟨_,rfl⟩
   rw [hc] at e0
   have g1:decide ((n:Int)<(s.size:Int))=true:=decide_eq_true (by omega)
   have hdr:l.drop n=c :: l.drop (n+1):=by rw [← hc];exact List.drop_eq_getElem_cons hlt
   have HDR:=Lib.hid hdr
   have htk:l.take (n+1)=l.take n++[c]:=by rw [← hc];exact (List.take_append_getElem hlt).symm
   have HTK:=Lib.hid htk
   clear hdr htk hc
   by_cases h48:48≤c.toNat
   ·have g2:decide ((48:Int)≤(c.toNat:Int))=true:=decide_eq_true (by omega)
    by_cases h57:c.toNat≤57
    ·have g3:decide ((c.toNat:Int)≤(57:Int))=true:=decide_eq_true (by omega)
     have HD:Hid (isDig c=true):=(isDig_iff c).2 ⟨h48,h57⟩
     clear h48 h57
     go_wp2_with fail
     go_roundw
     case rel =>
      refine ⟨n+1,by go_num,hlt,?_,hb⟩
      unfold Hid
      intro d hd
      rw [HTK.out] at hd
      rcases List.mem_append.1 hd with h | h
      ·exact HA.out d h
      ·rw [List.mem_singleton.1 h];exact HD.out
     case measure=>simp [intOf];omega
    ·have g3:decide ((c.toNat:Int)≤(57:Int))=false:=decide_eq_false (by omega)
     have HD:Hid (isDig c=false):=by unfold Hid;rw [← Bool.not_eq_true,isDig_iff];omega
     clear h48 h57
     go_wp2_with fail
     go_quiet (fail)
     go_wp2_with fail
     go_ret2
     have hf:=HFIN.out (.inr ⟨c,_,HDR.out,HD.out⟩)
     rw [hf]
     exact ⟨t,u,rfl,ht,hu,⟨hb.os,hb.tape,hb.output,hb.size,hb.block⟩⟩
   ·have g2:decide ((48:Int)≤(c.toNat:Int))=false:=decide_eq_false (by omega)
    have HD:Hid (isDig c=false):=by unfold Hid;rw [← Bool.not_eq_true,isDig_iff];omega
    clear h48
    go_wp2_with fail
    go_quiet (fail)
    go_wp2_with fail
    go_ret2
    have hf:=HFIN.out (.inr ⟨c,_,HDR.out,HD.out⟩)
    rw [hf]
    exact ⟨t,u,rfl,ht,hu,⟨hb.os,hb.tape,hb.output,hb.size,hb.block⟩⟩
  ·have g1:¬ n<s.size:=by rw [HL.out.size];omega
   have HDR:Hid (l.drop n=[]):=by unfold Hid;rw [List.drop_eq_nil_iff];omega
   have hle:n≤s.size:=by rw [HL.out.size];omega
   go_wp2_with fail
   go_quiet (fail)
   go_wp2_with fail
   go_ret2
   have hf:=HFIN.out (.inl HDR.out)
   rw [hf]
   exact ⟨t,u,rfl,ht,hu,⟨hb.os,hb.tape,hb.output,hb.size,hb.block⟩⟩
end Go.Proofs.YtbblfkdmkpkmcaaGreatDoor
namespace Go.Proofs.YtbblfkdmkpkmcaaGreatDoor
open Go.RowKit
set_option maxRecDepth 100000 in
set_option maxHeartbeats 800000 in
theorem isWhite_any (c:UInt8) (w:World) :
  Calls Tryz.prog 178 #[.int .u8 (c.toNat:Int)] w fun e w'=>e = .returned (.bool (isWhS c))∧w'=w:=by
 go_enter Tryz.func178,Tryz.ntmps178
 go_wp2_with fail
 all_goals
  go_ret
  refine ⟨congrArg (fun b=>Ending.returned (Value.bool b)) ?_,rfl⟩
  rw [Bool.eq_iff_iff]
  simp [isWhS]
  omega
set_option maxRecDepth 100000 in
set_option maxHeartbeats 800000 in
theorem isLetter_any (c:UInt8) (w:World) :
  Calls Tryz.prog 134 #[.int .u8 (c.toNat:Int)] w fun e w'=>e = .returned (.bool (isLetS c))∧w'=w:=by
 go_enter Tryz.func134,Tryz.ntmps134
 go_wp2_with fail
 all_goals
  go_ret
  refine ⟨congrArg (fun b=>Ending.returned (Value.bool b)) ?_,rfl⟩
  rw [Bool.eq_iff_iff]
  simp [isLetS]
  omega
set_option maxRecDepth 100000 in
set_option maxHeartbeats 800000 in
theorem isDigit_any (c:UInt8) (w:World) :
  Calls Tryz.prog 136 #[.int .u8 (c.toNat:Int)] w fun e w'=>e = .returned (.bool (isDig c))∧w'=w:=by
 go_enter Tryz.func136,Tryz.ntmps136
 go_wp2_with fail
 all_goals
  go_ret
  refine ⟨congrArg (fun b=>Ending.returned (Value.bool b)) ?_,rfl⟩
  rw [Bool.eq_iff_iff]
  simp [isDig]
  omega
set_option maxRecDepth 100000 in
set_option maxHeartbeats 1600000 in
theorem isOfName_any (c:UInt8) (w:World) :
  Calls Tryz.prog 141 #[.int .u8 (c.toNat:Int)] w fun e w'=>e = .returned (.bool (isNmS c))∧w'=w:=by
 go_enter Tryz.func141,Tryz.ntmps141
 go_wp2_with fail
 refine (isLetter_any c w).mono ?_;rintro e w' ⟨rfl,rfl⟩
 obtain ⟨L,HL⟩:∃ L,Hid (isLetS c=L):=⟨_,rfl⟩
 rw [HL.out]
 cases L
 ·go_wp2_with fail
  refine (isDigit_any c _).mono ?_;rintro e w' ⟨rfl,rfl⟩
  obtain ⟨D,HD⟩:∃ D,Hid (isDig c=D):=⟨_,rfl⟩
  rw [HD.out]
  cases D
  ·go_wp2_with fail
   all_goals
    go_ret
    refine ⟨congrArg (fun b=>Ending.returned (Value.bool b)) ?_,rfl⟩
    rw [Bool.eq_iff_iff]
    simp [isNmS,HL.out,HD.out]
    omega
  ·go_wp2_with fail
   go_ret
   refine ⟨congrArg (fun b=>Ending.returned (Value.bool b)) ?_,rfl⟩
   simp [isNmS,HL.out,HD.out]
 ·go_wp2_with fail
  go_ret
  refine ⟨congrArg (fun b=>Ending.returned (Value.bool b)) ?_,rfl⟩
  simp [isNmS,HL.out]
set_option maxRecDepth 100000 in
set_option maxHeartbeats 1600000 in
theorem isHexDigit_any (c:UInt8) (w:World) :
  Calls Tryz.prog 206 #[.int .u8 (c.toNat:Int)] w fun e w'=>e = .returned (.bool (isHexS c))∧w'=w:=by
 go_enter Tryz.func206,Tryz.ntmps206
 go_wp2_with fail
 refine (isDigit_any c w).mono ?_;rintro e w' ⟨rfl,rfl⟩
 obtain ⟨D,HD⟩:∃ D,Hid (isDig c=D):=⟨_,rfl⟩
 rw [HD.out]
 cases D
 ·go_wp2_with fail
  all_goals
   go_ret
   refine ⟨congrArg (fun b=>Ending.returned (Value.bool b)) ?_,rfl⟩
   rw [Bool.eq_iff_iff]
   simp [isHexS,HD.out]
   omega
 ·go_wp2_with fail
  go_ret
  refine ⟨congrArg (fun b=>Ending.returned (Value.bool b)) ?_,rfl⟩
  simp [isHexS,HD.out]
structure Such (F:Nat) (p:UInt8→Bool):Prop where
 enter:∀ args w,(callFunc F args).run Tryz.prog w = .ok (.enter F args) w
 calls:∀ (c:UInt8) (w:World),Calls Tryz.prog F #[.int .u8 (c.toNat:Int)] w fun e w'=>e = .returned (.bool (p c))∧w'=w
set_option maxRecDepth 100000 in
set_option maxHeartbeats 1600000 in
theorem span_any (F:Nat) (p:UInt8→Bool) (hF:Such F p) (s:ByteArray) (l:List UInt8) (w:World) (hl:Tx s l) (hs:(l.length:Int)≤140737488355328) :
  Calls Tryz.prog 177 #[.string s,.func (.func F) #[] #[]] w fun e w'=>e = .returned (.int .i64 (spanN p l:Nat))∧w'=w:=by
 have HL:=Lib.hid hl
 have hz:(s.size:Int)≤140737488355328:=by rw [hl.size];exact hs
 have hz2:s.size=l.length:=hl.size
 have eF:=hF.enter
 clear hl
 go_enter Tryz.func177,Tryz.ntmps177
 go_wp2_with fail
 go_loopw [5] (fun v wr=>∃ (n:Nat),v = .int .i64 n∧n≤l.length∧Hid (∀ c ∈ l.take n,p c=true)∧wr=w) (fun v _=>(140737488355328 - intOf v).toNat)
 case atStart=>exact ⟨0,rfl,Nat.zero_le _,by unfold Hid;simp,rfl⟩
 case round =>
  obtain ⟨n,rfl,hn,HA,rfl⟩:=hrel
  by_cases hlt:n<l.length
  ·obtain ⟨hp,e0⟩:=HL.out.idx n hlt
   obtain ⟨c,hc⟩:∃ c,l[n]=c:=⟨_,rfl⟩
   rw [hc] at e0
   have g1:decide ((n:Int)<(s.size:Int))=true:=decide_eq_true (by omega)
   have HTK:Hid (l.take (n+1)=l.take n++[c]):=by unfold Hid;rw [← hc];exact (List.take_append_getElem hlt).symm
   have HDR:Hid (l.drop n=c :: l.drop (n+1)):=by unfold Hid;rw [← hc];exact List.drop_eq_getElem_cons hlt
   obtain ⟨P,HP⟩:∃ P,Hid (p c=P):=⟨_,rfl⟩
   clear hc
   go_wp2_with fail
   refine (hF.calls c _).mono ?_;rintro e w' ⟨rfl,rfl⟩
   rw [HP.out]
   cases P
   ·go_wp2_with fail
    go_ret
    rw [spanN_is p l n (by omega) HA.out (.inr ⟨c,_,HDR.out,HP.out⟩)]
    exact ⟨rfl,rfl⟩
   ·go_wp2_with fail
    go_roundw
    case rel =>
     refine ⟨n+1,by go_num,hlt,?_,by first | rfl | trivial⟩
     unfold Hid
     intro d hd
     rw [HTK.out] at hd
     rcases List.mem_append.1 hd with h | h
     ·exact HA.out d h
     ·rw [List.mem_singleton.1 h];exact HP.out
    case measure=>simp [intOf];omega
  ·have g1:decide ((n:Int)<(s.size:Int))=false:=decide_eq_false (by omega)
   have HDR:Hid (l.drop n=[]):=by unfold Hid;rw [List.drop_eq_nil_iff];omega
   go_wp2_with fail
   go_ret
   rw [spanN_is p l n (by omega) HA.out (.inl HDR.out)]
   exact ⟨rfl,rfl⟩
theorem such_white:Such 178 isWhS:=⟨enters_of Tryz.func178 (by kernel_rfl) rfl,isWhite_any⟩
theorem such_digit:Such 136 isDig:=⟨enters_of Tryz.func136 (by kernel_rfl) rfl,isDigit_any⟩
theorem such_name:Such 141 isNmS:=⟨enters_of Tryz.func141 (by kernel_rfl) rfl,isOfName_any⟩
theorem such_hex:Such 206 isHexS:=⟨enters_of Tryz.func206 (by kernel_rfl) rfl,isHexDigit_any⟩
end Go.Proofs.YtbblfkdmkpkmcaaGreatDoor
namespace Go.Proofs.YtbblfkdmkpkmcaaGreatDoor
open Go.RowKit
theorem index_other (l:List UInt8) (q:UInt8):Lib.indexByte l q=if spanN (fun c=>decide (c≠q)) l<l.length then ((spanN (fun c=>decide (c≠q)) l:Nat):Int) else -1:=by
 induction l with
 | nil=>rfl
 | cons c l ih =>
  unfold Lib.indexByte spanN
  by_cases h:c=q
  ·subst h;simp
  ·have h1:(c == q)=false:=by simpa using h
   have h2:decide (c≠q)=true:=by simpa using h
   rw [h1,if_pos h2,ih]
   generalize spanN (fun c=>decide (c≠q)) l=N
   simp only [List.length_cons,Bool.false_eq_true,if_false]
   by_cases hl:N<l.length
   ·have:(((N:Nat):Int) == -1)=false:=by rw [beq_eq_false_iff_ne];omega
    rw [if_pos hl,this,if_pos (show N+1<l.length+1 by omega)]
    simp
   ·rw [if_neg hl,if_neg (show ¬ N+1<l.length+1 by omega)]
    rfl
theorem index_note (l:List UInt8):Lib.index l [42,47]=match noteN l with
  | none=>-1
  | some n=>(n:Int):=by
 induction l with
 | nil=>rfl
 | cons c l ih =>
  unfold Lib.index noteN
  have hp:List.isPrefixOf [42,47] (c :: l)=decide (c=42∧l.head? = some 47):=by
   rw [Bool.eq_iff_iff]
   cases l with
   | nil=>simp [List.isPrefixOf]
   | cons d l=>simp [List.isPrefixOf];exact ⟨fun h=>⟨h.1.symm,h.2.symm⟩,fun h=>⟨h.1.symm,h.2.symm⟩⟩
  rw [hp,ih]
  by_cases h:c=42∧l.head? = some 47
  ·simp [h]
  ·rw [if_neg (by simpa using h),if_neg h]
   cases noteN l with
   | none=>rfl
   | some n =>
    have:(((n:Nat):Int) == -1)=false:=by rw [beq_eq_false_iff_ne];omega
    dsimp only [Option.map]
    rw [this]
    simp
theorem pre35 (l:List UInt8):Lib.hasPrefix l [35]=decide (l.head? = some 35):=by
 unfold Lib.hasPrefix
 rw [Bool.eq_iff_iff]
 cases l with
 | nil=>simp [List.isPrefixOf]
 | cons c l=>simp [List.isPrefixOf];exact ⟨Eq.symm,Eq.symm⟩
theorem pre47 (l:List UInt8) (q:UInt8):Lib.hasPrefix l [47,q]=decide (l.head? = some 47∧(l.drop 1).head? = some q):=by
 unfold Lib.hasPrefix
 rw [Bool.eq_iff_iff]
 cases l with
 | nil=>simp [List.isPrefixOf]
 | cons c l=>cases l with
  | nil=>simp [List.isPrefixOf]
  | cons d l=>simp [List.isPrefixOf];exact ⟨fun h=>⟨h.1.symm,h.2.symm⟩,fun h=>⟨h.1.symm,h.2.symm⟩⟩
theorem gap_is (l:List UInt8):gapS l=if (Lib.hasPrefix l [35] || Lib.hasPrefix l [47,47]) then (lineN l,true)
  else if Lib.hasPrefix l [47,42] then (match noteN (l.drop 2) with | none=>(0,false) | some n=>(n+4,true)) else (spanN isWhS l,true):=by
 rw [pre35,pre47,pre47]
 cases l with
 | nil=>rfl
 | cons c r =>
  unfold gapS
  simp
  split
  ·rfl
  ·split
   ·cases noteN r.tail <;> rfl
   ·rfl
set_option maxRecDepth 100000 in
set_option maxHeartbeats 800000 in
theorem lineLength_any (s:ByteArray) (l:List UInt8) (w:World) (hl:Tx s l) (hs:(l.length:Int)≤100000) :
  Calls Tryz.prog 176 #[.string s] w fun e w'=>e = .returned (.int .i64 (lineN l:Nat))∧w'=w:=by
 have HL:=Lib.hid hl
 have hz:s.size=l.length:=hl.size
 have HI:Hid (Lib.indexByte s.data.toList (10:Int).toNat.toUInt8=if lineN l<l.length then ((lineN l:Nat):Int) else -1):=by
  unfold Hid;rw [show s.data.toList=l from hl];exact index_other l 10
 obtain ⟨N,hN⟩:∃ N,lineN l=N:=⟨_,rfl⟩
 have hle:N≤l.length:=by rw [← hN];exact spanN_le _ _
 rw [hN] at HI ⊢
 clear hl hN
 go_enter Tryz.func176,Tryz.ntmps176
 go_wp2_with fail
 refine (Tryz.strings_IndexByte s 10 w).mono ?_;rintro e w' ⟨rfl,rfl⟩
 rw [HI.out]
 by_cases hlt:N<l.length
 ·rw [if_pos hlt]
  go_wp2_with fail
  go_ret
  exact ⟨rfl,rfl⟩
 ·rw [if_neg hlt]
  have hE:(s.size:Int)=(N:Int):=by omega
  go_wp2_with fail
  go_ret
  exact ⟨congrArg (fun z=>Ending.returned (Value.int .i64 z)) (by omega),rfl⟩
set_option maxRecDepth 100000 in
set_option maxHeartbeats 800000 in
theorem gap_any (s:ByteArray) (l:List UInt8) (w:World) (hl:Tx s l) (hs:(l.length:Int)≤100000) (hm:MaxC w) :
  Calls Tryz.prog 133 #[.string s] w fun e w'=>e = .returned (.tuple #[.int .i64 ((gapS l).1:Nat),.bool (gapS l).2])∧w'=w:=by
 have HL:=Lib.hid hl
 have HZ:=Lib.hid hl.size
 have hz:(s.size:Int)≤100000:=by rw [hl.size];exact hs
 have HD:Hid (s.data.toList=l):=hl
 have HG:=Lib.hid (gap_is l)
 have HM:=Lib.hid hm
 obtain ⟨b1,hb1⟩:∃ b,Lib.hasPrefix l [35]=b:=⟨_,rfl⟩
 obtain ⟨b2,hb2⟩:∃ b,Lib.hasPrefix l [47,47]=b:=⟨_,rfl⟩
 obtain ⟨b3,hb3⟩:∃ b,Lib.hasPrefix l [47,42]=b:=⟨_,rfl⟩
 rw [hb1,hb2,hb3] at HG
 have h2:b3=true→(2:Int)≤s.size:=by
  intro h
  rw [h] at hb3
  rw [pre47] at hb3
  have:=of_decide_eq_true hb3
  cases l with
  | nil=>simp at this
  | cons c l=>cases l with
   | nil=>simp at this
   | cons d l=>rw [HZ.out];simp;omega
 have H1:=Lib.hid hb1
 have H2:=Lib.hid hb2
 have H3:=Lib.hid hb3
 clear hl hm hb1 hb2 hb3
 go_enter Tryz.func133,Tryz.ntmps133
 go_wp2_with fail
 refine (Tryz.strings_HasPrefix s ⟨#[35]⟩ w).mono ?_;rintro e w' ⟨rfl,rfl⟩
 rw [HD.out,show (ByteArray.mk #[35]).data.toList=[35] from rfl,H1.out]
 have hg:=HG.out
 cases b1
 ·go_wp2_with fail
  refine (Tryz.strings_HasPrefix s ⟨#[47,47]⟩ w').mono ?_;rintro e w' ⟨rfl,rfl⟩
  rw [HD.out,show (ByteArray.mk #[47,47]).data.toList=[47,47] from rfl,H2.out]
  cases b2
  ·go_wp2_with fail
   refine (Tryz.strings_HasPrefix s ⟨#[47,42]⟩ w').mono ?_;rintro e w' ⟨rfl,rfl⟩
   rw [HD.out,show (ByteArray.mk #[47,42]).data.toList=[47,42] from rfl,H3.out]
   rw [if_neg (by decide)] at hg
   cases b3
   ·rw [if_neg (by decide)] at hg
    have HG2:=Lib.hid hg
    clear hg HG h2
    go_wp2_with fail
    refine (span_any _ isWhS such_white s l _ HL.out (by omega)).mono ?_;rintro e w' ⟨rfl,rfl⟩
    obtain ⟨N,HN⟩:∃ N,Hid (spanN isWhS l=N):=⟨_,rfl⟩
    rw [HN.out]
    go_wp2_with fail
    go_ret2
    rw [HG2.out,HN.out]
    exact ⟨rfl,rfl⟩
   ·rw [if_pos rfl] at hg
    have h2':=h2 rfl
    have HG2:=Lib.hid hg
    obtain ⟨u,hu,HU⟩:=HL.out.from_ 2
    clear hg HG h2
    go_wp2_with fail
    obtain ⟨m,hmm⟩:=HM.out
    refine (Tryz.strings_Index u ⟨#[42,47]⟩ m _ (by rw [HU.out.size];simp;omega) hmm).mono ?_;rintro e w' ⟨rfl,rfl⟩
    have hI:=index_note (l.drop 2)
    rw [show u.data.toList=l.drop 2 from HU.out,show (ByteArray.mk #[42,47]).data.toList=[42,47] from rfl,hI]
    clear hI
    cases hn:noteN (l.drop 2) with
    | none =>
     rw [hn] at HG2
     dsimp only
     go_wp2_with fail
     go_ret2
     rw [HG2.out]
     exact ⟨rfl,rfl⟩
    | some n =>
     rw [hn] at HG2
     have hnl:(n:Int)≤100000:=by
      have:=noteN_lt _ _ hn
      simp at this;omega
     have HN:=Lib.hid hn
     clear hn
     dsimp only
     go_wp2_with fail
     go_ret2
     rw [HG2.out]
     exact ⟨rfl,rfl⟩
  ·rw [if_pos (by decide)] at hg
   have HG2:=Lib.hid hg
   clear hg HG h2
   go_wp2_with fail
   refine (lineLength_any s l _ HL.out hs).mono ?_;rintro e w' ⟨rfl,rfl⟩
   obtain ⟨N,HN⟩:∃ N,Hid (lineN l=N):=⟨_,rfl⟩
   rw [HN.out]
   go_wp2_with fail
   go_ret2
   rw [HG2.out,HN.out]
   exact ⟨rfl,rfl⟩
 ·rw [if_pos (by simp)] at hg
  have HG2:=Lib.hid hg
  clear hg HG h2
  go_wp2_with fail
  refine (lineLength_any s l _ HL.out hs).mono ?_;rintro e w' ⟨rfl,rfl⟩
  obtain ⟨N,HN⟩:∃ N,Hid (lineN l=N):=⟨_,rfl⟩
  rw [HN.out]
  go_wp2_with fail
  go_ret2
  rw [HG2.out,HN.out]
  exact ⟨rfl,rfl⟩
end Go.Proofs.YtbblfkdmkpkmcaaGreatDoor
