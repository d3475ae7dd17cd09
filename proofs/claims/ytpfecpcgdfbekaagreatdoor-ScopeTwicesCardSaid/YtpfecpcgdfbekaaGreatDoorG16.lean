/- The contract of the document's parser of constants that hold others. -/
import Derived.Test.YtpfecpcgdfbekaaGreatDoorG14
import Derived.Test.YtpfecpcgdfbekaaGreatDoorG15
import Derived.Deep.DeepCutAuto
import Derived.Deep.CutBlock
set_option linter.unusedVariables false
set_option linter.unusedSimpArgs false
set_option linter.unnecessarySimpa false
namespace Go.Proofs.YtpfecpcgdfbekaaGreatDoor
open Go.RowKit
structure IS (b c:Nat) (A:Option Addr) (ws:List TokV) (w0:World) (g4 g5:Nat) (kd:Int) (r:Nat) (s:PSt) (vb vl:Value) (L:List Con) (w:World):Prop where
 pb:PB w b A c ws s
 rs:Blk w g4 g4 #[.int .i64 0,.int .i64 0,.int .u64 0,.string ⟨#[]⟩,.slice none 0 0] 51
 bl:Blk w g5 g5 #[.int .i64 kd,.int .i64 0,.int .u64 0,.string ⟨#[]⟩,vb] 51
 ls:LC (r+1) w (Fm (g5+1)) vl L
 ot:Oth b w0 w
 h1:b<g4
 h2:g4<g5
 h3:w0.heap.size≤g4
section
variable {b c g4 g5 r:Nat} {A:Option Addr} {ws:List TokV} {w0 w w':World} {kd:Int} {s s':PSt} {vb vl v':Value} {L L':List Con}
theorem IS.step (h:IS b c A ws w0 g4 g5 kd r s vb vl L w) (hp:PB w' b A c ws s') (ho:Oth b w w'):IS b c A ws w0 g4 g5 kd r s' vb vl L w' :=
 ⟨hp,ho.blk h.rs (by have:=h.h1;omega),ho.blk h.bl (by have:=h.h1;have:=h.h2;omega),h.ls.oth (RC.lasts _) ho (by have:=h.h1;have:=h.h2;omega),h.ot.trans ho,h.h1,h.h2,h.h3⟩
theorem IS.nx (h:IS b c A ws w0 g4 g5 kd r s vb vl L w) (hn:Nx w w'):IS b c A ws w0 g4 g5 kd r s vb vl L w':=h.step (h.pb.nx hn) (Oth.nx hn)
theorem IS.app (h:IS b c A ws w0 g4 g5 kd r s vb vl L w) (hl:LC (r+1) w' (Fm (g5+1)) v' L') (hf:Fr b vl w v' w') (hk:∀ k,k<w.heap.size→vl.ownBlock≠some k→w'.heap[k]? = w.heap[k]?):IS b c A ws w0 g4 g5 kd r s vb v' L' w':=by
 have hv:∀ g,vl.ownBlock=some g→g5+1≤g:=fun g e=>(RepL.own_lt h.ls g e).1
 have h1:=h.h1
 have h2:=h.h2
 have h3:=h.h3
 refine ⟨h.pb.fr hf hv (by omega) hk,⟨h.rs.1,(hk g4 h.rs.lt (fun e=>by have:=hv _ e;omega)).trans h.rs.2⟩,⟨h.bl.1,(hk g5 h.bl.lt (fun e=>by have:=hv _ e;omega)).trans h.bl.2⟩,hl,?_,h1,h2,h3⟩
 exact hf.toOth h.ot hv (by omega)
theorem IS.put (h:IS b c A ws w0 g4 g5 kd r s vb vl L w):IS b c A ws w0 g4 g5 kd r s vl vl L (w.setCell ⟨g5,4,none⟩ vl):=by
 have h1:=h.h1
 have h2:=h.h2
 have h3:=h.h3
 have hw:=Oth.set w g5 4 vl
 exact ⟨h.pb.apart hw (by omega),h.rs.other (by omega) _ _,h.bl.put 4 vl,h.ls.mv (RC.lasts _) (Mv.oth hw (Nat.le_refl _) (Nat.lt_succ_self _)),h.ot.put (by omega) _ _,h1,h2,h3⟩
theorem IS.eq (h:IS b c A ws w0 g4 g5 kd r s vb vl L w) (e:s=s') (e2:L=L'):IS b c A ws w0 g4 g5 kd r s' vb vl L' w:=e ▸ e2 ▸ h
end
section
variable {ws:List TokV} {s:PSt}
theorem con_deep (hw:WOk ws) (h:(isP ws [91] s || isP ws [123] s)=true):conP ws 0 s=(con0,failP 6 s):=by
 obtain ⟨h1,h5⟩:=con_open hw h
 unfold conP
 rw [h1]
 simp only [Bool.not_true,Bool.false_eq_true,if_false]
 rw [if_neg (by omega)]
theorem con_list (hw:WOk ws) (h:isP ws [91] s=true) (r:Nat):conP ws (r+1) s=(.mk 5 0 0 [] (elemsP ws (atConP ws) 40 (conP ws r) (ws.length+1) [] (nextP s)).1,needP ws [93] (elemsP ws (atConP ws) 40 (conP ws r) (ws.length+1) [] (nextP s)).2):=by
 obtain ⟨h1,h5⟩:=con_open (s:=s) hw (by rw [h];rfl)
 conv=>lhs;unfold conP
 rw [h1]
 simp only [Bool.not_true,Bool.false_eq_true,if_false]
 rw [if_neg (by omega),if_pos h]
theorem con_map (hw:WOk ws) (h:isP ws [123] s=true) (r:Nat):conP ws (r+1) s=(.mk 6 0 0 [] (flatP (elemsP ws (atConP ws) 40 (pairP ws (conP ws r)) (ws.length+1) [] (nextP s)).1),needP ws [125] (elemsP ws (atConP ws) 40 (pairP ws (conP ws r)) (ws.length+1) [] (nextP s)).2):=by
 obtain ⟨h1,h5⟩:=con_open (s:=s) hw (by rw [h,Bool.or_true])
 have h0:isP ws [91] s=false:=by
  rw [is_sign hw 91 (by decide)]
  rw [is_sign hw 123 (by decide)] at h
  simp only [Bool.and_eq_true,decide_eq_true_eq] at h
  rw [h.2];simp
 have hn:needP ws [123] s=nextP s:=by unfold needP;rw [h];rfl
 conv=>lhs;unfold conP
 rw [h1]
 simp only [Bool.not_true,Bool.false_eq_true,if_false]
 rw [if_neg (by omega),h0]
 simp only [Bool.false_eq_true,if_false]
 rw [hn]
theorem con_notclose (hw:WOk ws) (x:UInt8) (hx:ltB x=false) (h:isP ws [x] s=true) (h1:x≠91) (h2:x≠123):atConP ws s=false:=by
 rw [is_sign hw x hx] at h
 simp only [Bool.and_eq_true,decide_eq_true_eq] at h
 unfold atConP
 dsimp only
 rw [h.1,if_neg (by omega),if_neg (by omega),is_sign hw 91 (by decide),is_sign hw 123 (by decide),h.2]
 simp [h1,h2]
theorem flat_snoc (l:List (Con×Con)) (a b:Con):flatP (l++[(a,b)])=flatP l++[a]++[b]:=by
 unfold flatP;simp
theorem pflat_len (l:List (Con×Con)):(flatP l).length=2 * l.length:=by
 induction l with
 | nil=>rfl
 | cons a l ih=>unfold flatP at *;simp [ih];omega
end
section
variable {b c:Nat} {A:Option Addr} {ws:List TokV}
set_option maxRecDepth 100000 in
set_option maxHeartbeats 12800000 in
theorem ditems_step (r:Nat) (hr12:r≤12) (hC:∀ r',r=r'+1→DCoC b c A ws r'):DItC b c A ws r:=by
 intro w s h0 hop D hD y s' hr
 have H:=Lib.hid h0
 have HOP:=Lib.hid hop
 have HOK:Hid (WOk ws):=h0.ok
 have HR:=Lib.hid hr
 obtain ⟨g4,hg4⟩:∃ g,w.heap.size=g:=⟨_,rfl⟩
 have hB4:=Blk.new w #[.int .i64 0,.int .i64 0,.int .u64 0,.string ⟨#[]⟩,.slice none 0 0] 51
 rw [hg4] at hB4
 have hN4:Nx w (w.alloc (.cells #[.int .i64 0,.int .i64 0,.int .u64 0,.string ⟨#[]⟩,.slice none 0 0] 51)):=nx0 _ _
 have HB4:=Lib.hid hB4
 have HN4:=Lib.hid hN4
 have HG4:Hid (w.heap.size≤g4):=Nat.le_of_eq hg4
 have HBG:Hid (b<g4):=by have:=h0.bw;unfold Hid;omega
 have hDI:(D:Int)≤13:=by omega
 clear h0 hr hop hB4 hN4
 cases r with
 | zero =>
  have hx:=HR.out
  rw [con_deep HOK.out HOP.out] at hx
  simp only [Prod.mk.injEq] at hx
  obtain ⟨rfl,rfl⟩:=hx
  obtain rfl:D=13:=by omega
  clear HR hC hD
  go_enter Tryz.func100,Tryz.ntmps100
  go_upto_region 1 with (fail)
  generalize World.alloc w _=w1 at *
  clear hg4
  go_wp2_with fail
  refine (dfail_any (H.out.nx HN4.out) 6 (by decide) (by decide)).mono ?_;rintro e w4 ⟨rfl,hp,ho⟩
  have HP4:=Lib.hid hp
  have HO4:=Lib.hid ((Oth.nx HN4.out).trans ho)
  have HR4:=Lib.hid (ho.blk HB4.out (by have:=HBG.out;omega))
  obtain ⟨r0,r1,r2,r3,r4,f0,f1,f2,f3,f4⟩:=cellsD5 HR4.out
  clear hp ho
  go_wp2_with fail
  refine bodyPost_ret (results_cell_row rfl _ _ g4 _ _ _ _ rfl (HR4.out.put5).2 Tryz.underlying51 rfl (by kernel_rfl)) rfl ?_
  have HW:=(Oth.refl g4 w4).own (i:=0) (v:=.int .i64 0) |>.own (i:=1) (v:=.int .i64 0) |>.own (i:=2) (v:=.int .u64 0) |>.own (i:=3) (v:=.string ⟨#[]⟩) |>.own (i:=4) (v:=.slice none 0 0)
  exact ⟨⟨0,0,0,[],.slice none 0 0⟩,con0,rfl,fun _=>rfl,rc_con0,HP4.out.apart HW HBG.out,HO4.out.put5 HG4.out⟩
 | succ r =>
 have HC2:Hid (DCoC b c A ws r):=hC r rfl
 have b1:decide ((12:Int)<(D:Int))=false:=decide_eq_false (by omega)
 have b1':¬ (12:Int)<(D:Int):=by omega
 have HD1:Hid (D+1+r=13):=by unfold Hid;omega
 have hDI2:(D:Int)≤12:=by omega
 have hwr:IntKind.i64.wrap ((D:Int)+1)=(D:Int)+1:=by rw [IntKind.wrap_i64];omega
 obtain ⟨B4,hB4⟩:∃ B,Hid (isP ws [123] s=B):=⟨_,rfl⟩
 obtain ⟨hE0,hK6⟩:s.e=0∧(nowP ws s).k≠6:=by
  have h:=HOP.out
  rw [Bool.or_eq_true] at h
  rcases h with h | h
  ·exact is_next h
  ·exact is_next h
 have HE0:=Lib.hid hE0
 have HK6:=Lib.hid hK6
 clear hC hD hE0 hK6
 go_enter Tryz.func100,Tryz.ntmps100
 go_upto_region 1 with (fail)
 generalize World.alloc w _=w1 at *
 clear hg4
 obtain ⟨g5,hg5⟩:∃ g,w1.heap.size=g:=⟨_,rfl⟩
 have hB5:=Blk.new w1 #[.int .i64 5,.int .i64 0,.int .u64 0,.string ⟨#[]⟩,.slice none 0 0] 51
 rw [hg5] at hB5
 have h45:g4<g5:=by have:=HB4.out.lt;omega
 have HI1:Hid (IS b c A ws w g4 g5 5 r s (.slice none 0 0) (.slice none 0 0) [] (w1.alloc (.cells #[.int .i64 5,.int .i64 0,.int .u64 0,.string ⟨#[]⟩,.slice none 0 0] 51))) :=
  ⟨(H.out.nx HN4.out).nx (nx0 _ _),HB4.out.alloc _,hB5,RepL.nil_,Oth.nx (HN4.out.trans (nx0 _ _)),HBG.out,h45,HG4.out⟩
 clear hB5 h45
 go_upto_region 5 with (fail)
 generalize World.alloc w1 _=w2 at *
 clear hg5
 cases B4
 ·have HB34:Hid (isP ws [91] s=true):=by have:=HOP.out;rw [hB4.out,Bool.or_false] at this;exact this
  go_wp2_with fail
  refine (dis_any HI1.out.pb _ 123 (Tx.of [123]) (by decide) false hB4.out).mono ?_;rintro e w3 ⟨rfl,hn3⟩
  have HI3:=Lib.hid (HI1.out.nx hn3)
  clear hn3
  go_wp2_with fail
  refine (dnext_any HI3.out.pb HE0.out HK6.out).mono ?_;rintro e w5 ⟨rfl,hp5,ho5⟩
  have HI8:=Lib.hid (HI3.out.step hp5 ho5)
  clear hp5 ho5 HI1 HI3 H HB4 HN4
  obtain ⟨⟨L',S2⟩,hE⟩:∃ a,Hid (elemsP ws (atConP ws) 40 (conP ws r) (ws.length+1) [] (nextP s)=a):=⟨_,rfl⟩
  have hx:=HR.out
  rw [con_list HOK.out HB34.out,hE.out] at hx
  simp only [Prod.mk.injEq] at hx
  obtain ⟨rfl,hS0⟩:=hx
  have hS':Hid (needP ws [93] S2=s'):=hS0
  clear hS0
  have HLP0:Hid (Lp ws (atConP ws) 40 (conP ws r) (needP ws [93]) s' L' [] (nextP s)):=Lp.start (by rw [hE.out];exact hS'.out) (fun _=>by rw [hE.out])
  have HFE:Hid (∀ s:PSt,s.e≠0→needP ws [93] s=s):=fun s h=>er_need h
  have HPE:Hid (∀ s:PSt,atConP ws s=true→s.e=0):=fun s h=>con_e ws h
  have HPR:Hid (Prog ws (atConP ws) (conP ws r)):=prog_con ws r
  clear HR hE hS'
  go_upto_block 0 with (fail)
  go_cut [] (fun wx=>∃ s1 v L,IS b c A ws w g4 g5 5 r s1 v v L wx∧Hid (needP ws [93] s1=s')∧Hid (s'.e=0→L=L'))
  case first =>
   go_wp2_with fail
   go_loopw [7] (fun nv wr=>∃ (n:Nat) (s1:PSt) (v:Value) (acc:List (Con)),nv = .int .i64 (n:Int)∧IS b c A ws w g4 g5 5 r s1 v v (acc) wr∧Hid (Lp ws (atConP ws) 40 (conP ws r) (needP ws [93]) s' L' acc s1)∧acc.length=n∧n≤3000 - leftN s1) (fun _ wr=>leftP b wr)
   case atStart=>exact ⟨0,nextP s,.slice none 0 0,[],rfl,HI8.out,HLP0.out,rfl,Nat.zero_le _⟩
   case round =>
    obtain ⟨n,s1,v,acc,rfl,hI,HLP,hn,hn2⟩:=hrel
    have HI:=Lib.hid hI
    have c2:=hI.pb.c2
    have hleft:=hI.pb.left
    have HLEFT:=Lib.hid hleft
    have hlt:=hI.pb.lt
    have hfew:=hI.pb.fin.few
    have hnI:(n:Int)≤3000:=by omega
    have HNN:=Lib.hid hn
    have HL30:Hid (leftN s1≤3000):=by unfold Hid leftN;split <;> omega
    clear hI hleft hn
    by_cases he:s1.e=0
    ·have b0:((s1.e:Int) == 0)=true:=by rw [he];rfl
     have HE:=Lib.hid he
     obtain ⟨BE,hBE⟩:∃ B,Hid (isP ws [93] s1=B):=⟨_,rfl⟩
     clear he
     go_wp2_with fail
     refine (dis_any HI.out.pb _ 93 (Tx.of [93]) (by decide) BE hBE.out).mono ?_;rintro e w2 ⟨rfl,hn2'⟩
     have HI2:=Lib.hid (HI.out.nx hn2')
     clear hn2' c2
     cases BE
     ·obtain ⟨PC,hPC⟩:∃ B,Hid (atConP ws s1=B):=⟨_,rfl⟩
      obtain ⟨N40,hN40⟩:∃ B,Hid (((n:Int) == 40)=B):=⟨_,rfl⟩
      obtain ⟨QQ,hQQ⟩:∃ B,Hid ((N40 && PC)=B):=⟨_,rfl⟩
      go_upto_region 12 with (fail)
      go_cut [37] (fun v' wx=>∃ w3,w3=wx∧v' = .bool QQ∧IS b c A ws w g4 g5 5 r s1 v v (acc) w3)
      case first =>
       have q40:=hN40.out
       cases N40
       ·obtain rfl:false=QQ:=hQQ.out
        go_wp2_with fail
        go_meet
        case rel=>exact ⟨_,rfl,rfl,HI2.out⟩
       ·obtain rfl:PC=QQ:=hQQ.out
        go_wp2_with fail
        refine (dbegins_any HI2.out.pb HE.out PC hPC.out).mono ?_;rintro e w3 ⟨rfl,hn3⟩
        go_wp2_with fail
        go_meet
        case rel=>exact ⟨_,rfl,rfl,HI2.out.nx hn3⟩
      case rest =>
      obtain ⟨w3,hw3,rfl,hI3⟩:=hcut
      subst hw3
      have HI3:=Lib.hid hI3
      clear hI3
      cases QQ
      ·have HNO:Hid (acc.length=40→atConP ws s1=false):=by
        intro h40
        have h1:=hQQ.out
        rw [← hN40.out,show ((n:Int) == 40)=true by rw [beq_iff_eq];have:=HNN.out;omega] at h1
        rw [hPC.out];exact h1
       have HNP:Hid (atConP ws s1=false→((conP ws r) s1).2=failP 2 s1∧needP ws [93] s1=failP 2 s1):=by
        intro hp
        refine ⟨by rw [con_no hp],?_⟩
        unfold needP;rw [hBE.out];rfl
       clear hQQ hN40 hPC hBE
       go_upto_region 14 with (fail)
       obtain ⟨⟨cy,sy⟩,Hcy⟩:∃ a,Hid (conP ws r s1=a):=⟨_,rfl⟩
       obtain ⟨vA,vc,-,rfl,-,-,-,-,-⟩:=HI3.out.ls.sl conA_size
       have L1:∀ x:EO.GrO b w3,x.1.cell? ⟨g5,4,none⟩=some (.slice vA (acc).length vc):=fun x=>(x.2.blk HI3.out.bl (by have:=HI3.out.h1;have:=HI3.out.h2;omega)).cell 4
       refine EO.wp_region_hyb ⟨[7,9],b⟩ [(0,1),(1,1),(2,1),(3,1),(4,1),(5,0),(6,0),(7,0),(8,2),(9,0)] rfl (by kernel_rfl) ?_
       iterate 5 (refine EO.hyb_calm rfl (fun K hK=>?_);go_simp;refine hK _ ?_;clear hK K)
       clear L1
       refine EO.hyb_alone rfl (fun wa hna K hK=>?_)
       go_simp
       refine (HC2.out wa s1 (HI3.out.pb.nx hna) (D+1) HD1.out cy sy Hcy.out).mono ?_;rintro e wb ⟨⟨xk,xn,xd,xs,xl⟩,y1,rfl,hy,hrc,hp,ho⟩
       obtain ⟨xy,-,xh⟩:=RC.of hrc
       obtain ⟨xA,xc,-,rfl,-,-,-,-,-⟩:=xh.sl conA_size
       clear xh
       have HY1:=Lib.hid hy
       have hIa:=HI3.out.nx hna
       have hIb:=hIa.step hp ho
       have hrb:=fresh_but (RC.lasts _) (B:=g5+1) (v:=.slice vA (acc).length vc) hrc (by have:=hIa.bl.lt;omega) (fun k e=>(RepL.own_lt hIa.ls k e).2)
       rw [show conA ⟨xk,xn,xd,xs,.slice xA xy.length xc⟩=#[.int .i64 (xk:Int),.int .i64 xn,.int .u64 (xd:Int),.string ⟨xs.toArray⟩,.slice xA xy.length xc] from rfl]
       refine hK _ _ (.inr ho) ?_
       clear hK K hy hrc hp ho
       refine EO.hyb_alone rfl (fun wc hnc K hK=>?_)
       go_simp
       refine hK _ _ (.inr (Oth.nx (nx0 _ _))) ?_
       clear hK K
       obtain ⟨g9,hg9⟩:∃ g,wc.heap.size=g:=⟨_,rfl⟩
       have hb9:=Blk.new wc #[.int .i64 (xk:Int),.int .i64 xn,.int .u64 (xd:Int),.string ⟨xs.toArray⟩,.slice xA xy.length xc] 51
       rw [hg9] at hb9 ⊢
       have hnd:Nx wb (wc.alloc (.cells #[.int .i64 (xk:Int),.int .i64 xn,.int .u64 (xd:Int),.string ⟨xs.toArray⟩,.slice xA xy.length xc] 51)):=hnc.trans (nx0 _ _)
       generalize World.alloc wc _=wd at *
       refine EO.hyb_alone rfl (fun we hne K hK=>?_)
       refine EO.ite_intro rfl ?_
       have hIe:=hIb.nx (hnd.trans hne)
       have hre:=RC.lasts _ ((Mv.nx (hnd.trans hne) (Nat.le_refl (g5+1))).but (.slice vA (acc).length vc)) hrb
       refine op_appL we (RC.lasts _) infoC Tryz.underlying49 rfl (by decide) (by decide) conA_size _ _ rfl (g5+1) b (.slice vA (acc).length vc) (acc) ⟨xk,xn,xd,xs,.slice xA xy.length xc⟩ y1 rfl hIe.ls (fun u hu=>by simp [conA,bt] at hu;rcases hu with rfl | rfl | rfl | rfl | rfl <;> rfl) g9 rfl (fun j hj=>(hb9.below hne).cell j) hre (by have:=HNN.out;omega) (by have:=hIe.bl.lt;omega) (by have:=HI3.out.h1;have:=HI3.out.h2;omega) ?_
       intro v' wf hrep' hfr' hkk
       have hIf:=hIe.app hrep' hfr' hkk
       refine hK _ _ (.inl (by simp)) ?_
       clear hK K hrep' hfr' hkk hre hrb hb9
       obtain ⟨vA2,vc2,-,hv2,-,-,-,-,-⟩:=hIf.ls.sl conA_size
       obtain rfl:v' = .slice vA2 ((acc).length+1) vc2:=by rw [hv2,List.length_append];rfl
       clear hv2
       refine EO.hyb_pure rfl (fun K hK=>?_);go_simp;refine hK _ ?_;clear hK K
       refine EO.hyb_alone rfl (fun wg hng K hK=>?_)
       have hIg:=hIf.nx hng
       have c9:wg.cell? ⟨g5,4,none⟩=some (.slice vA (acc).length vc):=hIg.bl.cell 4
       have f9:=hIg.bl.free 4
       go_simp
       refine hK _ _ (.inl (by simp)) ?_
       clear hK K
       refine EO.hyb_nil (fun wh hnh=>?_)
       have HI5:=Lib.hid (hIg.put.nx hnh)
       clear c9 f9 hIg hIf hIe hIb hIa hnd hna hnc hne hng hnh
       clear HI HI2 HI3
       go_wp2_with fail
       refine (dpart_any HI5.out.pb _ rfl).mono ?_;rintro e w6 ⟨rfl,hp6,ho6⟩
       have HI6:=Lib.hid (HI5.out.step hp6 ho6)
       have HADV:Hid (sy.e≠0∨s1.i<sy.i):=by have:=adv_con ws r s1 HE.out;rw [Hcy.out] at this;exact this
       have HLT6:=Lib.hid (left_step hlt hfew HE.out (show (sepP ws sy).e≠0∨s1.i<(sepP ws sy).i from by
        rcases HADV.out with h | h
        ·exact .inl ((mo_sep ws sy).2 h)
        ·exact .inr (Nat.lt_of_lt_of_le h (mo_sep ws sy).1)))
       have HLP6:=Lib.hid (HLP.out.go hlt HPE.out HFE.out HPR.out HNO.out HNP.out Hcy.out y1 HY1.out)
       clear hp6 ho6 HI5
       go_wp2_with fail
       go_roundw
       case rel=>exact ⟨n+1,sepP ws sy,_,acc++[y1],rfl,HI6.out,HLP6.out,by have:=HNN.out;simp;omega,by have:=HLT6.out;have:=HL30.out;omega⟩
       case measure=>rw [HI6.out.pb.left,HLEFT.out];exact HLT6.out
      ·have h1:N40=true∧PC=true:=by have:=hQQ.out;simpa using this
       obtain ⟨rfl,rfl⟩:=h1
       have h40:acc.length=40:=by have:=hN40.out;rw [beq_iff_eq] at this;have:=HNN.out;omega
       have HOV:=Lib.hid (HLP.out.over hlt HPE.out HFE.out h40 hPC.out)
       clear hQQ hN40 h40
       go_wp2_with fail
       refine (dfail_any HI3.out.pb 4 (by decide) (by decide)).mono ?_;rintro e w4 ⟨rfl,hp4,ho4⟩
       have HI4:=Lib.hid (HI3.out.step hp4 ho4)
       clear hp4 ho4
       go_wp2_with fail
       go_meet
       case rel =>
        have h4:(failP 4 s1).e≠0:=fail_ne 4 (by decide) s1
        exact ⟨_,_,_,HI4.out,by unfold Hid;rw [er_need h4];exact HOV.out,fun h=>absurd (HOV.out ▸ h) h4⟩
     ·have hend:=HLP.out.end_ (con_notclose HI.out.pb.ok 93 (by decide) hBE.out (by decide) (by decide))
      have HEND:=Lib.hid hend
      clear hend
      go_wp2_with fail
      go_meet
      case rel=>exact ⟨_,_,_,HI2.out,HEND.out.1,fun h=>by rw [HEND.out.2 h]⟩
    ·have b0:((s1.e:Int) == 0)=false:=by rw [beq_eq_false_iff_ne];omega
     have HEND:=Lib.hid (HLP.out.stop HPE.out he)
     clear he
     go_wp2_with fail
     go_meet
     case rel=>exact ⟨_,_,_,HI.out,HEND.out.1,fun h=>by rw [HEND.out.2 h]⟩
  case rest =>
  obtain ⟨s1,v,L,hI,HN1,HL1⟩:=hcut
  have HI:=Lib.hid hI
  clear hI
  go_wp2_with fail
  refine (dneed_any HI.out.pb _ 93 (Tx.of [93]) (by decide) s' HN1.out).mono ?_;rintro e w4 ⟨rfl,hp4,ho4⟩
  have HI4:=Lib.hid (HI.out.step hp4 ho4)
  obtain ⟨vA,vc,-,rfl,-,-,-,-,-⟩:=HI4.out.ls.sl conA_size
  obtain ⟨r0,r1,r2,r3,r4,f0,f1,f2,f3,f4⟩:=cellsD5 HI4.out.rs
  obtain ⟨d0,d1,d2,d3,d4,-⟩:=cellsD5 HI4.out.bl
  clear hp4 ho4
  go_wp2_with fail
  refine bodyPost_ret (results_cell_row rfl _ _ g4 _ _ _ _ rfl (HI4.out.rs.put5).2 Tryz.underlying51 rfl (by kernel_rfl)) rfl ?_
  have hh1:=HI4.out.h1
  have hh2:=HI4.out.h2
  have hh3:=HI4.out.h3
  have HW:=(Oth.refl g4 w4).own (i:=0) (v:=.int .i64 5) |>.own (i:=1) (v:=.int .i64 0) |>.own (i:=2) (v:=.int .u64 0) |>.own (i:=3) (v:=.string ⟨#[]⟩) |>.own (i:=4) (v:=.slice vA L.length vc)
  exact ⟨⟨5,0,0,[],.slice vA L.length vc⟩,.mk 5 0 0 [] L,rfl,fun h=>by rw [HL1.out h],RC.lasts _ (Mv.oth HW (show w.heap.size≤g5+1 by omega) (show g4<g5+1 by omega)) (RC.mk HI4.out.ls),HI4.out.pb.apart HW hh1,HI4.out.ot.put5 hh3⟩
 ·have HB34:Hid (isP ws [123] s=true):=hB4.out
  go_wp2_with fail
  refine (dis_any HI1.out.pb _ 123 (Tx.of [123]) (by decide) true hB4.out).mono ?_;rintro e w3 ⟨rfl,hn3⟩
  have hI3:=HI1.out.nx hn3
  have c0:w3.cell? ⟨g5,0,none⟩=some (.int .i64 5):=hI3.bl.cell 0
  have f0:=hI3.bl.free 0
  have HI4:Hid (IS b c A ws w g4 g5 6 r s (.slice none 0 0) (.slice none 0 0) [] (w3.setCell ⟨g5,0,none⟩ (.int .i64 6))):=by
   have hw:=Oth.set w3 g5 0 (.int .i64 6)
   have h1:=hI3.h1
   have h2:=hI3.h2
   have h3:=hI3.h3
   exact ⟨hI3.pb.apart hw (by omega),hI3.rs.other (by omega) _ _,hI3.bl.put 0 _,RepL.nil_,hI3.ot.put (by omega) _ _,h1,h2,h3⟩
  clear hn3 hI3
  go_upto_region 8 with (fail)
  generalize World.setCell w3 _ _=w4 at *
  clear c0 f0
  go_wp2_with fail
  refine (dnext_any HI4.out.pb HE0.out HK6.out).mono ?_;rintro e w5 ⟨rfl,hp5,ho5⟩
  have HI8:=Lib.hid (HI4.out.step hp5 ho5)
  clear hp5 ho5 HI1 HI4 H HB4 HN4
  obtain ⟨⟨L',S2⟩,hE⟩:∃ a,Hid (elemsP ws (atConP ws) 40 (pairP ws (conP ws r)) (ws.length+1) [] (nextP s)=a):=⟨_,rfl⟩
  have hx:=HR.out
  rw [con_map HOK.out HB34.out,hE.out] at hx
  simp only [Prod.mk.injEq] at hx
  obtain ⟨rfl,hS0⟩:=hx
  have hS':Hid (needP ws [125] S2=s'):=hS0
  clear hS0
  have HLP0:Hid (Lp ws (atConP ws) 40 (pairP ws (conP ws r)) (needP ws [125]) s' L' [] (nextP s)):=Lp.start (by rw [hE.out];exact hS'.out) (fun _=>by rw [hE.out])
  have HFE:Hid (∀ s:PSt,s.e≠0→needP ws [125] s=s):=fun s h=>er_need h
  have HPE:Hid (∀ s:PSt,atConP ws s=true→s.e=0):=fun s h=>con_e ws h
  have HPR:Hid (Prog ws (atConP ws) (pairP ws (conP ws r))):=prog_pair ws r
  clear HR hE hS'
  go_upto_block 0 with (fail)
  go_cut [] (fun wx=>∃ s1 v L,IS b c A ws w g4 g5 6 r s1 v v L wx∧Hid (needP ws [125] s1=s')∧Hid (s'.e=0→L=flatP L'))
  case first =>
   go_wp2_with fail
   go_loopw [7] (fun nv wr=>∃ (n:Nat) (s1:PSt) (v:Value) (acc:List (Con×Con)),nv = .int .i64 (n:Int)∧IS b c A ws w g4 g5 6 r s1 v v (flatP acc) wr∧Hid (Lp ws (atConP ws) 40 (pairP ws (conP ws r)) (needP ws [125]) s' L' acc s1)∧acc.length=n∧n≤3000 - leftN s1) (fun _ wr=>leftP b wr)
   case atStart=>exact ⟨0,nextP s,.slice none 0 0,[],rfl,HI8.out,HLP0.out,rfl,Nat.zero_le _⟩
   case round =>
    obtain ⟨n,s1,v,acc,rfl,hI,HLP,hn,hn2⟩:=hrel
    have HI:=Lib.hid hI
    have c2:=hI.pb.c2
    have hleft:=hI.pb.left
    have HLEFT:=Lib.hid hleft
    have hlt:=hI.pb.lt
    have hfew:=hI.pb.fin.few
    have hnI:(n:Int)≤3000:=by omega
    have HNN:=Lib.hid hn
    have HL30:Hid (leftN s1≤3000):=by unfold Hid leftN;split <;> omega
    clear hI hleft hn
    by_cases he:s1.e=0
    ·have b0:((s1.e:Int) == 0)=true:=by rw [he];rfl
     have HE:=Lib.hid he
     obtain ⟨BE,hBE⟩:∃ B,Hid (isP ws [125] s1=B):=⟨_,rfl⟩
     clear he
     go_wp2_with fail
     refine (dis_any HI.out.pb _ 125 (Tx.of [125]) (by decide) BE hBE.out).mono ?_;rintro e w2 ⟨rfl,hn2'⟩
     have HI2:=Lib.hid (HI.out.nx hn2')
     clear hn2' c2
     cases BE
     ·obtain ⟨PC,hPC⟩:∃ B,Hid (atConP ws s1=B):=⟨_,rfl⟩
      obtain ⟨N40,hN40⟩:∃ B,Hid (((n:Int) == 40)=B):=⟨_,rfl⟩
      obtain ⟨QQ,hQQ⟩:∃ B,Hid ((N40 && PC)=B):=⟨_,rfl⟩
      go_upto_region 12 with (fail)
      go_cut [37] (fun v' wx=>∃ w3,w3=wx∧v' = .bool QQ∧IS b c A ws w g4 g5 6 r s1 v v (flatP acc) w3)
      case first =>
       have q40:=hN40.out
       cases N40
       ·obtain rfl:false=QQ:=hQQ.out
        go_wp2_with fail
        go_meet
        case rel=>exact ⟨_,rfl,rfl,HI2.out⟩
       ·obtain rfl:PC=QQ:=hQQ.out
        go_wp2_with fail
        refine (dbegins_any HI2.out.pb HE.out PC hPC.out).mono ?_;rintro e w3 ⟨rfl,hn3⟩
        go_wp2_with fail
        go_meet
        case rel=>exact ⟨_,rfl,rfl,HI2.out.nx hn3⟩
      case rest =>
      obtain ⟨w3,hw3,rfl,hI3⟩:=hcut
      subst hw3
      have HI3:=Lib.hid hI3
      clear hI3
      cases QQ
      ·have HNO:Hid (acc.length=40→atConP ws s1=false):=by
        intro h40
        have h1:=hQQ.out
        rw [← hN40.out,show ((n:Int) == 40)=true by rw [beq_iff_eq];have:=HNN.out;omega] at h1
        rw [hPC.out];exact h1
       have HNP:Hid (atConP ws s1=false→((pairP ws (conP ws r)) s1).2=failP 2 s1∧needP ws [125] s1=failP 2 s1):=by
        intro hp
        refine ⟨pair_no hp r,?_⟩
        unfold needP;rw [hBE.out];rfl
       clear hQQ hN40 hPC hBE
       go_upto_region 14 with (fail)
       obtain ⟨⟨cy,sy⟩,Hcy⟩:∃ a,Hid (conP ws r s1=a):=⟨_,rfl⟩
       obtain ⟨sz,Hsz⟩:∃ a,Hid (needP ws [58] sy=a):=⟨_,rfl⟩
       obtain ⟨⟨cz,su⟩,Hcz⟩:∃ a,Hid (conP ws r sz=a):=⟨_,rfl⟩
       obtain ⟨vA,vc,-,rfl,-,-,-,-,-⟩:=HI3.out.ls.sl conA_size
       have L1:∀ x:EO.GrO b w3,x.1.cell? ⟨g5,4,none⟩=some (.slice vA (flatP acc).length vc):=fun x=>(x.2.blk HI3.out.bl (by have:=HI3.out.h1;have:=HI3.out.h2;omega)).cell 4
       refine EO.wp_region_hyb ⟨[7,9],b⟩ [(0,1),(1,1),(2,1),(3,1),(4,1),(5,0),(6,0),(7,0),(8,2),(9,0)] rfl (by kernel_rfl) ?_
       iterate 5 (refine EO.hyb_calm rfl (fun K hK=>?_);go_simp;refine hK _ ?_;clear hK K)
       clear L1
       refine EO.hyb_alone rfl (fun wa hna K hK=>?_)
       go_simp
       refine (HC2.out wa s1 (HI3.out.pb.nx hna) (D+1) HD1.out cy sy Hcy.out).mono ?_;rintro e wb ⟨⟨xk,xn,xd,xs,xl⟩,y1,rfl,hy,hrc,hp,ho⟩
       obtain ⟨xy,-,xh⟩:=RC.of hrc
       obtain ⟨xA,xc,-,rfl,-,-,-,-,-⟩:=xh.sl conA_size
       clear xh
       have HY1:=Lib.hid hy
       have hIa:=HI3.out.nx hna
       have hIb:=hIa.step hp ho
       have hrb:=fresh_but (RC.lasts _) (B:=g5+1) (v:=.slice vA (flatP acc).length vc) hrc (by have:=hIa.bl.lt;omega) (fun k e=>(RepL.own_lt hIa.ls k e).2)
       rw [show conA ⟨xk,xn,xd,xs,.slice xA xy.length xc⟩=#[.int .i64 (xk:Int),.int .i64 xn,.int .u64 (xd:Int),.string ⟨xs.toArray⟩,.slice xA xy.length xc] from rfl]
       refine hK _ _ (.inr ho) ?_
       clear hK K hy hrc hp ho
       refine EO.hyb_alone rfl (fun wc hnc K hK=>?_)
       go_simp
       refine hK _ _ (.inr (Oth.nx (nx0 _ _))) ?_
       clear hK K
       obtain ⟨g9,hg9⟩:∃ g,wc.heap.size=g:=⟨_,rfl⟩
       have hb9:=Blk.new wc #[.int .i64 (xk:Int),.int .i64 xn,.int .u64 (xd:Int),.string ⟨xs.toArray⟩,.slice xA xy.length xc] 51
       rw [hg9] at hb9 ⊢
       have hnd:Nx wb (wc.alloc (.cells #[.int .i64 (xk:Int),.int .i64 xn,.int .u64 (xd:Int),.string ⟨xs.toArray⟩,.slice xA xy.length xc] 51)):=hnc.trans (nx0 _ _)
       generalize World.alloc wc _=wd at *
       refine EO.hyb_alone rfl (fun we hne K hK=>?_)
       refine EO.ite_intro rfl ?_
       have hIe:=hIb.nx (hnd.trans hne)
       have hre:=RC.lasts _ ((Mv.nx (hnd.trans hne) (Nat.le_refl (g5+1))).but (.slice vA (flatP acc).length vc)) hrb
       refine op_appL we (RC.lasts _) infoC Tryz.underlying49 rfl (by decide) (by decide) conA_size _ _ rfl (g5+1) b (.slice vA (flatP acc).length vc) (flatP acc) ⟨xk,xn,xd,xs,.slice xA xy.length xc⟩ y1 rfl hIe.ls (fun u hu=>by simp [conA,bt] at hu;rcases hu with rfl | rfl | rfl | rfl | rfl <;> rfl) g9 rfl (fun j hj=>(hb9.below hne).cell j) hre (by have:=pflat_len acc;have:=HNN.out;omega) (by have:=hIe.bl.lt;omega) (by have:=HI3.out.h1;have:=HI3.out.h2;omega) ?_
       intro v' wf hrep' hfr' hkk
       have hIf:=hIe.app hrep' hfr' hkk
       refine hK _ _ (.inl (by simp)) ?_
       clear hK K hrep' hfr' hkk hre hrb hb9
       obtain ⟨vA2,vc2,-,hv2,-,-,-,-,-⟩:=hIf.ls.sl conA_size
       obtain rfl:v' = .slice vA2 ((flatP acc).length+1) vc2:=by rw [hv2,List.length_append];rfl
       clear hv2
       refine EO.hyb_pure rfl (fun K hK=>?_);go_simp;refine hK _ ?_;clear hK K
       refine EO.hyb_alone rfl (fun wg hng K hK=>?_)
       have hIg:=hIf.nx hng
       have c9:wg.cell? ⟨g5,4,none⟩=some (.slice vA (flatP acc).length vc):=hIg.bl.cell 4
       have f9:=hIg.bl.free 4
       go_simp
       refine hK _ _ (.inl (by simp)) ?_
       clear hK K
       refine EO.hyb_nil (fun wh hnh=>?_)
       have HI5:=Lib.hid (hIg.put.nx hnh)
       clear c9 f9 hIg hIf hIe hIb hIa hnd hna hnc hne hng hnh
       clear HI HI2 HI3
       go_wp2_with fail
       refine (dneed_any HI5.out.pb _ 58 (Tx.of [58]) (by decide) sz Hsz.out).mono ?_;rintro e w4 ⟨rfl,hp4,ho4⟩
       have HI4:=Lib.hid (HI5.out.step hp4 ho4)
       clear hp4 ho4 HI5
       go_upto_region 17 with (fail)
       have L1:∀ x:EO.GrO b w4,x.1.cell? ⟨g5,4,none⟩=some (.slice vA2 ((flatP acc).length+1) vc2):=fun x=>(x.2.blk HI4.out.bl (by have:=HI4.out.h1;have:=HI4.out.h2;omega)).cell 4
       refine EO.wp_region_hyb ⟨[7,9],b⟩ [(0,1),(1,1),(2,1),(3,1),(4,1),(5,0),(6,0),(7,0),(8,2),(9,0)] rfl (by kernel_rfl) ?_
       iterate 5 (refine EO.hyb_calm rfl (fun K hK=>?_);go_simp;refine hK _ ?_;clear hK K)
       clear L1
       refine EO.hyb_alone rfl (fun wa hna K hK=>?_)
       go_simp
       refine (HC2.out wa sz (HI4.out.pb.nx hna) (D+1) HD1.out cz su Hcz.out).mono ?_;rintro e wb ⟨⟨xk,xn,xd,xs,xl⟩,y2,rfl,hy,hrc,hp,ho⟩
       obtain ⟨xy,-,xh⟩:=RC.of hrc
       obtain ⟨xA,xc,-,rfl,-,-,-,-,-⟩:=xh.sl conA_size
       clear xh
       have HY2:=Lib.hid hy
       have hIa:=HI4.out.nx hna
       have hIb:=hIa.step hp ho
       have hrb:=fresh_but (RC.lasts _) (B:=g5+1) (v:=.slice vA2 ((flatP acc).length+1) vc2) hrc (by have:=hIa.bl.lt;omega) (fun k e=>(RepL.own_lt hIa.ls k e).2)
       rw [show conA ⟨xk,xn,xd,xs,.slice xA xy.length xc⟩=#[.int .i64 (xk:Int),.int .i64 xn,.int .u64 (xd:Int),.string ⟨xs.toArray⟩,.slice xA xy.length xc] from rfl]
       refine hK _ _ (.inr ho) ?_
       clear hK K hy hrc hp ho
       refine EO.hyb_alone rfl (fun wc hnc K hK=>?_)
       go_simp
       refine hK _ _ (.inr (Oth.nx (nx0 _ _))) ?_
       clear hK K
       obtain ⟨g9,hg9⟩:∃ g,wc.heap.size=g:=⟨_,rfl⟩
       have hb9:=Blk.new wc #[.int .i64 (xk:Int),.int .i64 xn,.int .u64 (xd:Int),.string ⟨xs.toArray⟩,.slice xA xy.length xc] 51
       rw [hg9] at hb9 ⊢
       have hnd:Nx wb (wc.alloc (.cells #[.int .i64 (xk:Int),.int .i64 xn,.int .u64 (xd:Int),.string ⟨xs.toArray⟩,.slice xA xy.length xc] 51)):=hnc.trans (nx0 _ _)
       generalize World.alloc wc _=wd at *
       refine EO.hyb_alone rfl (fun we hne K hK=>?_)
       refine EO.ite_intro rfl ?_
       have hIe:=hIb.nx (hnd.trans hne)
       have hre:=RC.lasts _ ((Mv.nx (hnd.trans hne) (Nat.le_refl (g5+1))).but (.slice vA2 ((flatP acc).length+1) vc2)) hrb
       refine op_appL we (RC.lasts _) infoC Tryz.underlying49 rfl (by decide) (by decide) conA_size _ _ rfl (g5+1) b (.slice vA2 ((flatP acc).length+1) vc2) (flatP acc++[y1]) ⟨xk,xn,xd,xs,.slice xA xy.length xc⟩ y2 rfl hIe.ls (fun u hu=>by simp [conA,bt] at hu;rcases hu with rfl | rfl | rfl | rfl | rfl <;> rfl) g9 rfl (fun j hj=>(hb9.below hne).cell j) hre (by have:=pflat_len acc;have:=HNN.out;simp;omega) (by have:=hIe.bl.lt;omega) (by have:=HI4.out.h1;have:=HI4.out.h2;omega) ?_
       intro v' wf hrep' hfr' hkk
       have hIf:=hIe.app hrep' hfr' hkk
       refine hK _ _ (.inl (by simp)) ?_
       clear hK K hrep' hfr' hkk hre hrb hb9
       obtain ⟨vA3,vc3,-,hv2,-,-,-,-,-⟩:=hIf.ls.sl conA_size
       obtain rfl:v' = .slice vA3 ((flatP acc).length+1+1) vc3:=by rw [hv2,List.length_append,List.length_append];rfl
       clear hv2
       refine EO.hyb_pure rfl (fun K hK=>?_);go_simp;refine hK _ ?_;clear hK K
       refine EO.hyb_alone rfl (fun wg hng K hK=>?_)
       have hIg:=hIf.nx hng
       have c9:wg.cell? ⟨g5,4,none⟩=some (.slice vA2 ((flatP acc).length+1) vc2):=hIg.bl.cell 4
       have f9:=hIg.bl.free 4
       go_simp
       refine hK _ _ (.inl (by simp)) ?_
       clear hK K
       refine EO.hyb_nil (fun wh hnh=>?_)
       have HI7:=Lib.hid (hIg.put.nx hnh)
       clear c9 f9 hIg hIf hIe hIb hIa hnd hna hnc hne hng hnh
       clear HI4
       go_wp2_with fail
       refine (dpart_any HI7.out.pb _ rfl).mono ?_;rintro e w6 ⟨rfl,hp6,ho6⟩
       have HI6:=Lib.hid (HI7.out.step hp6 ho6)
       have HPY:Hid (pairP ws (conP ws r) s1=((cy,cz),su)):=by unfold Hid pairP;dsimp only;rw [Hcy.out];dsimp only;rw [Hsz.out,Hcz.out]
       have HEQ:Hid (su.e=0→(y1,y2)=(cy,cz)):=by
        intro h0
        have h1:sz.e=0:=by
         rcases Nat.eq_zero_or_pos sz.e with h | h
         ·exact h
         ·exfalso
          have:=er_con (ws:=ws) (s:=sz) (by omega) r
          rw [Hcz.out] at this
          simp only [Prod.mk.injEq] at this
          rw [this.2] at h0;omega
        have h2:sy.e=0:=by
         rcases Nat.eq_zero_or_pos sy.e with h | h
         ·exact h
         ·exfalso
          have:=er_need (ws:=ws) (t:=[58]) (s:=sy) (by omega)
          rw [Hsz.out] at this
          rw [this] at h1;omega
        rw [HY1.out h2,HY2.out h0]
       have HADV:Hid (su.e≠0∨s1.i<su.i):=by have:=adv_pair ws r s1 HE.out;rw [HPY.out] at this;exact this
       have HLT6:=Lib.hid (left_step hlt hfew HE.out (show (sepP ws su).e≠0∨s1.i<(sepP ws su).i from by
        rcases HADV.out with h | h
        ·exact .inl ((mo_sep ws su).2 h)
        ·exact .inr (Nat.lt_of_lt_of_le h (mo_sep ws su).1)))
       have HLP6:=Lib.hid (HLP.out.go hlt HPE.out HFE.out HPR.out HNO.out HNP.out HPY.out (y1,y2) HEQ.out)
       clear hp6 ho6 HI7
       go_wp2_with fail
       go_roundw
       case rel=>exact ⟨n+1,sepP ws su,_,acc++[(y1,y2)],rfl,HI6.out.eq rfl (flat_snoc _ _ _).symm,HLP6.out,by have:=HNN.out;simp;omega,by have:=HLT6.out;have:=HL30.out;omega⟩
       case measure=>rw [HI6.out.pb.left,HLEFT.out];exact HLT6.out
      ·have h1:N40=true∧PC=true:=by have:=hQQ.out;simpa using this
       obtain ⟨rfl,rfl⟩:=h1
       have h40:acc.length=40:=by have:=hN40.out;rw [beq_iff_eq] at this;have:=HNN.out;omega
       have HOV:=Lib.hid (HLP.out.over hlt HPE.out HFE.out h40 hPC.out)
       clear hQQ hN40 h40
       go_wp2_with fail
       refine (dfail_any HI3.out.pb 4 (by decide) (by decide)).mono ?_;rintro e w4 ⟨rfl,hp4,ho4⟩
       have HI4:=Lib.hid (HI3.out.step hp4 ho4)
       clear hp4 ho4
       go_wp2_with fail
       go_meet
       case rel =>
        have h4:(failP 4 s1).e≠0:=fail_ne 4 (by decide) s1
        exact ⟨_,_,_,HI4.out,by unfold Hid;rw [er_need h4];exact HOV.out,fun h=>absurd (HOV.out ▸ h) h4⟩
     ·have hend:=HLP.out.end_ (con_notclose HI.out.pb.ok 125 (by decide) hBE.out (by decide) (by decide))
      have HEND:=Lib.hid hend
      clear hend
      go_wp2_with fail
      go_meet
      case rel=>exact ⟨_,_,_,HI2.out,HEND.out.1,fun h=>by rw [HEND.out.2 h]⟩
    ·have b0:((s1.e:Int) == 0)=false:=by rw [beq_eq_false_iff_ne];omega
     have HEND:=Lib.hid (HLP.out.stop HPE.out he)
     clear he
     go_wp2_with fail
     go_meet
     case rel=>exact ⟨_,_,_,HI.out,HEND.out.1,fun h=>by rw [HEND.out.2 h]⟩
  case rest =>
  obtain ⟨s1,v,L,hI,HN1,HL1⟩:=hcut
  have HI:=Lib.hid hI
  clear hI
  go_wp2_with fail
  refine (dneed_any HI.out.pb _ 125 (Tx.of [125]) (by decide) s' HN1.out).mono ?_;rintro e w4 ⟨rfl,hp4,ho4⟩
  have HI4:=Lib.hid (HI.out.step hp4 ho4)
  obtain ⟨vA,vc,-,rfl,-,-,-,-,-⟩:=HI4.out.ls.sl conA_size
  obtain ⟨r0,r1,r2,r3,r4,f0,f1,f2,f3,f4⟩:=cellsD5 HI4.out.rs
  obtain ⟨d0,d1,d2,d3,d4,-⟩:=cellsD5 HI4.out.bl
  clear hp4 ho4
  go_wp2_with fail
  refine bodyPost_ret (results_cell_row rfl _ _ g4 _ _ _ _ rfl (HI4.out.rs.put5).2 Tryz.underlying51 rfl (by kernel_rfl)) rfl ?_
  have hh1:=HI4.out.h1
  have hh2:=HI4.out.h2
  have hh3:=HI4.out.h3
  have HW:=(Oth.refl g4 w4).own (i:=0) (v:=.int .i64 6) |>.own (i:=1) (v:=.int .i64 0) |>.own (i:=2) (v:=.int .u64 0) |>.own (i:=3) (v:=.string ⟨#[]⟩) |>.own (i:=4) (v:=.slice vA L.length vc)
  exact ⟨⟨6,0,0,[],.slice vA L.length vc⟩,.mk 6 0 0 [] L,rfl,fun h=>by rw [HL1.out h],RC.lasts _ (Mv.oth HW (show w.heap.size≤g5+1 by omega) (show g4<g5+1 by omega)) (RC.mk HI4.out.ls),HI4.out.pb.apart HW hh1,HI4.out.ot.put5 hh3⟩
theorem dcon_all:∀ (r:Nat),r≤12→DCoC b c A ws r
 | 0,h=>dconst_step 0 (ditems_step 0 h (fun r' e=>by omega))
 | r+1,h=>dconst_step (r+1) (ditems_step (r+1) h (fun r' e=>Nat.succ.inj e ▸ dcon_all r (by omega)))
theorem dcon_any {w:World} {s:PSt} (h0:PB w b A c ws s) (y:Con) (s':PSt) (hr:conP ws 12 s=(y,s')) :
  Calls Tryz.prog 78 #[.pointer (some ⟨b,0,none⟩),.int .i64 1] w fun e w'=>∃ x y',e = .returned (.agg (conA x))∧(s'.e=0→y'=y)∧RC 13 w' (Fm w.heap.size) x y'∧PB w' b A c ws s'∧Oth b w w' :=
 dcon_all 12 (Nat.le_refl _) w s h0 1 rfl y s' hr
end
end Go.Proofs.YtpfecpcgdfbekaaGreatDoor
