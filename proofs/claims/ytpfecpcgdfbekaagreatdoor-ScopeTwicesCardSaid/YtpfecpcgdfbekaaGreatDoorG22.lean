/- The contract of the document's parser. A text whose numbers are whole, in tens, is lexed and parsed by the document. -/
import Derived.Test.YtpfecpcgdfbekaaGreatDoorG21
import Derived.Test.YtpfecpcgdfbekaaGreatDoorG04
import Derived.BigRegion
import Derived.Test.YtpfecpcgdfbekaaGreatDoorG06
import Derived.Test.YtpfecpcgdfbekaaGreatDoorG07
set_option linter.unusedVariables false
set_option linter.unusedSimpArgs false
set_option linter.unnecessarySimpa false
namespace Go.Proofs.YtpfecpcgdfbekaaGreatDoor
open Go.RowKit
structure HF (b c:Nat) (A:Option Addr) (ws:List TokV) (w0:World) (gf:Nat) (s:PSt) (vi vs vd:Value) (a:List (List UInt8)) (l:List Spc) (d:List Dfn) (w:World):Prop where
 pb:PB w b A c ws s
 bl:Blk w gf gf #[vi,vs,vd] 74
 li:LT w (Fm (gf+1)) vi a
 ls:LS w (Fm (gf+1)) vs l
 ld:LD w (Fm (gf+1)) vd d
 n2:∀ k,vi.ownBlock=some k→vd.ownBlock≠some k
 n3:∀ k,vs.ownBlock=some k→vd.ownBlock≠some k
 nx:Nx w0 w
 hb:b<gf
 h0:w0.heap.size≤b
section
variable {b c gf:Nat} {A:Option Addr} {ws:List TokV} {w0 w w' w'':World} {s s':PSt} {vi vs vd vd':Value} {a:List (List UInt8)} {l:List Spc} {d d':List Dfn}
theorem HH.toHF (h:HH b c A ws w0 gf s vi vs a l w):HF b c A ws w0 gf s vi vs (.slice none 0 0) a l [] w :=
 ⟨h.pb,h.bl,h.li,h.ls,RepL.nil_,fun k _ e=>(by cases e),fun k _ e=>(by cases e),h.nx,h.hb,h.h0⟩
theorem HF.step (h:HF b c A ws w0 gf s vi vs vd a l d w) (hp:PB w' b A c ws s') (ho:Oth b w w'):HF b c A ws w0 gf s' vi vs vd a l d w' :=
 ⟨hp,ho.blk h.bl (by have:=h.hb;omega),LT.lasts (Mv.oth ho (Nat.le_refl _) (by have:=h.hb;omega)) h.li,LS.lasts (Mv.oth ho (Nat.le_refl _) (by have:=h.hb;omega)) h.ls,LD.lasts (Mv.oth ho (Nat.le_refl _) (by have:=h.hb;omega)) h.ld,h.n2,h.n3,h.nx.oth ho h.h0,h.hb,h.h0⟩
theorem HF.nx' (h:HF b c A ws w0 gf s vi vs vd a l d w) (hn:Nx w w'):HF b c A ws w0 gf s vi vs vd a l d w':=h.step (h.pb.nx hn) (Oth.nx hn)
theorem HF.addD (h:HF b c A ws w0 gf s vi vs vd a l d w) (hl:LD w' (Fm (gf+1)) vd' d') (hf:Fr b vd w vd' w') (hk:∀ k,k<w.heap.size→vd.ownBlock≠some k→w'.heap[k]? = w.heap[k]?) :
  Blk w' gf gf #[vi,vs,vd] 74∧HF b c A ws w0 gf s vi vs vd' a l d' (w'.setCell ⟨gf,2,none⟩ vd'):=by
 have hv:∀ g,vd.ownBlock=some g→gf+1≤g:=fun g e=>(RepL.own_lt h.ld g e).1
 have hvi:=RepL.own_lt h.li
 have hvs:=RepL.own_lt h.ls
 have h1:=h.hb
 have h2:=h.h0
 have hbl:Blk w' gf gf #[vi,vs,vd] 74:=⟨h.bl.1,(hk gf h.bl.lt (fun e=>by have:=hv _ e;omega)).trans h.bl.2⟩
 have hpb:PB w' b A c ws s:=h.pb.fr hf hv (by omega) hk
 have hli:LT w' (Fm (gf+1)) vi a:=RepL.eq_own h.li (fun g e=>(hvi g e).1) (fun g e=>hk g (hvi g e).2 (fun e2=>h.n2 g e e2))
 have hls:LS w' (Fm (gf+1)) vs l:=RepL.eq_own h.ls (fun g e=>(hvs g e).1) (fun g e=>hk g (hvs g e).2 (fun e2=>h.n3 g e e2))
 have hnx:Nx w0 w':=⟨hf.os.trans h.nx.os,hf.tape.trans h.nx.tape,hf.output.trans h.nx.output,Nat.le_trans h.nx.size hf.size,fun k hlt=>(hk k (Nat.lt_of_lt_of_le hlt h.nx.size) (fun e=>by have:=hv _ e;omega)).trans (h.nx.block k hlt)⟩
 have hw:=Oth.set w' gf 2 vd'
 have hm:Mv (Fm (gf+1)) (Fm (gf+1)) w' (w'.setCell ⟨gf,2,none⟩ vd'):=Mv.oth hw (Nat.le_refl _) (Nat.lt_succ_self _)
 refine ⟨hbl,hpb.apart hw h1,hbl.put 2 _,LT.lasts hm hli,LS.lasts hm hls,LD.lasts hm hl,fun k e e2=>?_,fun k e e2=>?_,hnx.oth hw (by omega),h1,h2⟩
 ·rcases hf.own k e2 with h3 | h3
  ·exact h.n2 k e h3
  ·have:=(hvi k e).2;omega
 ·rcases hf.own k e2 with h3 | h3
  ·exact h.n3 k e h3
  ·have:=(hvs k e).2;omega
end
section
variable {ws:List TokV}
def finP (ws:List TokV) (s:PSt):PSt:=if (wordP ws s).k=6 then s else failP 2 s
theorem fin_err {s:PSt} (h:s.e≠0):finP ws s=s:=by
 unfold finP
 rw [er_word h,if_neg (by decide),er_fail h]
theorem fin_end {s:PSt} (h:(wordP ws s).k=6):finP ws s=s:=if_pos h
theorem fin_no {s:PSt} (h:(wordP ws s).k≠6):finP ws s=failP 2 s:=if_neg h
theorem file_parts {s:PSt} {a:List (List UInt8)} {l:List Spc} {s1:PSt} (h1:headsP ws (ws.length+1) [] [] s=((a,l),s1)) {d:List Dfn} {s2:PSt} (h2:elemsP ws (atDefP ws) 30 (defP ws) (ws.length+1) [] s1=(d,s2)) :
  fileP ws s=(⟨a,l,d⟩,finP ws s2):=by
 unfold fileP finP
 dsimp only
 rw [h1]
 dsimp only
 rw [h2]
theorem end_nodef {s:PSt} (h:(wordP ws s).k=6):atDefP ws s=false:=by
 unfold atDefP atNameP
 rw [h];rfl
end
set_option maxRecDepth 100000 in
set_option maxHeartbeats 25600000 in
theorem dparse_of (w:World) (s:ByteArray) (t:List UInt8) (ht:Tx s t) (hlx:LexOk t) :
  Calls Tryz.prog 33 #[.string s] w fun e w'=>∃ x,e = .returned (.tuple #[.agg (filA x),.int .i64 ((parseF t).2.1:Nat),.int .i64 ((parseF t).2.2:Nat)])∧RFile w' (Fm w.heap.size) x (parseF t).1∧Nx w w':=by
 have HTX:=Lib.hid ht
 obtain ⟨⟨ws,le,lat⟩,hLX⟩:∃ r,Hid (lexS t=r):=⟨_,rfl⟩
 obtain ⟨⟨fl,pe,pa⟩,hPF⟩:∃ r,Hid (parseF t=r):=⟨_,rfl⟩
 rw [hPF.out]
 have HLC:=fun w=>Lib.hid (hlx s ht w)
 rw [hLX.out] at HLC
 have HPF:=hPF.out
 unfold parseF at HPF
 rw [hLX.out] at HPF
 have HPP:=Lib.hid HPF
 have hEN:=lex_ends t
 have hOK:=lex_tok_ok t
 rw [hLX.out] at hEN hOK
 have HEN:=Lib.hid hEN
 have HOK:=Lib.hid hOK
 obtain ⟨g2,hg2⟩:∃ g,w.heap.size=g:=⟨_,rfl⟩
 have hB2:=Blk.new w #[.slice none 0 0,.slice none 0 0,.slice none 0 0] 74
 rw [hg2] at hB2
 have hN2:Nx w (w.alloc (.cells #[.slice none 0 0,.slice none 0 0,.slice none 0 0] 74)):=nx0 _ _
 have HB2:=Lib.hid hB2
 have HN2:=Lib.hid hN2
 have HG2:Hid (w.heap.size≤g2):=Nat.le_of_eq hg2
 clear ht hlx HPF hEN hOK hB2 hN2
 go_enter Tryz.func33,Tryz.ntmps33
 go_upto_region 1 with (fail)
 generalize World.alloc w _=w1 at *
 clear hg2
 go_wp2_with fail
 refine (HLC _).out.mono ?_;rintro e w2 ⟨v,rfl,hown,hn2⟩
 dsimp only at hown ⊢
 have HN3:=Lib.hid (HN2.out.trans hn2)
 have HB3:=Lib.hid (HB2.out.below hn2)
 have HOWN:=Lib.hid hown
 clear hn2 hown HLC
 by_cases hle:le=0
 ·subst hle
  obtain ⟨hends,hpos⟩:=HEN.out rfl
  have hwok:WOk ws:=HOK.out rfl
  obtain ⟨A,c,rfl,hc1,hc2,hrd⟩:=HOWN.out.sl
  have hx:=HPP.out
  simp only [ne_eq,not_true_eq_false,if_false] at hx
  obtain ⟨⟨⟨A',B'⟩,sh⟩,hHE⟩:∃ r,Hid (headsP ws (ws.length+1) [] [] ⟨0,0⟩=r):=⟨_,rfl⟩
  obtain ⟨⟨L',S2⟩,hEL⟩:∃ r,Hid (elemsP ws (atDefP ws) 30 (defP ws) (ws.length+1) [] sh=r):=⟨_,rfl⟩
  obtain ⟨S',hS'⟩:∃ S',Hid (finP ws S2=S'):=⟨_,rfl⟩
  rw [file_parts hHE.out hEL.out,hS'.out] at hx
  dsimp only at hx
  have HX:=Lib.hid hx
  have HLP0:Hid (Lp ws (atDefP ws) 30 (defP ws) (finP ws) S' L' [] sh):=Lp.start (by rw [hEL.out];exact hS'.out) (fun _=>by rw [hEL.out])
  have HFE:Hid (∀ s:PSt,s.e≠0→finP ws s=s):=fun s h=>fin_err h
  have HPE:Hid (∀ s:PSt,atDefP ws s=true→s.e=0):=fun s h=>def_e ws h
  have HPR:Hid (Prog ws (atDefP ws) (defP ws)):=prog_def ws
  obtain ⟨b,hb⟩:∃ b,w2.heap.size=b:=⟨_,rfl⟩
  have hBb:=Blk.new w2 #[.slice A ws.length c,.int .i64 0,.int .i64 0,.int .i64 0] 120
  rw [hb] at hBb
  have hnb:=nx0 w2 (.cells #[.slice A ws.length c,.int .i64 0,.int .i64 0,.int .i64 0] 120)
  have hPB:PB (w2.alloc (.cells #[.slice A ws.length c,.int .i64 0,.int .i64 0,.int .i64 0] 120)) b A c ws ⟨0,0⟩:=by
   refine ⟨⟨Nat.zero_le _,hBb.2⟩,hrd.nx hnb,fun g e=>?_,hc1,hends,hwok,hpos,by decide⟩
   obtain ⟨g',e',hg',-⟩:=hrd (by omega)
   rw [e] at e'
   injection e' with e'
   injection e' with e'
   omega
  have HPB:=Lib.hid hPB
  have HNB:=Lib.hid hnb
  have hbw:b<(w2.alloc (.cells #[.slice A ws.length c,.int .i64 0,.int .i64 0,.int .i64 0] 120)).heap.size:=hPB.bw
  have HBW:=Lib.hid hbw
  have HHB:Hid (w2.heap.size≤b):=Nat.le_of_eq hb
  clear hx hEL hS' hBb hPB hnb hbw HPP hends hwok hrd hpos
  go_upto_region 5 with (fail)
  generalize World.alloc w2 _=w3 at *
  obtain ⟨gf,hgf⟩:∃ g,w3.heap.size=g:=⟨_,rfl⟩
  have HI0:Hid (HH b c A ws w2 gf ⟨0,0⟩ (.slice none 0 0) (.slice none 0 0) [] [] (w3.alloc (.cells #[.slice none 0 0,.slice none 0 0,.slice none 0 0] 74))):=by
   have h:=Blk.new w3 #[.slice none 0 0,.slice none 0 0,.slice none 0 0] 74
   rw [hgf] at h
   exact ⟨HPB.out.nx (nx0 _ _),h,RepL.nil_,RepL.nil_,fun k e=>(by cases e),Nx.trans HNB.out (nx0 _ _),by have:=HBW.out;omega,HHB.out⟩
  have HG2F:Hid (g2<gf):=by have:=HB3.out.lt;have:=HHB.out;have:=HBW.out;unfold Hid;omega
  clear hb HPB HNB HBW
  go_upto_region 6 with (fail)
  generalize World.alloc w3 _=w4 at *
  clear hgf
  go_wp2_with fail
  refine (dhead_any HI0.out A' B' sh hHE.out).mono ?_;rintro e w5 ⟨rfl,vi,vs,a,l,hh5,hAB⟩
  have HI5:=Lib.hid hh5.toHF
  have HAB:=Lib.hid hAB
  clear hh5 hAB HI0
  obtain ⟨iA,im,ic,hvi⟩:∃ iA im ic,vi = .slice iA im ic:=by obtain ⟨iA,ic,-,h,-⟩:=HI5.out.li.sl strA_size;exact ⟨iA,_,ic,h⟩
  obtain ⟨sA,sm,sc,hvs⟩:∃ iA im ic,vs = .slice iA im ic:=by obtain ⟨iA,ic,-,h,-⟩:=HI5.out.ls.sl spcA_size;exact ⟨iA,_,ic,h⟩
  subst hvi hvs
  go_upto_block 0 with (fail)
  go_cut [] (fun wx=>∃ vd L,HF b c A ws w2 gf S' (.slice iA im ic) (.slice sA sm sc) vd a l L wx∧Hid (S'.e=0→L=L')∧Hid (S'.e=0→sh.e=0))
  case first =>
   go_wp2_with fail
   go_loopw [] (fun wr=>∃ (s1:PSt) (vd:Value) (acc:List Dfn),HF b c A ws w2 gf s1 (.slice iA im ic) (.slice sA sm sc) vd a l acc wr∧Hid (Lp ws (atDefP ws) 30 (defP ws) (finP ws) S' L' acc s1)∧acc.length≤3000 - leftN s1∧Hid (sh.e≠0→s1.e≠0)) (fun wr=>leftP b wr)
   case atStart=>exact ⟨sh,_,[],HI5.out,HLP0.out,Nat.zero_le _,fun h=>h⟩
   case round =>
    obtain ⟨s1,vd,acc,hI,HLP,hn1,HSH⟩:=hrel
    have HI:=Lib.hid hI
    obtain ⟨dA,dc,-,rfl,-,-,-,-,-⟩:=hI.ld.sl dfnA_size
    have c2:=hI.pb.c2
    have HLEFT:=Lib.hid hI.pb.left
    have hlt:=hI.pb.lt
    have hfew:=hI.pb.fin.few
    have HL30:Hid (leftN s1≤3000):=by unfold Hid leftN;split <;> omega
    have haI:(acc.length:Int)≤3000:=by omega
    have HN1:=Lib.hid hn1
    clear hI hn1
    by_cases he:s1.e=0
    ·have b0:((s1.e:Int) == 0)=true:=by rw [he];rfl
     have HE:=Lib.hid he
     have hw:=now_word (ws:=ws) he
     obtain ⟨⟨tk,tt,tn,td,tp⟩,hT⟩:∃ T,Hid (nowP ws s1=T):=⟨_,rfl⟩
     rw [hT.out] at hw
     have HW:=Lib.hid hw
     have F0:∀ w1,(Instr.field 124 (.agg #[.int .i64 (tk:Int),.string ⟨tt.toArray⟩,.int .i64 tn,.int .u64 (td:Int),.int .i64 (tp:Int)]) 0).run Tryz.prog w1 = .ok (.int .i64 (tk:Int)) w1:=fun w1=>(tokF _ _ _ _ _ w1).1
     clear he hw
     go_wp2_with fail
     refine (dnow_any HI.out.pb _ _ _ _ _ hT.out).mono ?_;rintro e w6 ⟨rfl,hn6⟩
     have HI6:=Lib.hid (HI.out.nx' hn6)
     clear hn6 c2
     by_cases h6:tk=6
     ·subst h6
      have F0:∀ w1,(Instr.field 124 (.agg #[.int .i64 6,.string ⟨tt.toArray⟩,.int .i64 tn,.int .u64 (td:Int),.int .i64 (tp:Int)]) 0).run Tryz.prog w1 = .ok (.int .i64 6) w1:=fun w1=>(tokF 6 _ _ _ _ w1).1
      have hk6:(wordP ws s1).k=6:=by rw [HW.out]
      have HEND:=Lib.hid (HLP.out.end_ (end_nodef hk6))
      have HFS:=Lib.hid (fin_end hk6)
      clear hk6
      go_wp2_with fail
      go_meet
      case rel =>
       have h1:s1=S':=by rw [← HEND.out.1,HFS.out]
       refine ⟨_,acc,h1 ▸ HI6.out,HEND.out.2,fun h=>?_⟩
       rcases Nat.eq_zero_or_pos sh.e with h2 | h2
       ·exact h2
       ·exact absurd HE.out (HSH.out (by omega))
     ·have b6:((tk:Int) != 6)=true:=by rw [bne_iff_ne];omega
      have hk6:(wordP ws s1).k≠6:=by rw [HW.out];exact h6
      have HK6:=Lib.hid hk6
      obtain ⟨PC,hPC⟩:∃ B,Hid (atDefP ws s1=B):=⟨_,rfl⟩
      obtain ⟨N30,hN30⟩:∃ B,Hid (((acc.length:Int) == 30)=B):=⟨_,rfl⟩
      obtain ⟨QQ,hQQ⟩:∃ B,Hid ((N30 && PC)=B):=⟨_,rfl⟩
      have k2:w6.cell? ⟨gf,2,none⟩=some (.slice dA acc.length dc):=HI6.out.bl.cell 2
      clear hk6 h6
      go_upto_region 8 with (fail)
      go_cut [46] (fun v' wx=>∃ w7,w7=wx∧v' = .bool QQ∧HF b c A ws w2 gf s1 (.slice iA im ic) (.slice sA sm sc) (.slice dA acc.length dc) a l acc w7)
      case first =>
       have q30:=hN30.out
       cases N30
       ·obtain rfl:false=QQ:=hQQ.out
        go_wp2_with fail
        go_meet
        case rel=>exact ⟨_,rfl,rfl,HI6.out⟩
       ·obtain rfl:PC=QQ:=hQQ.out
        go_wp2_with fail
        refine (ddefines_any HI6.out.pb PC hPC.out).mono ?_;rintro e w7 ⟨rfl,hn7⟩
        go_wp2_with fail
        go_meet
        case rel=>exact ⟨_,rfl,rfl,HI6.out.nx' hn7⟩
      case rest =>
      obtain ⟨w7,hw7,rfl,hI7⟩:=hcut
      subst hw7
      have HI7:=Lib.hid hI7
      clear hI7 HI HI6 k2
      cases QQ
      ·have HNO:Hid (acc.length=30→atDefP ws s1=false):=by
        intro h30
        have h1:=hQQ.out
        rw [← hN30.out,show ((acc.length:Int) == 30)=true by rw [beq_iff_eq];omega] at h1
        rw [hPC.out];exact h1
       obtain ⟨⟨y,sf⟩,hFP⟩:∃ r,Hid (defP ws s1=r):=⟨_,rfl⟩
       clear hQQ hN30
       go_wp2_with fail
       refine (ddef_any HI7.out.pb HE.out PC hPC.out y sf hFP.out).mono ?_;rintro e w8 ⟨⟨dk,dn,dt,⟨xk,xn,xd,xs,xl⟩,uv,zv,de,qv⟩,y',rfl,hyy,hrd,hp8,ho8⟩
       have HYY:=Lib.hid hyy
       obtain ⟨xA,xm,xc,rfl⟩:∃ xA xm xc,xl = .slice xA xm xc:=by
        obtain ⟨xy,-,xh⟩:=RC.of hrd.2.2.2.1
        obtain ⟨xA,xc,-,h,-⟩:=xh.sl conA_size
        exact ⟨xA,_,xc,h⟩
       obtain ⟨uA,um,uc,rfl⟩:∃ xA xm xc,uv = .slice xA xm xc:=by
        obtain ⟨xA,xc,-,h,-⟩:=hrd.2.2.2.2.1.sl fldA_size
        exact ⟨xA,_,xc,h⟩
       obtain ⟨zA,zm,zc,rfl⟩:∃ xA xm xc,zv = .slice xA xm xc:=by
        obtain ⟨xA,xc,-,h,-⟩:=hrd.2.2.2.2.2.1.sl memA_size
        exact ⟨xA,_,xc,h⟩
       obtain ⟨qA,qm,qc,rfl⟩:∃ xA xm xc,qv = .slice xA xm xc:=by
        obtain ⟨xA,xc,-,h,-⟩:=hrd.2.2.2.2.2.2.2.sl metA_size
        exact ⟨xA,_,xc,h⟩
       rw [show dfnA ⟨dk,dn,dt,⟨xk,xn,xd,xs,.slice xA xm xc⟩,.slice uA um uc,.slice zA zm zc,de,.slice qA qm qc⟩=#[.int .i64 (dk:Int),.string ⟨dn.toArray⟩,.string ⟨dt.toArray⟩,.int .i64 (xk:Int),.int .i64 xn,.int .u64 (xd:Int),.string ⟨xs.toArray⟩,.slice xA xm xc,.slice uA um uc,.slice zA zm zc,.string ⟨de.toArray⟩,.slice qA qm qc] from rfl]
       have HI8:=Lib.hid (HI7.out.step hp8 ho8)
       have HRD:=Lib.hid hrd
       obtain ⟨g10,hg10⟩:∃ g,w8.heap.size=g:=⟨_,rfl⟩
       have hb10:=Blk.new w8 #[.int .i64 (dk:Int),.string ⟨dn.toArray⟩,.string ⟨dt.toArray⟩,.int .i64 (xk:Int),.int .i64 xn,.int .u64 (xd:Int),.string ⟨xs.toArray⟩,.slice xA xm xc,.slice uA um uc,.slice zA zm zc,.string ⟨de.toArray⟩,.slice qA qm qc] 56
       rw [hg10] at hb10
       have HB10:=Lib.hid hb10
       have HI9:Hid (HF b c A ws w2 gf (if PC=true then sepP ws sf else s1) (.slice iA im ic) (.slice sA sm sc) (.slice dA acc.length dc) a l acc (w8.alloc (.cells #[.int .i64 (dk:Int),.string ⟨dn.toArray⟩,.string ⟨dt.toArray⟩,.int .i64 (xk:Int),.int .i64 xn,.int .u64 (xd:Int),.string ⟨xs.toArray⟩,.slice xA xm xc,.slice uA um uc,.slice zA zm zc,.string ⟨de.toArray⟩,.slice qA qm qc] 56))):=HI8.out.nx' (nx0 _ _)
       have HGB:Hid (g10≠b):=by have:=HI8.out.pb.bw;unfold Hid;omega
       have HOWN2:Hid (∀ k,(Value.slice dA acc.length dc).ownBlock=some k→k<w7.heap.size):=fun k e=>(RepL.own_lt HI7.out.ld k e).2
       have HGF7:Hid (gf<w7.heap.size):=HI7.out.bl.lt
       have HRD9:Hid (RD (w8.alloc (.cells #[.int .i64 (dk:Int),.string ⟨dn.toArray⟩,.string ⟨dt.toArray⟩,.int .i64 (xk:Int),.int .i64 xn,.int .u64 (xd:Int),.string ⟨xs.toArray⟩,.slice xA xm xc,.slice uA um uc,.slice zA zm zc,.string ⟨de.toArray⟩,.slice qA qm qc] 56)) (But (Fm (gf+1)) (.slice dA acc.length dc)) ⟨dk,dn,dt,⟨xk,xn,xd,xs,.slice xA xm xc⟩,.slice uA um uc,.slice zA zm zc,de,.slice qA qm qc⟩ y') :=
        RD.lasts ⟨fun k _ hlt=>(nx0 w8 (.cells #[.int .i64 (dk:Int),.string ⟨dn.toArray⟩,.string ⟨dt.toArray⟩,.int .i64 (xk:Int),.int .i64 xn,.int .u64 (xd:Int),.string ⟨xs.toArray⟩,.slice xA xm xc,.slice uA um uc,.slice zA zm zc,.string ⟨de.toArray⟩,.slice qA qm qc] 56)).block k hlt,fun k hk _=>⟨by have:w7.heap.size≤k:=hk;have:=HGF7.out;show gf+1≤k;omega,fun e=>by have:=HOWN2.out k e;have:w7.heap.size≤k:=hk;omega⟩⟩ hrd
       clear hyy hrd hp8 ho8 hb10 HI7 HI8 HRD
       go_upto_region 11 with (fail)
       generalize World.alloc w8 _=w9 at *
       clear hg10
       obtain ⟨s3,hs3⟩:∃ s3,Hid ((if PC then sepP ws sf else failP 2 s1)=s3):=⟨_,rfl⟩
       have HY3:Hid (Lp ws (atDefP ws) 30 (defP ws) (finP ws) S' L' (acc++[y']) s3):=by
        have h3:=hs3.out
        cases PC
        ·have hend:=HLP.out.end_ hPC.out
         rw [fin_no HK6.out] at hend
         have e3:s3=S':=by rw [← h3,← hend.1];rfl
         have h4:S'.e≠0:=by rw [← hend.1];exact fail2_e s1
         rw [e3]
         exact Lp.mk_err HPE.out h4 HFE.out _
        ·have e3:sepP ws sf=s3:=h3
         rw [← e3]
         exact HLP.out.go hlt HPE.out HFE.out HPR.out HNO.out (fun h=>by rw [hPC.out] at h;cases h) hFP.out y' (fun h=>HYY.out rfl h)
       have HLT3:Hid (leftN s3<leftN s1):=by
        have h3:=hs3.out
        cases PC
        ·exact left_step hlt hfew HE.out (.inl (by rw [← h3];exact fail2_e s1))
        ·have e3:sepP ws sf=s3:=h3
         have hadv:=adv_def ws s1 HE.out
         rw [hFP.out] at hadv
         rw [← e3]
         refine left_step hlt hfew HE.out ?_
         rcases hadv with h | h
         ·exact .inl ((mo_sep ws sf).2 h)
         ·exact .inr (Nat.lt_of_lt_of_le h (mo_sep ws sf).1)
       go_upto_if 55 with (fail)
       go_cut [] (fun wx=>∃ w10,w10=wx∧HF b c A ws w2 gf s3 (.slice iA im ic) (.slice sA sm sc) (.slice dA acc.length dc) a l acc w10∧Blk w10 g10 g10 #[.int .i64 (dk:Int),.string ⟨dn.toArray⟩,.string ⟨dt.toArray⟩,.int .i64 (xk:Int),.int .i64 xn,.int .u64 (xd:Int),.string ⟨xs.toArray⟩,.slice xA xm xc,.slice uA um uc,.slice zA zm zc,.string ⟨de.toArray⟩,.slice qA qm qc] 56∧RD w10 (But (Fm (gf+1)) (.slice dA acc.length dc)) ⟨dk,dn,dt,⟨xk,xn,xd,xs,.slice xA xm xc⟩,.slice uA um uc,.slice zA zm zc,de,.slice qA qm qc⟩ y')
       case first =>
        have h3:=hs3.out
        cases PC
        ·have HI9':Hid (HF b c A ws w2 gf s1 (.slice iA im ic) (.slice sA sm sc) (.slice dA acc.length dc) a l acc w9):=HI9.out
         obtain rfl:failP 2 s1=s3:=h3
         go_wp2_with fail
         refine (dfail_any HI9'.out.pb 2 (by decide) (by decide)).mono ?_;rintro e w10 ⟨rfl,hp10,ho10⟩
         have HI10:=Lib.hid (HI9'.out.step hp10 ho10)
         have HB11:=Lib.hid (ho10.blk HB10.out HGB.out)
         have HRD10:=Lib.hid (RD.lasts ((Mv.oth ho10 (Nat.le_refl (gf+1)) (by have:=HI9'.out.hb;omega)).but (.slice dA acc.length dc)) HRD9.out)
         clear hp10 ho10
         go_wp2_with fail
         go_meet
         case rel=>exact ⟨_,rfl,HI10.out,HB11.out,HRD10.out⟩
        ·obtain rfl:sepP ws sf=s3:=h3
         go_wp2_with fail
         go_meet
         case rel=>exact ⟨_,rfl,HI9.out,HB10.out,HRD9.out⟩
       case rest =>
       obtain ⟨w10,hw10,hI10,hB10,hR10⟩:=hcut
       subst hw10
       have HI10:=Lib.hid hI10
       have HR10:=Lib.hid hR10
       obtain ⟨d0,d1,d2,d3,d4,d5,d6,d7,d8,d9,d10,d11,-⟩:=cellsD12 hB10
       have k2:w10.cell? ⟨gf,2,none⟩=some (.slice dA acc.length dc):=hI10.bl.cell 2
       have HONE:Hid (∀ u ∈ (dfnA ⟨dk,dn,dt,⟨xk,xn,xd,xs,.slice xA xm xc⟩,.slice uA um uc,.slice zA zm zc,de,.slice qA qm qc⟩).toList,u.oneCell'=true):=fun u hu=>by
        simp [dfnA,bt] at hu
        rcases hu with rfl | rfl | rfl | rfl | rfl | rfl | rfl | rfl | rfl | rfl | rfl | rfl <;> rfl
       have HSZ:Hid (gf+1≤w10.heap.size):=hI10.bl.lt
       have HHB2:Hid (b<gf+1):=by have:=hI10.hb;unfold Hid;omega
       clear hI10 hR10 hB10 HI9 HB10 HRD9
       go_wp2_with (at_builtin;go_must (refine wpList_appL _ RD.lasts infoD Tryz.underlying72 rfl (by decide) (by decide) dfnA_size rfl _ _ rfl (gf+1) b (.slice dA acc.length dc) acc ⟨dk,dn,dt,⟨xk,xn,xd,xs,.slice xA xm xc⟩,.slice uA um uc,.slice zA zm zc,de,.slice qA qm qc⟩ y' rfl (RepL.nx RD.lasts HI10.out.ld (nx0 _ _)) HONE.out _ rfl (fun j hj=>cell_newP (by simp)) (RD.lasts (Mv.but (Mv.nx (nx0 _ _) (Nat.le_refl _)) _) HR10.out) (by omega) (Nat.le_trans HSZ.out (nx0 _ _).size) HHB2.out ?_;intro v2 w11 hl2 hf2 hk2;obtain ⟨dA2,dc2,-,hv2,-,-,-,-,-⟩:=RepL.sl dfnA_size hl2;obtain rfl:v2 = .slice dA2 (acc.length+1) dc2:=(by rw [hv2,List.length_append];rfl);obtain ⟨hbg,hIg⟩:=(HI10.out.nx' (nx0 _ _)).addD hl2 hf2 hk2;have HIG:=Lib.hid hIg;have c9:w11.cell? ⟨gf,2,none⟩=some (.slice dA acc.length dc):=hbg.cell 2;have f9:=hbg.free 2;clear hl2 hf2 hk2 hbg hIg hv2))
       go_roundw
       case rel =>
        refine ⟨s3,_,acc++[y'],HIG.out,HY3.out,?_,fun h=>absurd HE.out (HSH.out h)⟩
        have:=HLT3.out
        have:=HL30.out
        have:=HN1.out
        rw [List.length_append]
        simp
        omega
       case measure=>rw [HIG.out.pb.left,HLEFT.out];exact HLT3.out
      ·have h1:N30=true∧PC=true:=by have:=hQQ.out;simpa using this
       obtain ⟨rfl,rfl⟩:=h1
       have h30:acc.length=30:=by have:=hN30.out;rw [beq_iff_eq] at this;omega
       have HOV:=Lib.hid (HLP.out.over hlt HPE.out HFE.out h30 hPC.out)
       clear hQQ hN30 h30
       go_wp2_with fail
       refine (dfail_any HI7.out.pb 4 (by decide) (by decide)).mono ?_;rintro e w8 ⟨rfl,hp8,ho8⟩
       have HI8:=Lib.hid (HI7.out.step hp8 ho8)
       clear hp8 ho8
       go_wp2_with fail
       go_meet
       case rel =>
        have h4:(failP 4 s1).e≠0:=fail_ne 4 (by decide) s1
        exact ⟨_,acc,HOV.out ▸ HI8.out,fun h=>absurd (HOV.out ▸ h) h4,fun h=>absurd (HOV.out ▸ h) h4⟩
    ·have b0:((s1.e:Int) == 0)=false:=by rw [beq_eq_false_iff_ne];omega
     have HEND:=Lib.hid (HLP.out.stop HPE.out he)
     have HFS:=Lib.hid (fin_err (ws:=ws) he)
     have HNE:=Lib.hid he
     clear he
     go_wp2_with fail
     go_meet
     case rel =>
      have h1:s1=S':=by rw [← HEND.out.1,HFS.out]
      exact ⟨_,acc,h1 ▸ HI.out,HEND.out.2,fun h=>absurd (h1 ▸ h) HNE.out⟩
  case rest =>
  obtain ⟨vd,L,hI,HL1,HSH⟩:=hcut
  obtain ⟨dA,dc,-,rfl,-,-,-,-,-⟩:=hI.ld.sl dfnA_size
  have HI:=Lib.hid hI
  have hR:=(HB3.out.below hI.nx)
  have HR:=Lib.hid hR
  have c2:=hI.pb.c2
  clear hI hR HI5 HLP0
  have hx:=HX.out
  by_cases he:S'.e=0
  ·rw [if_neg (by simpa using he)] at hx
   simp only [Prod.mk.injEq] at hx
   obtain ⟨rfl,rfl,rfl⟩:=hx
   have b0:((S'.e:Int) != 0)=false:=by rw [he];rfl
   have HE:=Lib.hid he
   obtain ⟨hA,hB⟩:=HAB.out (HSH.out he)
   have hL:=HL1.out he
   subst hA hB hL
   have d0:wc.cell? ⟨gf,0,none⟩=some (.slice iA im ic):=HI.out.bl.cell 0
   have d1:wc.cell? ⟨gf,1,none⟩=some (.slice sA sm sc):=HI.out.bl.cell 1
   have d2:wc.cell? ⟨gf,2,none⟩=some (.slice dA L.length dc):=HI.out.bl.cell 2
   have r0:wc.cell? ⟨g2,0,none⟩=some (.slice none 0 0):=HR.out.cell 0
   have r1:wc.cell? ⟨g2,1,none⟩=some (.slice none 0 0):=HR.out.cell 1
   have r2:wc.cell? ⟨g2,2,none⟩=some (.slice none 0 0):=HR.out.cell 2
   have f0:=HR.out.free 0
   have f1:=HR.out.free 1
   have f2:=HR.out.free 2
   clear he
   go_wp2_with fail
   refine bodyPost_ret (results_cell_tmp2_rowP rfl _ _ g2 _ _ _ _ rfl (((HR.out.put 0 (.slice iA im ic)).put 1 (.slice sA sm sc)).put 2 (.slice dA L.length dc)).2 Tryz.underlying74 rfl (by kernel_rfl)) rfl ?_
   have HW:=(Oth.refl g2 wc).own (i:=0) (v:=.slice iA im ic) |>.own (i:=1) (v:=.slice sA sm sc) |>.own (i:=2) (v:=.slice dA L.length dc)
   exact ⟨⟨.slice iA im ic,.slice sA sm sc,.slice dA L.length dc⟩,rfl,RFile.lasts (Mv.oth HW (show w.heap.size≤gf+1 by have:=HG2.out;have:=HG2F.out;omega) (show g2<gf+1 by have:=HG2F.out;omega)) ⟨HI.out.li,HI.out.ls,HI.out.ld⟩,HW.to (HN3.out.trans HI.out.nx) HG2.out⟩
  ·rw [if_pos he] at hx
   simp only [Prod.mk.injEq] at hx
   obtain ⟨rfl,rfl,hpa⟩:=hx
   have b0:((S'.e:Int) != 0)=true:=by rw [bne_iff_ne];omega
   have c3:=HI.out.pb.c3
   have HAE:Hid (atE ws S'=(ws.getD S'.i tok0).p):=by unfold Hid atE;rw [if_neg he]
   rw [HAE.out,hpa] at c3
   have r0:wc.cell? ⟨g2,0,none⟩=some (.slice none 0 0):=HR.out.cell 0
   have r1:wc.cell? ⟨g2,1,none⟩=some (.slice none 0 0):=HR.out.cell 1
   have r2:wc.cell? ⟨g2,2,none⟩=some (.slice none 0 0):=HR.out.cell 2
   have f0:=HR.out.free 0
   have f1:=HR.out.free 1
   have f2:=HR.out.free 2
   have hbg:b≠g2:=by have:=HR.out.lt;have:=HI.out.h0;have:=HB3.out.lt;omega
   have hbg2:g2≠b:=hbg.symm
   clear he HAE hpa
   go_wp2_with fail
   go_region
   all_goals
    go_wp2_with fail
    refine bodyPost_ret (results_cell_tmp2_rowP rfl _ _ g2 _ _ _ _ rfl ((((HR.out.put 0 (.slice none 0 0)).put 1 (.slice none 0 0)).put 2 (.slice none 0 0)).drew 1).2 Tryz.underlying74 rfl (by kernel_rfl)) rfl ?_
    have HW:=(Oth.refl g2 wc).own (i:=0) (v:=.slice none 0 0) |>.own (i:=1) (v:=.slice none 0 0) |>.own (i:=2) (v:=.slice none 0 0)
    exact ⟨⟨.slice none 0 0,.slice none 0 0,.slice none 0 0⟩,rfl,rfile0,(HW.to (HN3.out.trans HI.out.nx) HG2.out).dr 1⟩
 ·have b0:((le:Int) != 0)=true:=by rw [bne_iff_ne];omega
  have hx:=HPP.out
  rw [if_pos hle] at hx
  simp only [Prod.mk.injEq] at hx
  obtain ⟨rfl,rfl,rfl⟩:=hx
  have r0:w2.cell? ⟨g2,0,none⟩=some (.slice none 0 0):=HB3.out.cell 0
  have r1:w2.cell? ⟨g2,1,none⟩=some (.slice none 0 0):=HB3.out.cell 1
  have r2:w2.cell? ⟨g2,2,none⟩=some (.slice none 0 0):=HB3.out.cell 2
  have f0:=HB3.out.free 0
  have f1:=HB3.out.free 1
  have f2:=HB3.out.free 2
  clear hle
  go_wp2_with fail
  refine bodyPost_ret (results_cell_tmp2_rowP rfl _ _ g2 _ _ _ _ rfl (((HB3.out.put 0 (.slice none 0 0)).put 1 (.slice none 0 0)).put 2 (.slice none 0 0)).2 Tryz.underlying74 rfl (by kernel_rfl)) rfl ?_
  exact ⟨⟨.slice none 0 0,.slice none 0 0,.slice none 0 0⟩,rfl,rfile0,((HN3.out.put' HG2.out 0 _).put' HG2.out 1 _).put' HG2.out 2 _⟩
theorem docOk_of {t:List UInt8} (h:LexOk t):DocOk t:=fun s ht w=>dparse_of w s t ht h
end Go.Proofs.YtpfecpcgdfbekaaGreatDoor
namespace Go.Proofs.YtpfecpcgdfbekaaGreatDoor
open Go.RowKit
def numB (l:List UInt8):Bool:=(List.range l.length).all fun o=>decide (decN (l.drop o)=0) || (decide (hexN (l.drop o)=0) && wholeB ((l.drop o).take (decN (l.drop o))) && !isE ((l.drop o).drop (decN (l.drop o))))
theorem numOk_of (s:ByteArray) (l:List UInt8) (hl:Tx s l) (hs:(l.length:Int)≤7000) (h:numB l=true):NumOk s l:=by
 intro b o w hB ho hd
 have h1:=List.all_eq_true.1 h o (List.mem_range.2 ho)
 simp only [Bool.or_eq_true,decide_eq_true_eq,Bool.and_eq_true,Bool.not_eq_true'] at h1
 rcases h1 with h1 | ⟨⟨h1,h2⟩,h3⟩
 ·exact absurd h1 hd
 ·refine refNumber_whole b s l o w hB hl ho hs hd h1 h2 (fun S D F X hP=>?_)
  have hw:=hP.whole
  rw [h2] at hw
  have hfx:F=0∧X=0:=by simpa using hw.symm
  have e:=hP.len.1
  rw [List.drop_drop,e] at h3
  rw [← h3]
  congr 2
  omega
theorem lexOk_of (l:List UInt8) (hs:(l.length:Int)≤140737488355328) (h:numB l=true):LexOk l:=fun s hl w=>refLex_of s l (fun h2=>numOk_of s l hl (by omega) h) w hl hs
theorem docOk_w (l:List UInt8) (hs:(l.length:Int)≤140737488355328) (h:numB l=true):DocOk l:=docOk_of (lexOk_of l hs h)
end Go.Proofs.YtpfecpcgdfbekaaGreatDoor
