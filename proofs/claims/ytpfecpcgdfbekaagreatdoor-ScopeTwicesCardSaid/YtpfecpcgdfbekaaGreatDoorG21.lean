/- The contracts of the document's parser: the head of a file; what definitions begin with. How many words there are. Plain lemmas. The contract of parse.Parse (what is plain of it). What is asked of the document's parser at a text. -/
import Derived.Test.YtpfecpcgdfbekaaGreatDoorG19
import Derived.Test.YtpfecpcgdfbekaaGreatDoorG20
import Derived.Test.YtpfecpcgdfbekaaGreatDoorG00
import Derived.Test.YtpfecpcgdfbekaaGreatDoorG09
import Derived.Laws.Rows
import Derived.Laws.ResultCell
import Derived.Test.YtpfecpcgdfbekaaGreatDoorG11
import Derived.BigRegion
import Derived.Test.YtpfecpcgdfbekaaGreatDoorG08
import Derived.Test.YtpfecpcgdfbekaaGreatDoorG12
set_option linter.unusedVariables false
set_option linter.unusedSimpArgs false
set_option linter.unnecessarySimpa false
namespace Go.Proofs.YtpfecpcgdfbekaaGreatDoor
open Go.RowKit
def dwB:List (List UInt8):=[[116,121,112,101,100,101,102],[99,111,110,115,116],[101,110,117,109],[115,116,114,117,99,116],[117,110,105,111,110],[101,120,99,101,112,116,105,111,110],[115,101,114,118,105,99,101]]
def dwA:Array Value:=#[.string ⟨#[116,121,112,101,100,101,102]⟩,.string ⟨#[99,111,110,115,116]⟩,.string ⟨#[101,110,117,109]⟩,.string ⟨#[115,116,114,117,99,116]⟩,.string ⟨#[117,110,105,111,110]⟩,.string ⟨#[101,120,99,101,112,116,105,111,110]⟩,.string ⟨#[115,101,114,118,105,99,101]⟩]
theorem dw_at (i:Nat) (hi:i<7):∃ (u:ByteArray) (x:UInt8) (r:List UInt8),dwA[i]? = some (.string u)∧Tx u (x :: r)∧dwB[i]? = some (x :: r)∧ltB x=true∧defK (x :: r)≠0:=by
 rcases (show i=0∨i=1∨i=2∨i=3∨i=4∨i=5∨i=6 by omega) with rfl | rfl | rfl | rfl | rfl | rfl | rfl <;> exact ⟨_,_,_,rfl,rfl,rfl,by decide,by decide⟩
section
variable {w:World} {b c:Nat} {A:Option Addr} {ws:List TokV} {s:PSt}
set_option maxRecDepth 100000 in
set_option maxHeartbeats 3200000 in
theorem ddefines_any (h0:PB w b A c ws s) (B:Bool) (hB:atDefP ws s=B) :
  Calls Tryz.prog 53 #[.pointer (some ⟨b,0,none⟩)] w fun e w'=>e = .returned (.bool B)∧Nx w w':=by
 have H:=Lib.hid h0
 have HOK:Hid (WOk ws):=h0.ok
 have HG:=Lib.hid dw_at
 have HBB:=Lib.hid hB
 clear h0 hB
 go_enter Tryz.func53,Tryz.ntmps53
 go_wp2_with fail
 obtain ⟨g,hg⟩:∃ g,w.heap.size=g:=⟨_,rfl⟩
 rw [hg]
 generalize hW:World.alloc w _=W
 have hB0:Blk W g g dwA 9:=by rw [← hW,← hg];exact Blk.new w dwA _
 have hN:Nx w W:=by rw [← hW];exact nx0 _ _
 have HB0:=Lib.hid hB0
 have HN:=Lib.hid hN
 clear hB0 hN hg hW
 go_loopw [4] (fun v wr=>∃ i:Nat,v = .int .i64 i∧i≤7∧Hid (∀ x ∈ dwB.take i,isP ws x s=false)∧Nx W wr) (fun v _=>(7 - intOf v).toNat)
 case atStart=>exact ⟨0,rfl,by decide,by intro x hx;simp at hx,Nx.refl _⟩
 case round =>
  obtain ⟨i,rfl,hi,HNO,hnx⟩:=hrel
  have HNX:=Lib.hid hnx
  clear hnx
  by_cases hlt:i<7
  ·obtain ⟨u,x,r,h1,h2,h3,h4,h5⟩:=HG.out i hlt
   have c1:wr.cell? ⟨g,i,none⟩=some (.string u):=by rw [(HB0.out.below HNX.out).cell i];exact h1
   have hltI:(i:Int)<7:=by omega
   obtain ⟨Q,hQ⟩:∃ Q,isP ws (x :: r) s=Q:=⟨_,rfl⟩
   have HC:=Lib.hid (dword_any (H.out.nx (HN.out.trans HNX.out)) u x r h2 h4 Q hQ)
   cases Q
   ·have hNO2:Hid (∀ x ∈ dwB.take (i+1),isP ws x s=false):=by
     intro y hy
     rw [List.take_add_one,List.mem_append] at hy
     rcases hy with hy | hy
     ·exact HNO.out y hy
     ·rw [h3] at hy
      simp at hy
      subst hy;exact hQ
    clear h1 h2 h3 h4 h5 hQ HNO
    go_wp2_with fail
    refine HC.out.mono ?_;rintro e w' ⟨rfl,hn'⟩
    go_wp2_with fail
    go_roundw
    case rel=>exact ⟨i+1,by go_num,hlt,hNO2,HNX.out.trans hn'⟩
    case measure=>simp [intOf];omega
   ·have hBt:B=true:=by
     rw [← HBB.out]
     cases hd:atDefP ws s
     ·rw [def_none HOK.out hd x r h4 h5] at hQ;cases hQ
     ·rfl
    subst hBt
    clear h1 h2 h3 h4 h5 hQ HNO
    go_wp2_with fail
    refine HC.out.mono ?_;rintro e w' ⟨rfl,hn'⟩
    go_wp2_with fail
    go_ret
    exact ⟨rfl,(HN.out.trans HNX.out).trans hn'⟩
  ·obtain rfl:i=7:=by omega
   have hBf:B=false:=by
    rw [← HBB.out,Bool.eq_false_iff]
    intro hd
    unfold atDefP at hd
    simp only [Bool.and_eq_true,decide_eq_true_eq] at hd
    have hn:=hd.1
    unfold atNameP at hn
    simp only [decide_eq_true_eq] at hn
    have hm:(wordP ws s).t ∈ dwB:=by
     rcases defK_one _ hd.2 with h | h | h | h | h | h | h <;> (rw [h];decide)
    have:=HNO.out _ (by rw [List.take_of_length_le (by decide)];exact hm)
    unfold isP at this
    rw [hn] at this
    simp at this
   subst hBf
   clear hlt hi HNO
   go_wp2_with fail
   go_ret
   exact ⟨rfl,HN.out.trans HNX.out⟩
end
section
variable {α:Type} {f:α→Array Value} {k:Nat} {T:TypeId} {w w':World} {P Q:Nat→Prop} {v:Value} {l:List α}
theorem RepL.eq_own (h:RepL f k T (REq (α:=α)) w P v l) (hq:∀ g,v.ownBlock=some g→Q g) (hk:∀ g,v.ownBlock=some g→w'.heap[g]? = w.heap[g]?):RepL f k T (REq (α:=α)) w' Q v l:=by
 obtain ⟨xs,h1,h2⟩:=h
 exact ⟨xs,⟨h1.1.keep hk,hq⟩,h2.mono fun _ _ h=>h⟩
end
structure HH (b c:Nat) (A:Option Addr) (ws:List TokV) (w0:World) (gf:Nat) (s:PSt) (vi vs:Value) (a:List (List UInt8)) (l:List Spc) (w:World):Prop where
 pb:PB w b A c ws s
 bl:Blk w gf gf #[vi,vs,.slice none 0 0] 74
 li:LT w (Fm (gf+1)) vi a
 ls:LS w (Fm (gf+1)) vs l
 n1:∀ k,vi.ownBlock=some k→vs.ownBlock≠some k
 nx:Nx w0 w
 hb:b<gf
 h0:w0.heap.size≤b
section
variable {b c gf:Nat} {A:Option Addr} {ws:List TokV} {w0 w w' w'':World} {s s':PSt} {vi vs vi' vs':Value} {a a':List (List UInt8)} {l l':List Spc}
theorem Nx.oth {w w1 w':World} {b:Nat} (h:Nx w w1) (ho:Oth b w1 w') (hb:w.heap.size≤b):Nx w w':=ho.to h hb
theorem HH.step (h:HH b c A ws w0 gf s vi vs a l w) (hp:PB w' b A c ws s') (ho:Oth b w w'):HH b c A ws w0 gf s' vi vs a l w' :=
 ⟨hp,ho.blk h.bl (by have:=h.hb;omega),LT.lasts (Mv.oth ho (Nat.le_refl _) (by have:=h.hb;omega)) h.li,LS.lasts (Mv.oth ho (Nat.le_refl _) (by have:=h.hb;omega)) h.ls,h.n1,h.nx.oth ho h.h0,h.hb,h.h0⟩
theorem HH.nx' (h:HH b c A ws w0 gf s vi vs a l w) (hn:Nx w w'):HH b c A ws w0 gf s vi vs a l w':=h.step (h.pb.nx hn) (Oth.nx hn)
theorem HH.addI (h:HH b c A ws w0 gf s vi vs a l w) (hl:LT w' (Fm (gf+1)) vi' a') (hf:Fr b vi w vi' w') (hk:∀ k,k<w.heap.size→vi.ownBlock≠some k→w'.heap[k]? = w.heap[k]?) (hn:Nx w' w'') :
  Blk w'' gf gf #[vi,vs,.slice none 0 0] 74∧HH b c A ws w0 gf s vi' vs a' l (w''.setCell ⟨gf,0,none⟩ vi'):=by
 have hv:∀ g,vi.ownBlock=some g→gf+1≤g:=fun g e=>(RepL.own_lt h.li g e).1
 have hvs:=RepL.own_lt h.ls
 have h1:=h.hb
 have h2:=h.h0
 have hbl:Blk w' gf gf #[vi,vs,.slice none 0 0] 74:=⟨h.bl.1,(hk gf h.bl.lt (fun e=>by have:=hv _ e;omega)).trans h.bl.2⟩
 have hpb:PB w' b A c ws s:=h.pb.fr hf hv (by omega) hk
 have hls:LS w' (Fm (gf+1)) vs l:=RepL.eq_own h.ls (fun g e=>(hvs g e).1) (fun g e=>hk g (hvs g e).2 (fun e2=>h.n1 g e2 e))
 have hnx:Nx w0 w':=⟨hf.os.trans h.nx.os,hf.tape.trans h.nx.tape,hf.output.trans h.nx.output,Nat.le_trans h.nx.size hf.size,fun k hlt=>(hk k (Nat.lt_of_lt_of_le hlt h.nx.size) (fun e=>by have:=hv _ e;omega)).trans (h.nx.block k hlt)⟩
 have hw:=Oth.set w'' gf 0 vi'
 have hm:Mv (Fm (gf+1)) (Fm (gf+1)) w' (w''.setCell ⟨gf,0,none⟩ vi'):=⟨fun g hg hlt=>(hw.block g (Nat.lt_of_lt_of_le hlt hn.size) (by have:gf+1≤g:=hg;omega)).trans (hn.block g hlt),fun g hg _=>hg⟩
 refine ⟨hbl.below hn,(hpb.nx hn).apart hw h1,(hbl.below hn).put 0 _,LT.lasts hm hl,LS.lasts hm hls,fun k e e2=>?_,(hnx.trans hn).oth hw (by omega),h1,h2⟩
 rcases hf.own k e with h3 | h3
 ·exact h.n1 k h3 e2
 ·have:=(hvs k e2).2;omega
theorem HH.addS (h:HH b c A ws w0 gf s vi vs a l w) (hl:LS w' (Fm (gf+1)) vs' l') (hf:Fr b vs w vs' w') (hk:∀ k,k<w.heap.size→vs.ownBlock≠some k→w'.heap[k]? = w.heap[k]?) (hn:Nx w' w'') :
  Blk w'' gf gf #[vi,vs,.slice none 0 0] 74∧HH b c A ws w0 gf s vi vs' a l' (w''.setCell ⟨gf,1,none⟩ vs'):=by
 have hv:∀ g,vs.ownBlock=some g→gf+1≤g:=fun g e=>(RepL.own_lt h.ls g e).1
 have hvi:=RepL.own_lt h.li
 have h1:=h.hb
 have h2:=h.h0
 have hbl:Blk w' gf gf #[vi,vs,.slice none 0 0] 74:=⟨h.bl.1,(hk gf h.bl.lt (fun e=>by have:=hv _ e;omega)).trans h.bl.2⟩
 have hpb:PB w' b A c ws s:=h.pb.fr hf hv (by omega) hk
 have hli:LT w' (Fm (gf+1)) vi a:=RepL.eq_own h.li (fun g e=>(hvi g e).1) (fun g e=>hk g (hvi g e).2 (fun e2=>h.n1 g e e2))
 have hnx:Nx w0 w':=⟨hf.os.trans h.nx.os,hf.tape.trans h.nx.tape,hf.output.trans h.nx.output,Nat.le_trans h.nx.size hf.size,fun k hlt=>(hk k (Nat.lt_of_lt_of_le hlt h.nx.size) (fun e=>by have:=hv _ e;omega)).trans (h.nx.block k hlt)⟩
 have hw:=Oth.set w'' gf 1 vs'
 have hm:Mv (Fm (gf+1)) (Fm (gf+1)) w' (w''.setCell ⟨gf,1,none⟩ vs'):=⟨fun g hg hlt=>(hw.block g (Nat.lt_of_lt_of_le hlt hn.size) (by have:gf+1≤g:=hg;omega)).trans (hn.block g hlt),fun g hg _=>hg⟩
 refine ⟨hbl.below hn,(hpb.nx hn).apart hw h1,(hbl.below hn).put 1 _,LT.lasts hm hli,LS.lasts hm hl,fun k e e2=>?_,(hnx.trans hn).oth hw (by omega),h1,h2⟩
 rcases hf.own k e2 with h3 | h3
 ·exact h.n1 k e h3
 ·have:=(hvi k e).2;omega
end
section
variable {b c gf:Nat} {A:Option Addr} {ws:List TokV}
theorem spc_parts (s:PSt):spcP ws s=(⟨(if isP ws [42] (nextP s) then ([42],nextP (nextP s)) else qualN ws (nextP s)).1,(qualN ws (if isP ws [42] (nextP s) then ([42],nextP (nextP s)) else qualN ws (nextP s)).2).1⟩,(qualN ws (if isP ws [42] (nextP s) then ([42],nextP (nextP s)) else qualN ws (nextP s)).2).2):=by
 unfold spcP
 dsimp only
 have h:(if isP ws [42] (nextP s)=true then ((wordP ws (nextP s)).t,nextP (nextP s)) else qualN ws (nextP s))=(if isP ws [42] (nextP s)=true then ([42],nextP (nextP s)) else qualN ws (nextP s)):=by
  by_cases h1:isP ws [42] (nextP s)=true
  ·rw [if_pos h1,if_pos h1]
   unfold isP at h1
   simp only [Bool.and_eq_true,decide_eq_true_eq] at h1
   rw [h1.2]
  ·rw [if_neg h1,if_neg h1]
 rw [h]
set_option maxRecDepth 100000 in
set_option maxHeartbeats 25600000 in
theorem dhead_any {w0 w:World} {s:PSt} (h0:HH b c A ws w0 gf s (.slice none 0 0) (.slice none 0 0) [] [] w) (A':List (List UInt8)) (B':List Spc) (s':PSt) (hr:headsP ws (ws.length+1) [] [] s=((A',B'),s')) :
  Calls Tryz.prog 51 #[.pointer (some ⟨b,0,none⟩),.pointer (some ⟨gf,0,none⟩)] w fun e w'=>e = .returned (.tuple #[])∧∃ vi vs a l,HH b c A ws w0 gf s' vi vs a l w'∧(s'.e=0→a=A'∧l=B'):=by
 have HOK:Hid (WOk ws):=h0.pb.ok
 have HP0:Hid (Hp ws s' A' B' [] [] s):=Hp.start (by rw [hr]) (fun _=>by rw [hr])
 have HI0:=Lib.hid h0
 clear h0 hr
 go_enter Tryz.func51,Tryz.ntmps51
 go_wp2_with fail
 go_loopw [] (fun wr=>∃ (s1:PSt) (vi vs:Value) (a:List (List UInt8)) (l:List Spc),HH b c A ws w0 gf s1 vi vs a l wr∧Hid (Hp ws s' A' B' a l s1)∧a.length≤3000 - leftN s1∧l.length≤3000 - leftN s1) (fun wr=>leftP b wr)
 case atStart=>exact ⟨s,_,_,[],[],HI0.out,HP0.out,Nat.zero_le _,Nat.zero_le _⟩
 case round =>
  obtain ⟨s1,vi,vs,a,l,hI,HP,hn1,hn2⟩:=hrel
  have HI:=Lib.hid hI
  obtain ⟨iA,ic,-,rfl,-,-,-,-,-⟩:=hI.li.sl strA_size
  obtain ⟨sA,sc,-,rfl,-,-,-,-,-⟩:=hI.ls.sl spcA_size
  have c2:=hI.pb.c2
  have HLEFT:=Lib.hid hI.pb.left
  have hlt:=hI.pb.lt
  have hfew:=hI.pb.fin.few
  have HL30:Hid (leftN s1≤3000):=by unfold Hid leftN;split <;> omega
  have haI:(a.length:Int)≤3000:=by omega
  have hlI:(l.length:Int)≤3000:=by omega
  have HN1:=Lib.hid hn1
  have HN2:=Lib.hid hn2
  clear hI hn1 hn2
  by_cases he:s1.e=0
  ·have b0:((s1.e:Int) == 0)=true:=by rw [he];rfl
   have HE:=Lib.hid he
   obtain ⟨BI,hBI⟩:∃ B,Hid (isP ws kInclude s1=B):=⟨_,rfl⟩
   obtain ⟨BN,hBN⟩:∃ B,Hid (isP ws kNamespace s1=B):=⟨_,rfl⟩
   clear he
   go_wp2_with fail
   refine (dword_any HI.out.pb _ 105 [110,99,108,117,100,101] (Tx.of kInclude) (by decide) BI hBI.out).mono ?_;rintro e w2 ⟨rfl,hn2⟩
   have HI2:=Lib.hid (HI.out.nx' hn2)
   clear hn2 c2
   cases BI
   ·go_wp2_with fail
    refine (dword_any HI2.out.pb _ 110 [97,109,101,115,112,97,99,101] (Tx.of kNamespace) (by decide) BN hBN.out).mono ?_;rintro e w3 ⟨rfl,hn3⟩
    have HI3:=Lib.hid (HI2.out.nx' hn3)
    clear hn3
    cases BN
    ·
     have HEND:=Lib.hid (HP.out.end_ hBI.out hBN.out)
     go_wp2_with fail
     go_end0
     refine ⟨rfl,.slice iA a.length ic,.slice sA l.length sc,a,l,?_,HEND.out.2⟩
     rw [← HEND.out.1];exact HI3.out
    ·
     go_wp2_with fail
     refine (dword_any HI3.out.pb _ 105 [110,99,108,117,100,101] (Tx.of kInclude) (by decide) false hBI.out).mono ?_;rintro e w4 ⟨rfl,hn4⟩
     have HI4:=Lib.hid (HI3.out.nx' hn4)
     clear hn4
     go_wp2_with fail
     refine (dword_any HI4.out.pb _ 110 [97,109,101,115,112,97,99,101] (Tx.of kNamespace) (by decide) true hBN.out).mono ?_;rintro e w5 ⟨rfl,hn5⟩
     have HI5:=Lib.hid (HI4.out.nx' hn5)
     have k1:w5.cell? ⟨gf,1,none⟩=some (.slice sA l.length sc):=HI5.out.bl.cell 1
     clear hn5 HI2 HI3 HI4
     by_cases h5:l.length=5
     ·have q5:((l.length:Int) == 5)=true:=by rw [beq_iff_eq];omega
      have HOV:=Lib.hid (HP.out.overS hlt hBI.out hBN.out h5)
      go_wp2_with fail
      refine (dfail_any HI5.out.pb 4 (by decide) (by decide)).mono ?_;rintro e w6 ⟨rfl,hp6,ho6⟩
      go_wp2_with fail
      refine bodyPost_ret (results_noneD rfl _ _) rfl ?_
      have h4:(failP 4 s1).e≠0:=fail_ne 4 (by decide) s1
      exact ⟨rfl,_,_,a,l,HOV.out ▸ HI5.out.step hp6 ho6,fun h=>absurd (HOV.out ▸ h) h4⟩
     ·have q5:((l.length:Int) == 5)=false:=by rw [beq_eq_false_iff_ne];omega
      have HH5:=Lib.hid h5
      obtain ⟨hE0,hK6⟩:=is_next (ws:=ws) hBN.out
      have HK6:=Lib.hid hK6
      clear h5 hE0 hK6
      go_wp2_with fail
      refine (dtook_any HI5.out.pb _ 105 [110,99,108,117,100,101] (Tx.of kInclude) (by decide) false hBI.out).mono ?_;rintro e w6 ⟨rfl,hp6,ho6⟩
      have HI6:Hid (HH b c A ws w0 gf s1 (.slice iA a.length ic) (.slice sA l.length sc) a l w6):=HI5.out.step hp6 ho6
      clear hp6 ho6 HI5 k1
      go_wp2_with fail
      refine (dnext_any HI6.out.pb HE.out HK6.out).mono ?_;rintro e w7 ⟨rfl,hp7,ho7⟩
      have HI7:=Lib.hid (HI6.out.step hp7 ho7)
      obtain ⟨g,hg⟩:∃ g,w7.heap.size=g:=⟨_,rfl⟩
      have HS7:Hid (SD b c A ws g 159 w7 (nextP s1) #[.string ⟨#[42]⟩,.string ⟨#[]⟩] (w7.alloc (.cells #[.string ⟨#[42]⟩,.string ⟨#[]⟩] 159))):=SD.new hp7 hg
      clear hp7 ho7 HI6
      go_upto_region 11 with (fail)
      generalize World.alloc w7 _=w8 at *
      clear hg
      obtain ⟨BS,hBS⟩:∃ B,Hid (isP ws [42] (nextP s1)=B):=⟨_,rfl⟩
      obtain ⟨⟨lo,sb⟩,h2⟩:∃ r,Hid ((if BS then ([42],nextP (nextP s1)) else qualN ws (nextP s1))=r):=⟨_,rfl⟩
      obtain ⟨⟨ln,sf⟩,h3⟩:∃ r,Hid (qualN ws sb=r):=⟨_,rfl⟩
      have HSP:Hid (spcP ws s1=(⟨lo,ln⟩,sf)):=by unfold Hid;rw [spc_parts,hBS.out,h2.out];dsimp only;rw [h3.out]
      go_wp2_with fail
      refine (dskip_any HS7.out.pc _ 42 (Tx.of [42]) (by decide) BS hBS.out).mono ?_;rintro e w9 ⟨rfl,hp9,ho9⟩
      have HS9:=Lib.hid (HS7.out.step hp9 ho9)
      clear hp9 ho9 HS7
      go_upto_if 76 with (fail)
      go_cut [] (fun wx=>SD b c A ws g 159 w7 sb #[.string ⟨lo.toArray⟩,.string ⟨#[]⟩] wx)
      case first =>
       have hx:=h2.out
       cases BS
       ·rw [if_neg (by decide)] at hx
        have HX:=Lib.hid hx
        have HS9':Hid (SD b c A ws g 159 w7 (nextP s1) #[.string ⟨#[42]⟩,.string ⟨#[]⟩] w9):=HS9.out
        clear hx
        go_wp2_with fail
        refine (dfar_any HS9'.out.pc lo sb HX.out).mono ?_;rintro e w10 ⟨rfl,hp10,ho10⟩
        have HS10:=Lib.hid (HS9'.out.step hp10 ho10)
        have c0:w10.cell? ⟨g,0,none⟩=some (.string ⟨#[42]⟩):=HS10.out.ce 0
        have f0:=HS10.out.fr 0
        clear hp10 ho10
        go_wp2_with fail
        go_meet
        case rel=>exact HS10.out.put 0 _ rfl
       ·rw [if_pos rfl] at hx
        simp only [Prod.mk.injEq] at hx
        obtain ⟨rfl,rfl⟩:=hx
        go_wp2_with fail
        go_meet
        case rel=>exact HS9.out
      case rest =>
      have HS11:=Lib.hid hcut
      clear hcut HS9
      go_wp2_with fail
      refine (dfar_any HS11.out.pc ln sf h3.out).mono ?_;rintro e w12 ⟨rfl,hp12,ho12⟩
      have hs12:=HS11.out.step hp12 ho12
      have c1:w12.cell? ⟨g,1,none⟩=some (.string ⟨#[]⟩):=hs12.ce 1
      have f1:=hs12.fr 1
      have HS12:Hid (SD b c A ws g 159 w7 sf #[.string ⟨lo.toArray⟩,.string ⟨ln.toArray⟩] (w12.setCell ⟨g,1,none⟩ (.string ⟨ln.toArray⟩))):=hs12.put 1 _ rfl
      clear hp12 ho12 hs12 HS11
      go_upto_region 14 with (fail)
      generalize World.setCell w12 _ _=w13 at *
      clear c1 f1
      have HI13:=Lib.hid (HI7.out.step HS12.out.pc HS12.out.ot)
      have L1:∀ x:Gr w13,x.1.cell? ⟨gf,1,none⟩=some (.slice sA l.length sc):=fun x=>(HI13.out.bl.below x.2).cell 1
      have L2:∀ x:Gr w13,x.1.cell? ⟨g,0,none⟩=some (.string ⟨lo.toArray⟩):=fun x=>(HS12.out.bl.below x.2).cell 0
      have L3:∀ x:Gr w13,x.1.cell? ⟨g,1,none⟩=some (.string ⟨ln.toArray⟩):=fun x=>(HS12.out.bl.below x.2).cell 1
      refine EH.wp_region_hyb [7,10] [(1,1),(2,1),(3,1),(4,1),(5,1),(0,2),(6,0),(7,0),(8,2),(9,2),(10,0)] rfl (by kernel_rfl) ?_
      iterate 5 (refine EH.hyb_calm rfl (fun K hK=>?_);go_simp;refine hK _ ?_;clear hK K)
      refine EH.hyb_pure rfl (fun K hK=>?_);go_simp;refine hK _ ?_;clear hK K
      clear L1 L2 L3
      refine EH.hyb_alone rfl (fun wa hna K hK=>?_)
      go_simp
      refine hK _ _ (.inr (nx0 _ _)) ?_
      clear hK K
      obtain ⟨g9,hg9⟩:∃ g,wa.heap.size=g:=⟨_,rfl⟩
      have hb9:=Blk.new wa #[.string ⟨lo.toArray⟩,.string ⟨ln.toArray⟩] 159
      rw [hg9] at hb9 ⊢
      have hnd:Nx w13 (wa.alloc (.cells #[.string ⟨lo.toArray⟩,.string ⟨ln.toArray⟩] 159)):=hna.trans (nx0 _ _)
      generalize World.alloc wa _=wd at *
      refine EH.hyb_alone rfl (fun we hne K hK=>?_)
      refine EH.ite_intro rfl ?_
      have hIe:=HI13.out.nx' (hnd.trans hne)
      refine op_appL we REq.lasts infoS Tryz.underlying71 rfl (by decide) (by decide) spcA_size _ _ rfl (gf+1) b (.slice sA l.length sc) l ⟨lo,ln⟩ ⟨lo,ln⟩ rfl hIe.ls (fun u hu=>by simp [spcA,bt] at hu;rcases hu with rfl | rfl <;> rfl) g9 rfl (fun j hj=>(hb9.below hne).cell j) rfl (by omega) (by have:=hIe.bl.lt;omega) (by have:=hIe.hb;omega) ?_
      intro v' wf hrep' hfr' hkk
      refine hK _ _ (.inl (by simp)) ?_
      clear hK K hb9
      obtain ⟨sA2,sc2,-,hv2,-,-,-,-,-⟩:=RepL.sl spcA_size hrep'
      obtain rfl:v' = .slice sA2 (l.length+1) sc2:=by rw [hv2,List.length_append];rfl
      clear hv2
      iterate 2 (refine EH.hyb_pure rfl (fun K hK=>?_);go_simp;refine hK _ ?_;clear hK K)
      refine EH.hyb_alone rfl (fun wg hng K hK=>?_)
      obtain ⟨hbg,hIg⟩:=hIe.addS hrep' hfr' hkk hng
      have c9:wg.cell? ⟨gf,1,none⟩=some (.slice sA l.length sc):=hbg.cell 1
      have f9:=hbg.free 1
      go_simp
      refine hK _ _ (.inl (by simp)) ?_
      clear hK K
      refine EH.hyb_nil (fun wh hnh=>?_)
      have HI15:=Lib.hid (hIg.nx' hnh)
      have HADV:Hid (sf.e≠0∨s1.i<sf.i):=by have:=adv_spc ws s1 HE.out;rw [HSP.out] at this;exact this
      have HLT6:=Lib.hid (left_step hlt hfew HE.out HADV.out)
      have HP6:=Lib.hid (HP.out.goS hlt hBI.out hBN.out HH5.out HSP.out (l++[⟨lo,ln⟩]) (fun _=>rfl))
      clear c9 f9 hbg hIg hIe hrep' hfr' hkk hnd hna hne hng hnh HI13 HS12 HI7
      go_wp2_with fail
      go_roundw
      case rel=>exact ⟨sf,_,_,a,l++[(⟨lo,ln⟩:Spc)],HI15.out,HP6.out,by have:=HLT6.out;have:=HN1.out;omega,by have:=HLT6.out;have:=HN2.out;have:=HL30.out;simp;omega⟩
      case measure=>rw [HI15.out.pb.left,HLEFT.out];exact HLT6.out
   ·
    obtain ⟨hE0,hK6⟩:=is_next (ws:=ws) hBI.out
    have HK6:=Lib.hid hK6
    have HBNF:Hid (isP ws kNamespace s1=false):=by
     have h:=hBI.out
     rw [show kInclude=105 :: [110,99,108,117,100,101] from rfl,is_word HOK.out 105 _ (by decide)] at h
     simp only [Bool.and_eq_true,decide_eq_true_eq] at h
     unfold Hid
     rw [show kNamespace=110 :: [97,109,101,115,112,97,99,101] from rfl,is_word HOK.out 110 _ (by decide),h.2]
     simp
    clear hE0 hK6 hBN BN
    go_wp2_with fail
    refine (dword_any HI2.out.pb _ 105 [110,99,108,117,100,101] (Tx.of kInclude) (by decide) true hBI.out).mono ?_;rintro e w4 ⟨rfl,hn4⟩
    have HI4:=Lib.hid (HI2.out.nx' hn4)
    have k0:w4.cell? ⟨gf,0,none⟩=some (.slice iA a.length ic):=HI4.out.bl.cell 0
    clear hn4 HI2
    by_cases h5:a.length=5
    ·have q5:((a.length:Int) == 5)=true:=by rw [beq_iff_eq];omega
     have HOV:=Lib.hid (HP.out.overI hlt hBI.out h5)
     go_wp2_with fail
     refine (dfail_any HI4.out.pb 4 (by decide) (by decide)).mono ?_;rintro e w6 ⟨rfl,hp6,ho6⟩
     go_wp2_with fail
     refine bodyPost_ret (results_noneD rfl _ _) rfl ?_
     have h4:(failP 4 s1).e≠0:=fail_ne 4 (by decide) s1
     exact ⟨rfl,_,_,a,l,HOV.out ▸ HI4.out.step hp6 ho6,fun h=>absurd (HOV.out ▸ h) h4⟩
    ·have q5:((a.length:Int) == 5)=false:=by rw [beq_eq_false_iff_ne];omega
     have HH5:=Lib.hid h5
     have HSE:Hid ((nextP s1).e=0):=by unfold Hid nextP;rw [if_neg (by simpa using HE.out)];exact HE.out
     obtain ⟨⟨tk,tt,tn,td,tp⟩,hT⟩:∃ T,Hid (nowP ws (nextP s1)=T):=⟨_,rfl⟩
     have hw:=now_word (ws:=ws) HSE.out
     rw [hT.out] at hw
     have HINC:Hid (incP ws s1=if tk=4 && plainP tt then (tt,nextP (nextP s1)) else ([],failP 2 (nextP s1))):=by unfold Hid incP;dsimp only;rw [hw]
     clear h5 hw
     go_wp2_with fail
     refine (dword_any HI4.out.pb _ 110 [97,109,101,115,112,97,99,101] (Tx.of kNamespace) (by decide) false HBNF.out).mono ?_;rintro e w5 ⟨rfl,hn5⟩
     have HI5:=Lib.hid (HI4.out.nx' hn5)
     clear hn5 HI4 k0
     go_wp2_with fail
     refine (dtook_any HI5.out.pb _ 105 [110,99,108,117,100,101] (Tx.of kInclude) (by decide) true hBI.out).mono ?_;rintro e w6 ⟨rfl,hp6,ho6⟩
     have HI6:Hid (HH b c A ws w0 gf (nextP s1) (.slice iA a.length ic) (.slice sA l.length sc) a l w6):=HI5.out.step hp6 ho6
     clear hp6 ho6 HI5
     go_wp2_with fail
     refine (dnow_any HI6.out.pb _ _ _ _ _ hT.out).mono ?_;rintro e w7 ⟨rfl,hn7⟩
     have HI7:=Lib.hid (HI6.out.nx' hn7)
     obtain ⟨g,hg⟩:∃ g,w7.heap.size=g:=⟨_,rfl⟩
     have HB7:Hid (Blk (w7.alloc (.cells #[.int .i64 (tk:Int),.string ⟨tt.toArray⟩,.int .i64 tn,.int .u64 (td:Int),.int .i64 (tp:Int)] 124)) g g #[.int .i64 (tk:Int),.string ⟨tt.toArray⟩,.int .i64 tn,.int .u64 (td:Int),.int .i64 (tp:Int)] 124):=by have h:=Blk.new w7 #[.int .i64 (tk:Int),.string ⟨tt.toArray⟩,.int .i64 tn,.int .u64 (td:Int),.int .i64 (tp:Int)] 124;rw [hg] at h;exact h
     have HI8:Hid (HH b c A ws w0 gf (nextP s1) (.slice iA a.length ic) (.slice sA l.length sc) a l (w7.alloc (.cells #[.int .i64 (tk:Int),.string ⟨tt.toArray⟩,.int .i64 tn,.int .u64 (td:Int),.int .i64 (tp:Int)] 124))):=HI7.out.nx' (nx0 _ _)
     have HGB:Hid (g≠b):=by have:=HI7.out.pb.bw;unfold Hid;omega
     have HL8:Hid ((tt.length:Int)≤8000):=by have:=now_len HI7.out.pb;rw [hT.out] at this;have h2:(tt.length:Int)≤2000:=this;unfold Hid;omega
     clear hn7 HI6 HI7
     go_upto_region 5 with (fail)
     generalize World.alloc w7 _=w8 at *
     clear hg
     have c0:w8.cell? ⟨g,0,none⟩=some (.int .i64 (tk:Int)):=HB7.out.cell 0
     have c1:w8.cell? ⟨g,1,none⟩=some (.string ⟨tt.toArray⟩):=HB7.out.cell 1
     by_cases h4:tk=4
     ·subst h4
      obtain ⟨Q,hQ⟩:∃ Q,Hid (plainP tt=Q):=⟨_,rfl⟩
      have hK2:Hid ((nowP ws (nextP s1)).k≠6):=by unfold Hid;rw [hT.out];show (4:Nat)≠6;decide
      have hinc:=HINC.out
      rw [hQ.out] at hinc
      have HC:=fun w=>Lib.hid (rplain_any w _ tt (Tx.of tt) Q hQ.out HL8.out)
      cases Q
      ·have hi:incP ws s1=([],failP 2 (nextP s1)):=hinc
       have HP6:=Lib.hid (HP.out.goI hlt hBI.out HH5.out hi a (fun h=>absurd h (fail2_e _)))
       have HEND:=Lib.hid (HP6.out.end_ (er_is (fail2_e _)) (er_is (fail2_e _)))
       clear hinc hi
       go_wp2_with fail
       refine (HC _).out.mono ?_;rintro e w9 ⟨rfl,hn9⟩
       have HI9:=Lib.hid (HI8.out.nx' hn9)
       clear hn9
       go_wp2_with fail
       refine (dfail_any HI9.out.pb 2 (by decide) (by decide)).mono ?_;rintro e w10 ⟨rfl,hp10,ho10⟩
       go_wp2_with fail
       refine bodyPost_ret (results_noneD rfl _ _) rfl ?_
       refine ⟨rfl,.slice iA a.length ic,.slice sA l.length sc,a,l,?_,HEND.out.2⟩
       rw [← HEND.out.1];exact HI9.out.step hp10 ho10
      ·have hi:incP ws s1=(tt,nextP (nextP s1)):=hinc
       have HADV:Hid ((nextP (nextP s1)).e≠0∨s1.i<(nextP (nextP s1)).i):=by have:=adv_inc ws s1 HE.out;rw [hi] at this;exact this
       have HLT6:=Lib.hid (left_step hlt hfew HE.out HADV.out)
       have HP6:=Lib.hid (HP.out.goI hlt hBI.out HH5.out hi (a++[tt]) (fun _=>rfl))
       clear hinc hi
       go_wp2_with fail
       refine (HC _).out.mono ?_;rintro e w9 ⟨rfl,hn9⟩
       have HI9:=Lib.hid (HI8.out.nx' hn9)
       have HB9:=Lib.hid (HB7.out.below hn9)
       clear hn9 c0 c1 HI8 HB7
       go_wp2_with fail
       refine (dnext_any HI9.out.pb HSE.out hK2.out).mono ?_;rintro e w10 ⟨rfl,hp10,ho10⟩
       have HI10:=Lib.hid (HI9.out.step hp10 ho10)
       have HB10:=Lib.hid (ho10.blk HB9.out HGB.out)
       clear hp10 ho10 HI9 HB9
       go_upto_region 8 with (fail)
       have L1:∀ x:Gr w10,x.1.cell? ⟨gf,0,none⟩=some (.slice iA a.length ic):=fun x=>(HI10.out.bl.below x.2).cell 0
       have L2:∀ x:Gr w10,x.1.cell? ⟨g,1,none⟩=some (.string ⟨tt.toArray⟩):=fun x=>(HB10.out.below x.2).cell 1
       refine EH.wp_region_hyb [8,11] [(1,1),(2,1),(3,1),(4,1),(5,1),(6,1),(0,2),(7,0),(8,0),(9,2),(10,2),(11,0)] rfl (by kernel_rfl) ?_
       iterate 6 (refine EH.hyb_calm rfl (fun K hK=>?_);go_simp;refine hK _ ?_;clear hK K)
       refine EH.hyb_pure rfl (fun K hK=>?_);go_simp;refine hK _ ?_;clear hK K
       clear L1 L2
       refine EH.hyb_alone rfl (fun wa hna K hK=>?_)
       go_simp
       refine hK _ _ (.inr (nx0 _ _)) ?_
       clear hK K
       obtain ⟨g9,hg9⟩:∃ g,wa.heap.size=g:=⟨_,rfl⟩
       have hb9:=Blk.new wa #[.string ⟨tt.toArray⟩] 9
       rw [hg9] at hb9 ⊢
       have hnd:Nx w10 (wa.alloc (.cells #[.string ⟨tt.toArray⟩] 9)):=hna.trans (nx0 _ _)
       generalize World.alloc wa _=wd at *
       refine EH.hyb_alone rfl (fun we hne K hK=>?_)
       refine EH.ite_intro rfl ?_
       have hIe:=HI10.out.nx' (hnd.trans hne)
       refine op_appL we REq.lasts infoI Tryz.underlying25 rfl (by decide) (by decide) strA_size _ _ rfl (gf+1) b (.slice iA a.length ic) a tt tt rfl hIe.li (fun u hu=>by simp [strA,bt] at hu;subst hu;rfl) g9 rfl (fun j hj=>(hb9.below hne).cell j) rfl (by omega) (by have:=hIe.bl.lt;omega) (by have:=hIe.hb;omega) ?_
       intro v' wf hrep' hfr' hkk
       refine hK _ _ (.inl (by simp)) ?_
       clear hK K hb9
       obtain ⟨iA2,ic2,-,hv2,-,-,-,-,-⟩:=RepL.sl strA_size hrep'
       obtain rfl:v' = .slice iA2 (a.length+1) ic2:=by rw [hv2,List.length_append];rfl
       clear hv2
       iterate 2 (refine EH.hyb_pure rfl (fun K hK=>?_);go_simp;refine hK _ ?_;clear hK K)
       refine EH.hyb_alone rfl (fun wg hng K hK=>?_)
       obtain ⟨hbg,hIg⟩:=hIe.addI hrep' hfr' hkk hng
       have c9:wg.cell? ⟨gf,0,none⟩=some (.slice iA a.length ic):=hbg.cell 0
       have f9:=hbg.free 0
       go_simp
       refine hK _ _ (.inl (by simp)) ?_
       clear hK K
       refine EH.hyb_nil (fun wh hnh=>?_)
       have HI15:=Lib.hid (hIg.nx' hnh)
       clear c9 f9 hbg hIg hIe hrep' hfr' hkk hnd hna hne hng hnh HI10 HB10
       go_wp2_with fail
       go_roundw
       case rel=>exact ⟨_,_,_,a++[tt],l,HI15.out,HP6.out,by have:=HLT6.out;have:=HN1.out;have:=HL30.out;simp;omega,by have:=HLT6.out;have:=HN2.out;omega⟩
       case measure=>rw [HI15.out.pb.left,HLEFT.out];exact HLT6.out
     ·have b4:((tk:Int) != 4)=true:=by rw [bne_iff_ne];omega
      have hi:incP ws s1=([],failP 2 (nextP s1)):=by rw [HINC.out,decide_eq_false h4];rfl
      have HP6:=Lib.hid (HP.out.goI hlt hBI.out HH5.out hi a (fun h=>absurd h (fail2_e _)))
      have HEND:=Lib.hid (HP6.out.end_ (er_is (fail2_e _)) (er_is (fail2_e _)))
      clear hi h4
      go_wp2_with fail
      refine (dfail_any HI8.out.pb 2 (by decide) (by decide)).mono ?_;rintro e w10 ⟨rfl,hp10,ho10⟩
      go_wp2_with fail
      refine bodyPost_ret (results_noneD rfl _ _) rfl ?_
      refine ⟨rfl,.slice iA a.length ic,.slice sA l.length sc,a,l,?_,HEND.out.2⟩
      rw [← HEND.out.1];exact HI8.out.step hp10 ho10
  ·have b0:((s1.e:Int) == 0)=false:=by rw [beq_eq_false_iff_ne];omega
   have HEND:=Lib.hid (HP.out.end_ (er_is he) (er_is he))
   clear he
   go_wp2_with fail
   go_end0
   refine ⟨rfl,.slice iA a.length ic,.slice sA l.length sc,a,l,?_,HEND.out.2⟩
   rw [← HEND.out.1];exact HI.out
end
end Go.Proofs.YtpfecpcgdfbekaaGreatDoor
namespace Go.Proofs.YtpfecpcgdfbekaaGreatDoor
theorem first_t (l:List UInt8):(firstS l).2.1.t.length≤l.length:=by
 cases l with
 | nil=>exact Nat.le_refl _
 | cons c r =>
  have e:firstS (c :: r)=if isLetS c || decide (c.toNat=95) then nameS (c :: r)
   else if isDig c || decide (c.toNat=43) || decide (c.toNat=45) || decide (c.toNat=46) then numberS (c :: r)
   else if c.toNat=34∨c.toNat=39 then quotedS c r
   else if signsL.contains c then (0,⟨5,[c],0,0,0⟩,1) else (2,tok0,0):=rfl
  rw [e]
  split
  ·unfold nameS
   split
   ·exact Nat.zero_le _
   ·split
    ·exact Nat.zero_le _
    ·exact List.length_take_le' _ _
  ·split
   ·unfold numberS
    repeat' split
    all_goals exact Nat.zero_le _
   ·split
    ·unfold quotedS
     split
     ·exact Nat.zero_le _
     ·have:=List.length_take_le' (quoteN c r) r
      exact Nat.le_trans this (by simp)
    ·split
     ·simp
     ·exact Nat.zero_le _
theorem next_t (o:Nat) (l:List UInt8):(nextS o l).2.2.1.t.length≤l.length:=by
 unfold nextS
 split
 ·exact Nat.zero_le _
 ·split
  ·exact Nat.zero_le _
  ·dsimp only
   unfold wordS
   split
   ·exact Nat.zero_le _
   ·split
    ·exact Nat.zero_le _
    ·exact Nat.le_trans (first_t _) (by simp)
theorem lex_t:∀ (f o:Nat) (l:List UInt8),∀ x ∈ (lexF f o l).1,x.t.length≤l.length
 | 0,_,_=>fun x h=>by cases h
 | f+1,o,l=>by
  have ih:=lex_t f (o+(nextS o l).2.2.2) (l.drop (nextS o l).2.2.2)
  intro x hx
  unfold lexF at hx
  split at hx
  ·cases hx
  ·split at hx
   ·simp at hx;subst hx;exact next_t o l
   ·split at hx
    ·exact Nat.le_trans (ih x hx) (by simp)
    ·rcases List.mem_cons.1 hx with rfl | hx
     ·exact next_t o l
     ·exact Nat.le_trans (ih x hx) (by simp)
end Go.Proofs.YtpfecpcgdfbekaaGreatDoor
namespace Go.Proofs.YtpfecpcgdfbekaaGreatDoor
open Go.RowKit
theorem good_len {L:List UInt8}:∀ {ts:List TokV} {o:Nat},Good L o ts→ts.length+o≤L.length+1∧0<ts.length
 | [],_,h=>h.elim
 | [x],o,h=>⟨by have:=h.2.1;have:=h.2.2;simp;omega,by simp⟩
 | x :: y :: r,o,h=>by
  have h1:=(good_len (ts:=y :: r) h.2.2.2.2).1
  have h2:=h.2.1
  simp at h1 ⊢
  omega
theorem lex_ends (l:List UInt8) (h:(lexS l).2.1=0):Ends (lexS l).1∧0<(lexS l).1.length:=by
 have hg:=(lex_places l).1 h
 have hl:l.length≤2000:=by
  unfold lexS at h
  split at h
  ·cases h
  ·omega
 have h1:=good_len hg
 refine ⟨⟨fun i hi hk=>?_,by omega,fun x hx=>?_⟩,h1.2⟩
 ·have:=(hg.at_ i hi).2.2.1
  rw [List.getD_eq_getElem?_getD,List.getElem?_eq_getElem hi] at hk
  simp at hk
  have hne:¬ i+1=(lexS l).1.length:=fun e=>hk (this.2 e)
  omega
 ·unfold lexS at hx
  split at hx
  ·cases hx
  ·exact Nat.le_trans (lex_t _ _ _ x hx) hl
theorem results_cell_tmp2_rowP {P:Program} {fn:Func} {p u1 u2:Tmp} {ty:TypeId} (h:fn.results=#[.cell p ty,.tmp u1,.tmp u2]) (tmps:Array Value) (w:World) (g:Nat) (t:TypeId) (cs:Array Value) (fr:Nat×Nat) (d:TypeDesc)
  (hp:tmps.getD p undef = .pointer (some ⟨g,0,none⟩)) (hg:w.heap[g]? = some (.cells cs t fr))
  (hu:P.underlying ty=some d) (hd:(match d with | .struct _ | .array _ _=>true | _=>false)=true) (hi:(P.info? ty).map (·.size)=some cs.size) :
  (results fn tmps).run P w = .ok (.tuple #[.agg cs,tmps.getD u1 undef,tmps.getD u2 undef]) w:=by
 have hp':tmps[p]?.getD undef = .pointer (some ⟨g,0,none⟩):=by simpa using hp
 simp [results,h,hp',asAddr,run_loadVar_row w g t ty cs fr d hg hu hd hi]
theorem rfile0 {w:World} {P:Nat→Prop}:RFile w P ⟨.slice none 0 0,.slice none 0 0,.slice none 0 0⟩ fil0:=⟨RepL.nil_,RepL.nil_,RepL.nil_⟩
end Go.Proofs.YtpfecpcgdfbekaaGreatDoor
namespace Go.Proofs.YtpfecpcgdfbekaaGreatDoor
open Go.RowKit
theorem results_noneL {P:Program} {fn:Func} (h:fn.results=#[]) (tmps:Array Value) (w:World):(results fn tmps).run P w = .ok (.tuple #[]) w:=by
 simp [results,h]
def DocOk (t:List UInt8):Prop:=∀ (s:ByteArray),Tx s t→∀ (w:World),
  Calls Tryz.prog 33 #[.string s] w fun e w'=>∃ x,e = .returned (.tuple #[.agg (filA x),.int .i64 ((parseF t).2.1:Nat),.int .i64 ((parseF t).2.2:Nat)])∧RFile w' (Fm w.heap.size) x (parseF t).1∧Nx w w'
end Go.Proofs.YtpfecpcgdfbekaaGreatDoor
