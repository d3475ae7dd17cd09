/- The contract of the document's parser of fields. -/
import Derived.Test.YtpfecpcgdfbekaaGreatDoorG16
set_option linter.unusedVariables false
set_option linter.unusedSimpArgs false
set_option linter.unnecessarySimpa false
namespace Go.Proofs.YtpfecpcgdfbekaaGreatDoor
open Go.RowKit
structure LP {β:Type} (R:World→(Nat→Prop)→Value→List β→Prop) (b c:Nat) (A:Option Addr) (ws:List TokV) (w0:World) (s:PSt) (v:Value) (L:List β) (w:World):Prop where
 pb:PB w b A c ws s
 ls:R w (Fm w0.heap.size) v L
 ot:Oth b w0 w
 hb:b<w0.heap.size
section
variable {β:Type} {R:World→(Nat→Prop)→Value→List β→Prop} {b c:Nat} {A:Option Addr} {ws:List TokV} {w0 w w':World} {s s':PSt} {v v':Value} {L L':List β}
theorem LP.step (hR:Lasts R) (h:LP R b c A ws w0 s v L w) (hp:PB w' b A c ws s') (ho:Oth b w w'):LP R b c A ws w0 s' v L w' :=
 ⟨hp,hR (Mv.oth ho (Nat.le_refl _) h.hb) h.ls,h.ot.trans ho,h.hb⟩
theorem LP.nx (hR:Lasts R) (h:LP R b c A ws w0 s v L w) (hn:Nx w w'):LP R b c A ws w0 s v L w':=h.step hR (h.pb.nx hn) (Oth.nx hn)
theorem LP.app (h:LP R b c A ws w0 s v L w) (hl:R w' (Fm w0.heap.size) v' L') (hv:∀ g,v.ownBlock=some g→w0.heap.size≤g) (hf:Fr b v w v' w') (hk:∀ k,k<w.heap.size→v.ownBlock≠some k→w'.heap[k]? = w.heap[k]?):LP R b c A ws w0 s v' L' w' :=
 ⟨h.pb.fr hf hv h.hb hk,hl,hf.toOth h.ot hv (Nat.le_refl _),h.hb⟩
end
structure SD (b c:Nat) (A:Option Addr) (ws:List TokV) (g:Nat) (T:TypeId) (w0:World) (s:PSt) (cells:Array Value) (w:World):Prop where
 pc:PB w b A c ws s
 bl:Blk w g g cells T
 ot:Oth b w0 w
 hb:b<g
 hg:w0.heap.size≤g
section
variable {b c g:Nat} {A:Option Addr} {ws:List TokV} {T:TypeId} {w0 w w':World} {s s':PSt} {cells cells':Array Value}
theorem Oth.apartD {w w1 w':World} {b g:Nat} (h:Oth b w w1) (ho:Oth g w1 w') (hg:w.heap.size≤g):Oth b w w' :=
 ⟨ho.os.trans h.os,ho.tape.trans h.tape,ho.output.trans h.output,Nat.le_trans h.size ho.size,fun k hk hb=>(ho.block k (Nat.lt_of_lt_of_le hk h.size) (by omega)).trans (h.block k hk hb)⟩
theorem SD.step (h:SD b c A ws g T w0 s cells w) (hp:PB w' b A c ws s') (ho:Oth b w w'):SD b c A ws g T w0 s' cells w':=⟨hp,ho.blk h.bl (by have:=h.hb;omega),h.ot.trans ho,h.hb,h.hg⟩
theorem SD.nx (h:SD b c A ws g T w0 s cells w) (hn:Nx w w'):SD b c A ws g T w0 s cells w':=h.step (h.pc.nx hn) (Oth.nx hn)
theorem SD.put (h:SD b c A ws g T w0 s cells w) (i:Nat) (v:Value) (hc:cells.setIfInBounds i v=cells'):SD b c A ws g T w0 s cells' (w.setCell ⟨g,i,none⟩ v) :=
 ⟨h.pc.apart (Oth.set w g i v) h.hb,hc ▸ h.bl.put i v,h.ot.apartD (Oth.set w g i v) h.hg,h.hb,h.hg⟩
theorem SD.eq (h:SD b c A ws g T w0 s cells w) (hs:s=s') (hc:cells=cells'):SD b c A ws g T w0 s' cells' w:=hs ▸ hc ▸ h
theorem SD.new (h:PB w0 b A c ws s) (hg:w0.heap.size=g):SD b c A ws g T w0 s cells (w0.alloc (.cells cells T)) :=
 ⟨h.nx (nx0 _ _),hg ▸ Blk.new w0 cells T,Oth.nx (nx0 _ _),hg ▸ h.bw,Nat.le_of_eq hg⟩
theorem SD.ce (h:SD b c A ws g T w0 s cells w) (i:Nat):w.cell? ⟨g,i,none⟩=cells[i]?:=h.bl.cell i
theorem SD.fr (h:SD b c A ws g T w0 s cells w) (i:Nat):w.frozen? ⟨g,i,none⟩=false:=h.bl.free i
end
section
variable {ws:List TokV} {s:PSt}
theorem sign_noname (hw:WOk ws) {x:UInt8} (hx:ltB x=false) (h:isP ws [x] s=true):(wordP ws s).k=5:=by
 rw [is_sign hw x hx] at h
 simp only [Bool.and_eq_true,decide_eq_true_eq] at h
 exact h.1
theorem noname_type (h:(wordP ws s).k≠1):atTypeP ws s=false:=by
 unfold atTypeP atNameP;rw [decide_eq_false h];rfl
theorem noname_word (hw:WOk ws) (h:(wordP ws s).k≠1) (x:UInt8) (r:List UInt8) (hx:ltB x=true):isP ws (x :: r) s=false:=by
 rw [is_word hw x r hx,decide_eq_false h];rfl
theorem field_notclose (hw:WOk ws) {x:UInt8} (hx:ltB x=false) (h:isP ws [x] s=true):atFieldP ws s=false:=by
 have h5:=sign_noname hw hx h
 unfold atFieldP
 rw [h5,noname_type (by omega),show kRequired=114 :: [101,113,117,105,114,101,100] from rfl,show kOptional=111 :: [112,116,105,111,110,97,108] from rfl,noname_word hw (by omega) _ _ (by decide),noname_word hw (by omega) _ _ (by decide)]
 rfl
def fldQ (ws:List TokV) (s:PSt) (tp:PSt→List UInt8×PSt) (cp:PSt→Con×PSt):Fld×PSt :=
 let h:=decide ((wordP ws s).k=2)
 let s1:=if h then needP ws [58] (nextP s) else s
 let t:=tp (reqN ws s1)
 let n:=plainN ws t.2
 let c:=if isP ws [61] n.2 then cp (nextP n.2) else (con0,n.2)
 (⟨h,if h then (wordP ws s).n else 0,reqP ws s1,t.1,n.1,isP ws [61] n.2,c.1⟩,c.2)
theorem fldQ_eq (ws:List TokV) (s:PSt):fieldP ws s=fldQ ws s (typeP ws 12) (conP ws 12):=rfl
end
section
variable {w:World} {b c:Nat} {A:Option Addr} {ws:List TokV} {s:PSt}
set_option maxRecDepth 100000 in
set_option maxHeartbeats 25600000 in
theorem dfields_any (h0:PB w b A c ws s) (u:ByteArray) (x:UInt8) (hu:Tx u [x]) (hx:ltB x=false) (L':List Fld) (S2:PSt) (hE:elemsP ws (atFieldP ws) 30 (fieldP ws) (ws.length+1) [] s=(L',S2)) (s':PSt) (hS:needP ws [x] S2=s') :
  Calls Tryz.prog 101 #[.pointer (some ⟨b,0,none⟩),.string u] w fun e w'=>∃ v L,e = .returned v∧(s'.e=0→L=L')∧LF w' (Fm w.heap.size) v L∧PB w' b A c ws s'∧Oth b w w':=by
 have HOK:Hid (WOk ws):=h0.ok
 have HLP0:Hid (Lp ws (atFieldP ws) 30 (fieldP ws) (needP ws [x]) s' L' [] s):=Lp.start (by rw [hE];exact hS) (fun _=>by rw [hE])
 have HFE:Hid (∀ s:PSt,s.e≠0→needP ws [x] s=s):=fun s h=>er_need h
 have HPE:Hid (∀ s:PSt,atFieldP ws s=true→s.e=0):=fun s h=>field_e ws h
 have HPR:Hid (Prog ws (atFieldP ws) (fieldP ws)):=prog_field ws
 have HI0:Hid (LP LF b c A ws w s (.slice none 0 0) [] w):=⟨h0,RepL.nil_,Oth.refl _ _,h0.bw⟩
 have HTX:=Lib.hid hu
 have HX:=Lib.hid hx
 have HTY:Hid (∀ (w:World) (s:PSt),PB w b A c ws s→∀ (l:List UInt8) (s':PSt),typeP ws 12 s=(l,s') →
   Calls Tryz.prog 75 #[.pointer (some ⟨b,0,none⟩),.int .i64 1] w fun e w'=>e = .returned (.string ⟨l.toArray⟩)∧PB w' b A c ws s'∧Oth b w w'):=fun w s h l s' hr=>dtyp_any h l s' hr
 have HCO:Hid (∀ (w:World) (s:PSt),PB w b A c ws s→∀ (y:Con) (s':PSt),conP ws 12 s=(y,s') →
   Calls Tryz.prog 78 #[.pointer (some ⟨b,0,none⟩),.int .i64 1] w fun e w'=>∃ x y',e = .returned (.agg (conA x))∧(s'.e=0→y'=y)∧RC 13 w' (Fm w.heap.size) x y'∧PB w' b A c ws s'∧Oth b w w'):=fun w s h y s' hr=>dcon_any h y s' hr
 have hzu:(u.size:Int)=1:=by rw [hu.size];rfl
 clear h0 hE hS hu hx
 go_enter Tryz.func101,Tryz.ntmps101
 go_upto_block 0 with (fail)
 go_cut [5] (fun v wx=>∃ s1 L,LP LF b c A ws w s1 v L wx∧Hid (needP ws [x] s1=s')∧Hid (s'.e=0→L=L'))
 case first =>
  go_wp2_with fail
  go_loopw [5] (fun v wr=>∃ (s1:PSt) (acc:List Fld),LP LF b c A ws w s1 v acc wr∧Hid (Lp ws (atFieldP ws) 30 (fieldP ws) (needP ws [x]) s' L' acc s1)∧acc.length≤3000 - leftN s1) (fun _ wr=>leftP b wr)
  case atStart=>exact ⟨s,[],HI0.out,HLP0.out,Nat.zero_le _⟩
  case round =>
   obtain ⟨s1,acc,hI,HLP,hn2⟩:=hrel
   have HI:=Lib.hid hI
   obtain ⟨vA,vc,-,rfl,-,-,-,-,-⟩:=hI.ls.sl fldA_size
   have c2:=hI.pb.c2
   have HLEFT:=Lib.hid hI.pb.left
   have hlt:=hI.pb.lt
   have hfew:=hI.pb.fin.few
   have HL30:Hid (leftN s1≤3000):=by unfold Hid leftN;split <;> omega
   have haI:(acc.length:Int)≤3000:=by omega
   have HN2:=Lib.hid hn2
   clear hI hn2
   by_cases he:s1.e=0
   ·have b0:((s1.e:Int) == 0)=true:=by rw [he];rfl
    have HE:=Lib.hid he
    obtain ⟨BE,hBE⟩:∃ B,Hid (isP ws [x] s1=B):=⟨_,rfl⟩
    have hw:=now_word (ws:=ws) he
    obtain ⟨⟨tk,tt,tn,td,tp⟩,hT⟩:∃ T,Hid (nowP ws s1=T):=⟨_,rfl⟩
    rw [hT.out] at hw
    have HW:=Lib.hid hw
    have F0:∀ w1,(Instr.field 124 (.agg #[.int .i64 (tk:Int),.string ⟨tt.toArray⟩,.int .i64 tn,.int .u64 (td:Int),.int .i64 (tp:Int)]) 0).run Tryz.prog w1 = .ok (.int .i64 (tk:Int)) w1:=fun w1=>(tokF _ _ _ _ _ w1).1
    have F2:∀ w1,(Instr.field 124 (.agg #[.int .i64 (tk:Int),.string ⟨tt.toArray⟩,.int .i64 tn,.int .u64 (td:Int),.int .i64 (tp:Int)]) 2).run Tryz.prog w1 = .ok (.int .i64 tn) w1:=fun w1=>(tokF _ _ _ _ _ w1).2.2.1
    obtain ⟨B0,hB0⟩:∃ B,Hid (decide (tk=2)=B):=⟨_,rfl⟩
    have heq:((tk:Int) == 2)=B0:=by rw [← hB0.out];rw [Bool.eq_iff_iff];simp;omega
    have HEQ:=Lib.hid heq
    clear he hw heq
    go_wp2_with fail
    refine (dis_any HI.out.pb _ x HTX.out HX.out BE hBE.out).mono ?_;rintro e w2 ⟨rfl,hn2⟩
    have HI2:=Lib.hid (HI.out.nx LF.lasts hn2)
    clear hn2 c2
    cases BE
    ·obtain ⟨PC,hPC⟩:∃ B,Hid (atFieldP ws s1=B):=⟨_,rfl⟩
     obtain ⟨N30,hN30⟩:∃ B,Hid (((acc.length:Int) == 30)=B):=⟨_,rfl⟩
     obtain ⟨QQ,hQQ⟩:∃ B,Hid ((N30 && PC)=B):=⟨_,rfl⟩
     go_upto_region 3 with (fail)
     go_cut [38] (fun v' wx=>∃ w3,w3=wx∧v' = .bool QQ∧LP LF b c A ws w s1 (.slice vA acc.length vc) acc w3)
     case first =>
      have q30:=hN30.out
      cases N30
      ·obtain rfl:false=QQ:=hQQ.out
       go_wp2_with fail
       go_meet
       case rel=>exact ⟨_,rfl,rfl,HI2.out⟩
      ·obtain rfl:PC=QQ:=hQQ.out
       obtain ⟨B1,hB1⟩:∃ B,Hid (isP ws kRequired s1=B):=⟨_,rfl⟩
       obtain ⟨B2,hB2⟩:∃ B,Hid (isP ws kOptional s1=B):=⟨_,rfl⟩
       obtain ⟨B3,hB3⟩:∃ B,Hid (atTypeP ws s1=B):=⟨_,rfl⟩
       have HBB:Hid ((B0 || B1 || B2 || B3)=PC):=by unfold Hid;rw [← hPC.out];unfold atFieldP;rw [HW.out,hB1.out,hB2.out,hB3.out];dsimp only;rw [hB0.out]
       have heq:=HEQ.out
       go_wp2_with fail
       refine (dnow_any HI2.out.pb _ _ _ _ _ hT.out).mono ?_;rintro e w3 ⟨rfl,hn3⟩
       have HI3:=Lib.hid (HI2.out.nx LF.lasts hn3)
       clear hn3
       cases B0
       ·go_wp2_with fail
        refine (dword_any HI3.out.pb _ 114 [101,113,117,105,114,101,100] (Tx.of kRequired) (by decide) B1 hB1.out).mono ?_;rintro e w4 ⟨rfl,hn4⟩
        have HI4:=Lib.hid (HI3.out.nx LF.lasts hn4)
        clear hn4
        cases B1
        ·go_wp2_with fail
         refine (dword_any HI4.out.pb _ 111 [112,116,105,111,110,97,108] (Tx.of kOptional) (by decide) B2 hB2.out).mono ?_;rintro e w5 ⟨rfl,hn5⟩
         have HI5:=Lib.hid (HI4.out.nx LF.lasts hn5)
         clear hn5
         cases B2
         ·obtain rfl:B3=PC:=HBB.out
          go_wp2_with fail
          refine (dtyped_any HI5.out.pb HE.out B3 hB3.out).mono ?_;rintro e w6 ⟨rfl,hn6⟩
          go_wp2_with fail
          go_meet
          case rel=>exact ⟨_,rfl,rfl,HI5.out.nx LF.lasts hn6⟩
         ·obtain rfl:true=PC:=HBB.out
          go_wp2_with fail
          go_meet
          case rel=>exact ⟨_,rfl,rfl,HI5.out⟩
        ·obtain rfl:true=PC:=HBB.out
         go_wp2_with fail
         go_meet
         case rel=>exact ⟨_,rfl,rfl,HI4.out⟩
       ·obtain rfl:true=PC:=HBB.out
        go_wp2_with fail
        go_meet
        case rel=>exact ⟨_,rfl,rfl,HI3.out⟩
     case rest =>
     obtain ⟨w3,hw3,rfl,hI3⟩:=hcut
     subst hw3
     have HI3:=Lib.hid hI3
     clear hI3 HI HI2
     cases QQ
     ·have HNO:Hid (acc.length=30→atFieldP ws s1=false):=by
       intro h30
       have h1:=hQQ.out
       rw [← hN30.out,show ((acc.length:Int) == 30)=true by rw [beq_iff_eq];omega] at h1
       rw [hPC.out];exact h1
      have HNP:Hid (atFieldP ws s1=false→(fieldP ws s1).2=failP 2 s1∧needP ws [x] s1=failP 2 s1):=by
       intro hp
       refine ⟨field_no HOK.out hp,?_⟩
       unfold needP;rw [hBE.out];rfl
      obtain ⟨⟨y,sf⟩,hFP⟩:∃ r,Hid (fieldP ws s1=r):=⟨_,rfl⟩
      have HADV:Hid (sf.e≠0∨s1.i<sf.i):=by have:=adv_field ws s1 HE.out;rw [hFP.out] at this;exact this
      have HLT6:=Lib.hid (left_step hlt hfew HE.out (show (sepP ws sf).e≠0∨s1.i<(sepP ws sf).i from by
       rcases HADV.out with h | h
       ·exact .inl ((mo_sep ws sf).2 h)
       ·exact .inr (Nat.lt_of_lt_of_le h (mo_sep ws sf).1)))
      have HGO:Hid (∀ y':Fld,(sf.e=0→y'=y)→Lp ws (atFieldP ws) 30 (fieldP ws) (needP ws [x]) s' L' (acc++[y']) (sepP ws sf)):=fun y' hy=>HLP.out.go hlt HPE.out HFE.out HPR.out HNO.out HNP.out hFP.out y' hy
      have hfp:=hFP.out
      rw [fldQ_eq] at hfp
      clear HADV HNO HNP hFP hQQ hN30 hPC hBE
      generalize typeP ws 12=tp' at *
      generalize conP ws 12=cp at *
      obtain ⟨s1',h1⟩:∃ s1',Hid ((if B0 then needP ws [58] (nextP s1) else s1)=s1'):=⟨_,rfl⟩
      obtain ⟨s2,h2⟩:∃ s2,Hid (reqN ws s1'=s2):=⟨_,rfl⟩
      obtain ⟨q,hq⟩:∃ q,Hid (reqP ws s1'=q):=⟨_,rfl⟩
      obtain ⟨⟨lt,s3⟩,h3⟩:∃ r,Hid (tp' s2=r):=⟨_,rfl⟩
      obtain ⟨⟨ln,s4⟩,h4⟩:∃ r,Hid (plainN ws s3=r):=⟨_,rfl⟩
      obtain ⟨B4,hB4⟩:∃ B,Hid (isP ws [61] s4=B):=⟨_,rfl⟩
      obtain ⟨⟨yc,s5⟩,h5⟩:∃ r,Hid ((if B4 then cp (nextP s4) else (con0,s4))=r):=⟨_,rfl⟩
      have hxx:((⟨B0,if B0 then tn else 0,q,lt,ln,B4,yc⟩:Fld),s5)=(y,sf):=by
       rw [← hfp];unfold fldQ;dsimp only;rw [HW.out];dsimp only;rw [hB0.out,h1.out,h2.out,h3.out];dsimp only;rw [h4.out];dsimp only;rw [hB4.out,h5.out,hq.out]
      simp only [Prod.mk.injEq] at hxx
      obtain ⟨hy0,hs5⟩:=hxx
      subst hs5
      obtain ⟨N,hN⟩:∃ N:Int,Hid ((if B0 then tn else 0)=N):=⟨_,rfl⟩
      rw [hN.out] at hy0
      have HY0:=Lib.hid hy0
      have hq2:q≤2:=by rw [← hq.out];unfold reqP;split <;> (try split) <;> omega
      have HQ2:=Lib.hid hq2
      obtain ⟨g,hg⟩:∃ g,w3.heap.size=g:=⟨_,rfl⟩
      have HS1:Hid (SD b c A ws g 202 w3 s1 #[.bool false,.int .i64 0,.int .i64 0,.string ⟨#[]⟩,.string ⟨#[]⟩,.bool false,.int .i64 0,.int .i64 0,.int .u64 0,.string ⟨#[]⟩,.slice none 0 0] (w3.alloc (.cells #[.bool false,.int .i64 0,.int .i64 0,.string ⟨#[]⟩,.string ⟨#[]⟩,.bool false,.int .i64 0,.int .i64 0,.int .u64 0,.string ⟨#[]⟩,.slice none 0 0] 202))):=SD.new HI3.out.pb hg
      clear hfp hy0 hq2
      go_upto_region 6 with (fail)
      generalize World.alloc w3 _=w4 at *
      clear hg
      go_upto_if 45 with (fail)
      refine (dnow_any HS1.out.pc _ _ _ _ _ hT.out).mono ?_;rintro e w5 ⟨rfl,hn5⟩
      have HS2:=Lib.hid (HS1.out.nx hn5)
      clear hn5
      have heq:=HEQ.out
      go_upto_if 45 with (fail)
      go_cut [] (fun wx=>SD b c A ws g 202 w3 s1' #[.bool B0,.int .i64 N,.int .i64 0,.string ⟨#[]⟩,.string ⟨#[]⟩,.bool false,.int .i64 0,.int .i64 0,.int .u64 0,.string ⟨#[]⟩,.slice none 0 0] wx)
      case first =>
       cases B0
       ·obtain rfl:s1=s1':=h1.out
        obtain rfl:0=N:=hN.out
        go_wp2_with fail
        go_meet
        case rel=>exact HS2.out
       ·obtain rfl:tn=N:=hN.out
        have HE1:Hid (needP ws [58] (nextP s1)=s1'):=h1.out
        have HK:Hid ((nowP ws s1).k≠6):=by have:=hB0.out;simp at this;unfold Hid;rw [hT.out];show tk≠6;omega
        go_wp2_with fail
        refine (dnow_any HS2.out.pc _ _ _ _ _ hT.out).mono ?_;rintro e w6 ⟨rfl,hn6⟩
        have hs3:=HS2.out.nx hn6
        have c0:w6.cell? ⟨g,0,none⟩=some (.bool false):=hs3.ce 0
        have c1:w6.cell? ⟨g,1,none⟩=some (.int .i64 0):=hs3.ce 1
        have f0:=hs3.fr 0
        have f1:=hs3.fr 1
        have HS3:Hid (SD b c A ws g 202 w3 s1 #[.bool true,.int .i64 tn,.int .i64 0,.string ⟨#[]⟩,.string ⟨#[]⟩,.bool false,.int .i64 0,.int .i64 0,.int .u64 0,.string ⟨#[]⟩,.slice none 0 0] ((w6.setCell ⟨g,0,none⟩ (.bool true)).setCell ⟨g,1,none⟩ (.int .i64 tn))):=(hs3.put 0 _ rfl).put 1 _ rfl
        clear hn6 hs3
        go_upto_region 8 with (fail)
        generalize World.setCell (World.setCell w6 _ _) _ _=w7 at *
        clear c0 c1 f0 f1
        go_wp2_with fail
        refine (dnext_any HS3.out.pc HE.out HK.out).mono ?_;rintro e w8 ⟨rfl,hp8,ho8⟩
        have HS4:=Lib.hid (HS3.out.step hp8 ho8)
        clear hp8 ho8
        go_wp2_with fail
        refine (dneed_any HS4.out.pc _ 58 (Tx.of [58]) (by decide) s1' HE1.out).mono ?_;rintro e w9 ⟨rfl,hp9,ho9⟩
        have HS5:=Lib.hid (HS4.out.step hp9 ho9)
        clear hp9 ho9
        go_wp2_with fail
        go_meet
        case rel=>exact HS5.out
      case rest =>
      have HS5:=Lib.hid hcut
      clear hcut heq F0 F2 HS1 HS2
      obtain ⟨B1,hB1⟩:∃ B,Hid (isP ws kRequired s1'=B):=⟨_,rfl⟩
      obtain ⟨B2,hB2⟩:∃ B,Hid (isP ws kOptional s1'=B):=⟨_,rfl⟩
      go_wp2_with fail
      refine (dtook_any HS5.out.pc _ 114 [101,113,117,105,114,101,100] (Tx.of kRequired) (by decide) B1 hB1.out).mono ?_;rintro e w6 ⟨rfl,hp6,ho6⟩
      have HS6:=Lib.hid (HS5.out.step hp6 ho6)
      clear hp6 ho6
      go_upto_if 56 with (fail)
      go_cut [] (fun wx=>SD b c A ws g 202 w3 s2 #[.bool B0,.int .i64 N,.int .i64 (q:Int),.string ⟨#[]⟩,.string ⟨#[]⟩,.bool false,.int .i64 0,.int .i64 0,.int .u64 0,.string ⟨#[]⟩,.slice none 0 0] wx)
      case first =>
       have h2':=h2.out
       have hq':=hq.out
       unfold reqN at h2'
       unfold reqP at hq'
       rw [hB1.out] at h2' hq'
       cases B1
       ·rw [if_neg (by decide),hB2.out] at hq'
        rw [if_neg (by decide)] at h2'
        unfold takeP at h2'
        rw [hB2.out] at h2'
        have H2:=Lib.hid h2'
        have HQ:=Lib.hid hq'
        clear h2' hq'
        have HS6':Hid (SD b c A ws g 202 w3 s1' #[.bool B0,.int .i64 N,.int .i64 0,.string ⟨#[]⟩,.string ⟨#[]⟩,.bool false,.int .i64 0,.int .i64 0,.int .u64 0,.string ⟨#[]⟩,.slice none 0 0] w6):=HS6.out
        go_wp2_with fail
        refine (dtook_any HS6'.out.pc _ 111 [112,116,105,111,110,97,108] (Tx.of kOptional) (by decide) B2 hB2.out).mono ?_;rintro e w7 ⟨rfl,hp7,ho7⟩
        have HS7:=Lib.hid (HS6'.out.step hp7 ho7)
        clear hp7 ho7
        cases B2
        ·obtain rfl:s1'=s2:=H2.out
         obtain rfl:0=q:=HQ.out
         go_wp2_with fail
         go_meet
         case rel=>exact HS7.out
        ·obtain rfl:nextP s1'=s2:=H2.out
         obtain rfl:2=q:=HQ.out
         have c2:w7.cell? ⟨g,2,none⟩=some (.int .i64 0):=HS7.out.ce 2
         have f2:=HS7.out.fr 2
         go_wp2_with fail
         go_meet
         case rel=>exact HS7.out.put 2 _ rfl
       ·rw [if_pos rfl] at hq' h2'
        obtain rfl:nextP s1'=s2:=h2'
        obtain rfl:1=q:=hq'
        have c2:w6.cell? ⟨g,2,none⟩=some (.int .i64 0):=HS6.out.ce 2
        have f2:=HS6.out.fr 2
        go_wp2_with fail
        go_meet
        case rel=>exact HS6.out.put 2 _ rfl
      case rest =>
      have HS8:=Lib.hid hcut
      clear hcut HS5 HS6
      go_wp2_with fail
      refine (HTY.out _ s2 HS8.out.pc lt s3 h3.out).mono ?_;rintro e w9 ⟨rfl,hp9,ho9⟩
      have hs9:=HS8.out.step hp9 ho9
      have c3:w9.cell? ⟨g,3,none⟩=some (.string ⟨#[]⟩):=hs9.ce 3
      have f3:=hs9.fr 3
      have HS9:Hid (SD b c A ws g 202 w3 s3 #[.bool B0,.int .i64 N,.int .i64 (q:Int),.string ⟨lt.toArray⟩,.string ⟨#[]⟩,.bool false,.int .i64 0,.int .i64 0,.int .u64 0,.string ⟨#[]⟩,.slice none 0 0] (w9.setCell ⟨g,3,none⟩ (.string ⟨lt.toArray⟩))):=hs9.put 3 _ rfl
      clear hp9 ho9 hs9 HS8
      go_wp2_with fail
      refine (dplain_any HS9.out.pc ln s4 h4.out).mono ?_;rintro e w10 ⟨rfl,hp10,ho10⟩
      have hs10:=HS9.out.step hp10 ho10
      clear c3 f3
      have c4:w10.cell? ⟨g,4,none⟩=some (.string ⟨#[]⟩):=hs10.ce 4
      have f4:=hs10.fr 4
      have HS10:Hid (SD b c A ws g 202 w3 s4 #[.bool B0,.int .i64 N,.int .i64 (q:Int),.string ⟨lt.toArray⟩,.string ⟨ln.toArray⟩,.bool false,.int .i64 0,.int .i64 0,.int .u64 0,.string ⟨#[]⟩,.slice none 0 0] (w10.setCell ⟨g,4,none⟩ (.string ⟨ln.toArray⟩))):=hs10.put 4 _ rfl
      clear hp10 ho10 hs10 HS9
      go_wp2_with fail
      refine (dskip_any HS10.out.pc _ 61 (Tx.of [61]) (by decide) B4 hB4.out).mono ?_;rintro e w11 ⟨rfl,hp11,ho11⟩
      have HS11:=Lib.hid (HS10.out.step hp11 ho11)
      clear hp11 ho11 c4 f4 HS10
      go_upto_if 68 with (fail)
      go_cut [] (fun wx=>∃ (xk:Nat) (xn:Int) (xd:Nat) (xs:List UInt8) (xA:Option Addr) (xm xc:Nat) (yc':Con),SD b c A ws g 202 w3 s5 #[.bool B0,.int .i64 N,.int .i64 (q:Int),.string ⟨lt.toArray⟩,.string ⟨ln.toArray⟩,.bool B4,.int .i64 (xk:Int),.int .i64 xn,.int .u64 (xd:Int),.string ⟨xs.toArray⟩,.slice xA xm xc] wx∧RC 13 wx (Fm (g+1)) ⟨xk,xn,xd,xs,.slice xA xm xc⟩ yc'∧Hid (s5.e=0→yc'=yc))
      case first =>
       cases B4
       ·have hx:=h5.out
        rw [if_neg (by decide)] at hx
        simp only [Prod.mk.injEq] at hx
        obtain ⟨rfl,rfl⟩:=hx
        go_wp2_with fail
        go_meet
        case rel=>exact ⟨0,0,0,[],none,0,0,con0,HS11.out,rc_con0,fun _=>rfl⟩
       ·have HCP:Hid (cp (nextP s4)=(yc,s5)):=h5.out
        have HS12:Hid (SD b c A ws g 202 w3 (nextP s4) #[.bool B0,.int .i64 N,.int .i64 (q:Int),.string ⟨lt.toArray⟩,.string ⟨ln.toArray⟩,.bool false,.int .i64 0,.int .i64 0,.int .u64 0,.string ⟨#[]⟩,.slice none 0 0] w11):=HS11.out
        go_wp2_with fail
        refine (HCO.out _ _ HS12.out.pc yc s5 HCP.out).mono ?_;rintro e w12 ⟨⟨xk,xn,xd,xs,xl⟩,yc',rfl,hyc,hr12,hp12,ho12⟩
        have HYC:=Lib.hid hyc
        obtain ⟨xy,-,xh⟩:=RC.of hr12
        obtain ⟨xA,xc,-,rfl,-,-,-,-,-⟩:=xh.sl conA_size
        clear xh hyc
        rw [show conA ⟨xk,xn,xd,xs,.slice xA xy.length xc⟩=#[.int .i64 (xk:Int),.int .i64 xn,.int .u64 (xd:Int),.string ⟨xs.toArray⟩,.slice xA xy.length xc] from rfl]
        have hs12:=HS12.out.step hp12 ho12
        have c5:w12.cell? ⟨g,5,none⟩=some (.bool false):=hs12.ce 5
        have c6:w12.cell? ⟨g,6,none⟩=some (.int .i64 0):=hs12.ce 6
        have c7:w12.cell? ⟨g,7,none⟩=some (.int .i64 0):=hs12.ce 7
        have c8:w12.cell? ⟨g,8,none⟩=some (.int .u64 0):=hs12.ce 8
        have c9:w12.cell? ⟨g,9,none⟩=some (.string ⟨#[]⟩):=hs12.ce 9
        have c10:w12.cell? ⟨g,10,none⟩=some (.slice none 0 0):=hs12.ce 10
        have f5:=hs12.fr 5
        have f6:=hs12.fr 6
        have f7:=hs12.fr 7
        have f8:=hs12.fr 8
        have f9:=hs12.fr 9
        have f10:=hs12.fr 10
        have HS13:=Lib.hid hs12
        have HR12:Hid (RC 13 w12 (Fm (g+1)) ⟨xk,xn,xd,xs,.slice xA xy.length xc⟩ yc'):=RC.lasts _ (Mv.less (by have:=HS12.out.bl.lt;omega)) hr12
        clear hs12 hp12 ho12 hr12
        go_wp2_with fail
        go_meet
        case rel =>
         have HS14_0:SD b c A ws g 202 w3 s5 #[.bool B0,.int .i64 N,.int .i64 (q:Int),.string ⟨lt.toArray⟩,.string ⟨ln.toArray⟩,.bool true,.int .i64 0,.int .i64 0,.int .u64 0,.string ⟨#[]⟩,.slice none 0 0] _:=HS13.out.put 5 (.bool true) rfl
         have HS14_1:SD b c A ws g 202 w3 s5 #[.bool B0,.int .i64 N,.int .i64 (q:Int),.string ⟨lt.toArray⟩,.string ⟨ln.toArray⟩,.bool true,.int .i64 (xk:Int),.int .i64 0,.int .u64 0,.string ⟨#[]⟩,.slice none 0 0] _:=HS14_0.put 6 (.int .i64 (xk:Int)) rfl
         have HS14_2:SD b c A ws g 202 w3 s5 #[.bool B0,.int .i64 N,.int .i64 (q:Int),.string ⟨lt.toArray⟩,.string ⟨ln.toArray⟩,.bool true,.int .i64 (xk:Int),.int .i64 xn,.int .u64 0,.string ⟨#[]⟩,.slice none 0 0] _:=HS14_1.put 7 (.int .i64 xn) rfl
         have HS14_3:SD b c A ws g 202 w3 s5 #[.bool B0,.int .i64 N,.int .i64 (q:Int),.string ⟨lt.toArray⟩,.string ⟨ln.toArray⟩,.bool true,.int .i64 (xk:Int),.int .i64 xn,.int .u64 (xd:Int),.string ⟨#[]⟩,.slice none 0 0] _:=HS14_2.put 8 (.int .u64 (xd:Int)) rfl
         have HS14_4:SD b c A ws g 202 w3 s5 #[.bool B0,.int .i64 N,.int .i64 (q:Int),.string ⟨lt.toArray⟩,.string ⟨ln.toArray⟩,.bool true,.int .i64 (xk:Int),.int .i64 xn,.int .u64 (xd:Int),.string ⟨xs.toArray⟩,.slice none 0 0] _:=HS14_3.put 9 (.string ⟨xs.toArray⟩) rfl
         have HS14:SD b c A ws g 202 w3 s5 #[.bool B0,.int .i64 N,.int .i64 (q:Int),.string ⟨lt.toArray⟩,.string ⟨ln.toArray⟩,.bool true,.int .i64 (xk:Int),.int .i64 xn,.int .u64 (xd:Int),.string ⟨xs.toArray⟩,.slice xA xy.length xc] _:=HS14_4.put 10 (.slice xA xy.length xc) rfl
         refine ⟨xk,xn,xd,xs,xA,xy.length,xc,yc',HS14,?_,HYC.out⟩
         have HW:=(Oth.refl g w12).own (i:=5) (v:=.bool true) |>.own (i:=6) (v:=.int .i64 (xk:Int)) |>.own (i:=7) (v:=.int .i64 xn) |>.own (i:=8) (v:=.int .u64 (xd:Int)) |>.own (i:=9) (v:=.string ⟨xs.toArray⟩) |>.own (i:=10) (v:=.slice xA xy.length xc)
         exact RC.lasts _ (Mv.oth HW (Nat.le_refl _) (Nat.lt_succ_self _)) HR12.out
      case rest =>
      obtain ⟨xk,xn,xd,xs,xA,xm,xc,yc',hs15,hr15,HYC⟩:=hcut
      have HS15:=Lib.hid hs15
      have HR15:=Lib.hid hr15
      clear hs15 hr15 HS11
      go_wp2_with fail
      refine (dpart_any HS15.out.pc _ rfl).mono ?_;rintro e w16 ⟨rfl,hp16,ho16⟩
      have hs16:=HS15.out.step hp16 ho16
      have HR16:Hid (RC 13 w16 (Fm (g+1)) ⟨xk,xn,xd,xs,.slice xA xm xc⟩ yc'):=RC.lasts _ (Mv.oth ho16 (Nat.le_refl _) (by have:=HS15.out.hb;omega)) HR15.out
      have HI16:=Lib.hid (HI3.out.step LF.lasts hs16.pc hs16.ot)
      have HS16:=Lib.hid hs16
      have HOWN:Hid (∀ k,(Value.slice vA acc.length vc).ownBlock=some k→w.heap.size≤k∧k<w3.heap.size):=fun k e=>RepL.own_lt HI3.out.ls k e
      have d0:w16.cell? ⟨g,0,none⟩=some (.bool B0):=hs16.ce 0
      have d1:w16.cell? ⟨g,1,none⟩=some (.int .i64 N):=hs16.ce 1
      have d2:w16.cell? ⟨g,2,none⟩=some (.int .i64 (q:Int)):=hs16.ce 2
      have d3:w16.cell? ⟨g,3,none⟩=some (.string ⟨lt.toArray⟩):=hs16.ce 3
      have d4:w16.cell? ⟨g,4,none⟩=some (.string ⟨ln.toArray⟩):=hs16.ce 4
      have d5:w16.cell? ⟨g,5,none⟩=some (.bool B4):=hs16.ce 5
      have d6:w16.cell? ⟨g,6,none⟩=some (.int .i64 (xk:Int)):=hs16.ce 6
      have d7:w16.cell? ⟨g,7,none⟩=some (.int .i64 xn):=hs16.ce 7
      have d8:w16.cell? ⟨g,8,none⟩=some (.int .u64 (xd:Int)):=hs16.ce 8
      have d9:w16.cell? ⟨g,9,none⟩=some (.string ⟨xs.toArray⟩):=hs16.ce 9
      have d10:w16.cell? ⟨g,10,none⟩=some (.slice xA xm xc):=hs16.ce 10
      have hey:RF w16 (But (Fm w.heap.size) (.slice vA acc.length vc)) ⟨B0,N,q,lt,ln,B4,⟨xk,xn,xd,xs,.slice xA xm xc⟩⟩ ⟨B0,N,q,lt,ln,B4,yc'⟩ :=
       ⟨rfl,rfl,rfl,rfl,rfl,rfl,RC.lasts _ ⟨fun _ _ _=>rfl,fun k hk _=>⟨by have:g+1≤k:=hk;have:=HS16.out.hg;have:=HI3.out.ot.size;show w.heap.size≤k;omega,fun e=>by have:=HOWN.out k e;have:g+1≤k:=hk;have:=HS16.out.hg;omega⟩⟩ HR16.out⟩
      have HEY:=Lib.hid hey
      have HONE:Hid (∀ u ∈ (fldA ⟨B0,N,q,lt,ln,B4,⟨xk,xn,xd,xs,.slice xA xm xc⟩⟩).toList,u.oneCell'=true):=fun u hu=>by
       simp [fldA,bt] at hu
       rcases hu with rfl | rfl | rfl | rfl | rfl | rfl | rfl | rfl | rfl | rfl | rfl <;> rfl
      have HSZ:Hid (w.heap.size≤w16.heap.size):=HI16.out.ot.size
      have HHB:Hid (b<w.heap.size):=HI3.out.hb
      clear hp16 ho16 hs16 hey HS15 HR15 HI3
      go_wp2_with (at_builtin;go_must (refine wpList_appL _ RF.lasts infoF Tryz.underlying52 rfl (by decide) (by decide) fldA_size rfl _ _ rfl w.heap.size b (.slice vA acc.length vc) acc ⟨B0,N,q,lt,ln,B4,⟨xk,xn,xd,xs,.slice xA xm xc⟩⟩ ⟨B0,N,q,lt,ln,B4,yc'⟩ rfl (RepL.nx RF.lasts HI16.out.ls (nx0 _ _)) HONE.out _ rfl (fun j hj=>cell_newP (by simp)) (RF.lasts (Mv.but (Mv.nx (nx0 _ _) (Nat.le_refl _)) _) HEY.out) (by omega) (Nat.le_trans HSZ.out (nx0 _ _).size) HHB.out ?_;intro v2 w17 hl2 hf2 hk2;have HL2:=Lib.hid hl2;have HF2:=Lib.hid hf2;have HK2:=Lib.hid hk2;clear hl2 hf2 hk2))
      have HI17:=Lib.hid ((HI16.out.nx LF.lasts (nx0 _ _)).app HL2.out (fun k e=>(HOWN.out k e).1) HF2.out HK2.out)
      go_roundw
      case rel =>
       refine ⟨sepP ws s5,acc++[⟨B0,N,q,lt,ln,B4,yc'⟩],HI17.out,HGO.out _ (fun h=>by rw [HYC.out h];exact HY0.out),?_⟩
       have:=HLT6.out
       have:=HL30.out
       have:=HN2.out
       rw [List.length_append]
       simp
       omega
      case measure=>rw [HI17.out.pb.left,HLEFT.out];exact HLT6.out
     ·have h1:N30=true∧PC=true:=by have:=hQQ.out;simpa using this
      obtain ⟨rfl,rfl⟩:=h1
      have h30:acc.length=30:=by have:=hN30.out;rw [beq_iff_eq] at this;omega
      have HOV:=Lib.hid (HLP.out.over hlt HPE.out HFE.out h30 hPC.out)
      clear hQQ hN30 h30
      go_wp2_with fail
      refine (dfail_any HI3.out.pb 4 (by decide) (by decide)).mono ?_;rintro e w4 ⟨rfl,hp4,ho4⟩
      have HI4:=Lib.hid (HI3.out.step LF.lasts hp4 ho4)
      clear hp4 ho4
      go_wp2_with fail
      go_meet
      case rel =>
       have h4:(failP 4 s1).e≠0:=fail_ne 4 (by decide) s1
       exact ⟨_,_,HI4.out,by unfold Hid;rw [er_need h4];exact HOV.out,fun h=>absurd (HOV.out ▸ h) h4⟩
    ·have HEND:=Lib.hid (HLP.out.end_ (field_notclose HOK.out HX.out hBE.out))
     go_wp2_with fail
     go_meet
     case rel=>exact ⟨_,_,HI2.out,HEND.out.1,HEND.out.2⟩
   ·have b0:((s1.e:Int) == 0)=false:=by rw [beq_eq_false_iff_ne];omega
    have HEND:=Lib.hid (HLP.out.stop HPE.out he)
    clear he
    go_wp2_with fail
    go_meet
    case rel=>exact ⟨_,_,HI.out,HEND.out.1,HEND.out.2⟩
 case rest =>
 obtain ⟨s1,L,hI,HN1,HL1⟩:=hcut
 have HI:=Lib.hid hI
 clear hI
 go_wp2_with fail
 refine (dneed_any HI.out.pb _ x HTX.out HX.out s' HN1.out).mono ?_;rintro e w4 ⟨rfl,hp4,ho4⟩
 have HI4:=Lib.hid (HI.out.step LF.lasts hp4 ho4)
 clear hp4 ho4
 go_wp2_with fail
 go_ret
 exact ⟨_,L,rfl,HL1.out,HI4.out.ls,HI4.out.pb,HI4.out.ot⟩
end
end Go.Proofs.YtpfecpcgdfbekaaGreatDoor
