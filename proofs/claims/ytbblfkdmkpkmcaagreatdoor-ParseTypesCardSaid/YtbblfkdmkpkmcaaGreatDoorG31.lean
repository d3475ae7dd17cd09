/- The contracts of the document's reading of kinds: node. -/
import Derived.Test.YtbblfkdmkpkmcaaGreatDoorG30
set_option linter.unusedVariables false
set_option linter.unusedSimpArgs false
set_option linter.unnecessarySimpa false
namespace Go.Proofs.YtbblfkdmkpkmcaaGreatDoor
open Go.RowKit
theorem far_word (k:Nat) (h:isKw k):farF true (wordK k)=true:=by
 rcases h with rfl | rfl | rfl | rfl | rfl | rfl | rfl | rfl | rfl | rfl | rfl <;> decide
theorem TyC.other4 {w:World} {b g o e:Nat} {s:ByteArray} {v0 v1 v2 v3:Value} (h:TyC w b s o e) (hg:g≠b) :
  TyC ((((w.setCell ⟨g,0,none⟩ v0).setCell ⟨g,1,none⟩ v1).setCell ⟨g,2,none⟩ v2).setCell ⟨g,3,none⟩ v3) b s o e:=Blk.other4 h hg
theorem TyC.other {w:World} {b g o e:Nat} {s:ByteArray} (h:TyC w b s o e) (hg:g≠b) (i:Nat) (v:Value):TyC (w.setCell ⟨g,i,none⟩ v) b s o e:=Blk.other h hg i v
theorem Oth.put4 {w w':World} {b g:Nat} {v0 v1 v2 v3:Value} (h:Oth b w w') (hk:w.heap.size≤g) :
  Oth b w ((((w'.setCell ⟨g,0,none⟩ v0).setCell ⟨g,1,none⟩ v1).setCell ⟨g,2,none⟩ v2).setCell ⟨g,3,none⟩ v3):=(((h.put hk 0 v0).put hk 1 v1).put hk 2 v2).put hk 3 v3
theorem TyC.lt {w:World} {b o e:Nat} {s:ByteArray} (h:TyC w b s o e):b<w.heap.size:=Blk.lt h
theorem inn_bad (par:List UInt8→Nat×Ty×Nat) (k:Nat) (l:List UInt8) (K:Nat) (h:(if (l.drop K).head? = some 60 then (par (l.drop (K+1))).1 else 2)≠0) :
  (innT par k (l.drop K)).1=if (l.drop K).head? = some 60 then (par (l.drop (K+1))).1 else 2:=by
 unfold innT
 rw [List.drop_drop]
 by_cases h60:(l.drop K).head? = some 60
 ·rw [if_pos h60] at h ⊢
  rw [if_neg (by simpa using h60),if_pos h]
  rfl
 ·rw [if_neg h60,if_pos h60]
  rfl
theorem inn_in (par:List UInt8→Nat×Ty×Nat) (l:List UInt8) (K:Nat) (h:(if (l.drop K).head? = some 60 then (par (l.drop (K+1))).1 else 2)=0):(l.drop K).head? = some 60∧(par (l.drop (K+1))).1=0:=by
 by_cases h60:(l.drop K).head? = some 60
 ·rw [if_pos h60] at h;exact ⟨h60,h⟩
 ·rw [if_neg h60] at h;cases h
theorem inn_in' (par:List UInt8→Nat×Ty×Nat) (l:List UInt8) (K:Nat) (h:(if (l.drop K).head? = some 44 then (par (l.drop (K+1))).1 else 2)=0):(l.drop K).head? = some 44∧(par (l.drop (K+1))).1=0:=by
 by_cases h60:(l.drop K).head? = some 44
 ·rw [if_pos h60] at h;exact ⟨h60,h⟩
 ·rw [if_neg h60] at h;cases h
theorem inn_one (par:List UInt8→Nat×Ty×Nat) (k:Nat) (l:List UInt8) (K o1:Nat) (P:Nat×Ty×Nat) (hP:par (l.drop (K+1))=P) (h60:(l.drop K).head? = some 60) (h0:P.1=0) (hk:k≠13) (ho:o1=K+1+P.2.2) :
  innT par k (l.drop K)=if (l.drop o1).head? = some 62 then (0,.l1 k P.2.1,1+P.2.2+1) else noTy 2:=by
 unfold innT
 rw [List.drop_drop,hP,if_neg (by simpa using h60),if_neg (by simpa using h0),if_neg hk]
 have e1:(l.drop K).drop (1+P.2.2)=l.drop o1:=by rw [List.drop_drop];congr 1;omega
 rw [e1]
 by_cases h62:(l.drop o1).head? = some 62
 ·rw [if_pos h62,if_neg (by simpa using h62)]
 ·rw [if_neg h62,if_pos h62]
theorem inn_two (par:List UInt8→Nat×Ty×Nat) (l:List UInt8) (K o1:Nat) (P:Nat×Ty×Nat) (hP:par (l.drop (K+1))=P) (h60:(l.drop K).head? = some 60) (h0:P.1=0) (ho:o1=K+1+P.2.2)
  (h:(if (l.drop o1).head? = some 44 then (par (l.drop (o1+1))).1 else 2)≠0) :
  (innT par 13 (l.drop K)).1=if (l.drop o1).head? = some 44 then (par (l.drop (o1+1))).1 else 2:=by
 unfold innT
 rw [List.drop_drop,hP,if_neg (by simpa using h60),if_neg (by simpa using h0),if_pos rfl]
 have e1:(l.drop K).drop (1+P.2.2)=l.drop o1:=by rw [List.drop_drop];congr 1;omega
 have e2:(l.drop K).drop (1+P.2.2+1)=l.drop (o1+1):=by rw [List.drop_drop];congr 1;omega
 rw [e1,e2]
 by_cases h44:(l.drop o1).head? = some 44
 ·rw [if_pos h44] at h ⊢
  rw [if_neg (by simpa using h44),if_pos h]
  rfl
 ·rw [if_neg h44,if_pos h44]
  rfl
theorem inn_end (par:List UInt8→Nat×Ty×Nat) (l:List UInt8) (K o1 o2:Nat) (P Q:Nat×Ty×Nat) (hP:par (l.drop (K+1))=P) (h60:(l.drop K).head? = some 60) (h0:P.1=0) (ho:o1=K+1+P.2.2)
  (hQ:par (l.drop (o1+1))=Q) (h44:(l.drop o1).head? = some 44) (hq:Q.1=0) (ho2:o2=o1+1+Q.2.2) :
  innT par 13 (l.drop K)=if (l.drop o2).head? = some 62 then (0,.mp P.2.1 Q.2.1,1+P.2.2+1+Q.2.2+1) else noTy 2:=by
 unfold innT
 rw [List.drop_drop,hP,if_neg (by simpa using h60),if_neg (by simpa using h0),if_pos rfl]
 have e1:(l.drop K).drop (1+P.2.2)=l.drop o1:=by rw [List.drop_drop];congr 1;omega
 have e2:(l.drop K).drop (1+P.2.2+1)=l.drop (o1+1):=by rw [List.drop_drop];congr 1;omega
 rw [e1,e2,hQ,if_neg (by simpa using h44),if_neg (by simpa using hq)]
 have e3:(l.drop K).drop (1+P.2.2+1+Q.2.2)=l.drop o2:=by rw [List.drop_drop];congr 1;omega
 rw [e3]
 by_cases h62:(l.drop o2).head? = some 62
 ·rw [if_pos h62,if_neg (by simpa using h62)]
 ·rw [if_neg h62,if_pos h62]
set_option maxRecDepth 100000 in
set_option maxHeartbeats 12800000 in
theorem node_step (r:Nat) (hN:∀ r',r=r'+1→NodeC r'):NodeC r:=by
  intro b s l o w D hD hD1 hC hl ho hs
  have hz:(s.size:Int)=(l.length:Int):=by rw [hl.size]
  obtain ⟨g,hg⟩:∃ g,w.heap.size=g:=⟨_,rfl⟩
  have hbg:b<g:=by rw [← hg];exact hC.lt
  have hT0:=Blk.new w #[.int .i64 0,.string ⟨#[]⟩,.string ⟨#[]⟩,.string ⟨#[]⟩] 59
  rw [hg] at hT0
  have hN0:Nx w (w.alloc (Obj.cells #[.int .i64 0,.string ⟨#[]⟩,.string ⟨#[]⟩,.string ⟨#[]⟩] 59)):=nx0 _ _
  have HN:=Lib.hid hN
  have HL:=Lib.hid hl
  have HB0:Hid (TyC (w.alloc (Obj.cells #[.int .i64 0,.string ⟨#[]⟩,.string ⟨#[]⟩,.string ⟨#[]⟩] 59)) b s o 0):=hC.below hN0
  have hpw:=parT_word r (l.drop o)
  have hwl:=wl (l.drop o)
  have htm:∀ c ∈ (l.drop o).take (spanN isNmS (l.drop o)),isNmS c=true:=spanN_take isNmS (l.drop o)
  obtain ⟨N,hN1⟩:∃ N,Hid (spanN isNmS (l.drop o)=N):=⟨_,rfl⟩
  have hNl:o+N≤l.length:=by
    have:=spanN_le isNmS (l.drop o)
    rw [hN1.out,List.length_drop] at this;omega
  rw [hN1.out] at hpw hwl htm
  obtain ⟨T,hT⟩:∃ T,Hid ((l.drop o).take N=T):=⟨_,rfl⟩
  rw [hT.out] at hpw hwl htm
  rw [List.drop_drop] at hpw
  obtain ⟨R,hR⟩:∃ R,Hid (parT r (l.drop o)=R):=⟨_,rfl⟩
  rw [hR.out] at hpw ⊢
  have HPW:=Lib.hid hpw
  have HTM:=Lib.hid htm
  have HWL:=Lib.hid hwl
  obtain ⟨u,hu,HU⟩:=hl.mid o (o+N)
  have HU2:Hid (Tx u T):=by
    have h:=HU.out
    rw [List.drop_take,show o+N - o=N by omega,hT.out] at h
    exact h
  clear hl hC HU hpw htm hwl hN
  go_enter Tryz.func45,Tryz.ntmps45
  obtain ⟨c0,c1,c2,f1,f2⟩:=HB0.out.cells
  go_upto_block 0 with fail
  generalize hW1:World.alloc _ _=w1 at *
  clear hW1 c0 c1 c2 f1 f2
  have HT0:=Lib.hid hT0
  have HN0:=Lib.hid hN0
  clear hT0 hN0
  go_cut [] (fun wx=>TyC wx b s (o+N) 0∧Oth b w1 wx)
  case first =>
   go_wp2_with fail
   go_loopw [] (fun wx=>∃ m:Nat,TyC wx b s (o+m) 0∧m≤N∧Hid (N=spanN isNmS (l.drop (o+m))+m)∧Oth b w1 wx) (fun wx=>10000 - atK b wx)
   case atStart=>exact ⟨0,HB0.out,Nat.zero_le _,by unfold Hid;rw [← hN1.out];rfl,Oth.refl _ _⟩
   case round =>
     obtain ⟨m,hCm,hmN,HSm,hOm⟩:=hrel
     obtain ⟨K,hK⟩:∃ K,o+m=K:=⟨_,rfl⟩
     rw [hK] at hCm HSm
     have hat:=hCm.at_
     have HCm:=Lib.hid hCm
     have HOm:=Lib.hid hOm
     obtain ⟨c0,c1,c2,f1,f2⟩:=hCm.cells
     obtain ⟨l1,hl1⟩:∃ l1,Hid (l.drop K=l1):=⟨_,rfl⟩
     have hl1n:l1.length+K=l.length:=by rw [← hl1.out];simp;omega
     rw [hl1.out] at HSm
     clear hCm hOm
     have k4:(K:Int)≤8000:=by omega
     cases l1 with
     | nil =>
       have hNm:N=m:=by have:=HSm.out;rw [show spanN isNmS []=0 from rfl] at this;omega
       have hKl:K=l.length:=by simpa using hl1n
       have k1:decide ((K:Int)<(l.length:Int))=false:=decide_eq_false (by omega)
       have k2:¬ K<l.length:=by omega
       clear hl1n HSm
       go_wp2_with fail
       go_quiet (fail)
       go_wp2_with fail
       go_meet
       case rel=>exact ⟨by rw [hNm,hK];exact HCm.out.drew _,HOm.out.trans (Oth.nx ((Nx.refl _).dr _))⟩
     | cons d t =>
       obtain ⟨h2l,h2s,h2c⟩:=HL.out.byteK K d t hl1.out
       have hsp:spanN isNmS (d :: t)=if isNmS d then spanN isNmS t+1 else 0:=rfl
       have k1:decide ((K:Int)<(l.length:Int))=true:=decide_eq_true (by omega)
       have k2:(K:Int)<(s.size:Int):=by omega
       have hdg:=fun w=>refDigit_any d w
       have hlg:=fun w=>refLetter_any d w
       have hdp:=isNm_iff d
       generalize isLtS d=BL at *
       generalize isDig d=BD at *
       have h3:BL=true∨BL=false∧BD=true∨BL=false∧BD=false∧((d.toNat:Int) == 46)=true∨BL=false∧BD=false∧((d.toNat:Int) == 46)=false:=by
         cases BL
         · cases BD
           · right;right
             cases ((d.toNat:Int) == 46)
             · exact .inr ⟨rfl,rfl,rfl⟩
             · exact .inl ⟨rfl,rfl,rfl⟩
           · exact .inr (.inl ⟨rfl,rfl⟩)
         · exact .inl rfl
       have h4:Hid (isNmS d=(BL || BD || ((d.toNat:Int) == 46))):=by
         unfold Hid;rw [hdp];congr 1
         rw [Bool.eq_iff_iff,decide_eq_true_iff,beq_iff_eq];omega
       have HSP:=Lib.hid hsp
       have HD1:=Lib.hid (drop_cons hl1.out)
       clear hdp hsp hl1n
       rcases h3 with rfl | ⟨rfl,rfl⟩ | ⟨rfl,rfl,b46⟩ | ⟨rfl,rfl,b46⟩
       rotate_left 3
       · have hnm:isNmS d=false:=by rw [h4.out,b46];rfl
         have hNm:N=m:=by have:=HSm.out;rw [HSP.out,hnm] at this;simpa using this
         clear hnm
         go_wp2_with fail
         go_quiet (first | exact Calls.quiet_of_same (hlg _) | exact Calls.quiet_of_same (hdg _))
         go_wp2_with fail
         go_meet
         case rel=>exact ⟨by rw [hNm,hK];exact HCm.out.drew _,HOm.out.trans (Oth.nx ((Nx.refl _).dr _))⟩
       all_goals
         have hnm:isNmS d=true:=by rw [h4.out];first | rfl | (rw [b46];rfl)
         have hNm:N=spanN isNmS t+1+m:=by have:=HSm.out;rw [HSP.out,hnm] at this;simpa using this
         clear hnm
         go_wp2_with fail
         go_quiet (first | exact Calls.quiet_of_same (hlg _) | exact Calls.quiet_of_same (hdg _))
         generalize hW:World.drewN _ _=w3
         have HC3:Hid (TyC w3 b s K 0):=by rw [← hW];exact HCm.out.drew _
         have HO3:Hid (Oth b w1 w3):=by rw [← hW];exact HOm.out.trans (Oth.nx ((Nx.refl _).dr _))
         clear hW c0 c1 c2 f1 f2
         obtain ⟨c0,c1,c2,f1,f2⟩:=HC3.out.cells
         go_wp2_with fail
         have ek:(K:Int)+1=((K+1:Nat):Int):=by omega
         go_roundw
         case rel =>
           rw [ek]
           refine ⟨m+1,?_,by omega,?_,HO3.out.own⟩
           · rw [show o+(m+1)=K+1 by omega]
             exact HC3.out.put1 _
           · rw [show o+(m+1)=K+1 by omega,HD1.out]
             unfold Hid;omega
         case measure =>
           rw [ek,(HC3.out.put1 (K+1)).at_,hat]
           omega
  case rest =>
    obtain ⟨hCn,hOn⟩:=hcut
    obtain ⟨K,hK⟩:∃ K,o+N=K:=⟨_,rfl⟩
    rw [hK] at hCn hu hNl HPW
    have HCn:=Lib.hid hCn
    have HOn:=Lib.hid hOn
    obtain ⟨c0,c1,c2,f1,f2⟩:=hCn.cells
    have i1:(o:Int)≤(K:Int):=by omega
    have i2:(K:Int)≤(s.size:Int):=by omega
    have i3:(K:Int)≤8000:=by omega
    have hTs:(T.length:Int)≤8000:=by have:=HWL.out;omega
    clear hCn hOn
    go_wp2_with fail
    go_quiet (fail)
    generalize hW:World.drewN _ _=w3
    have HC3:Hid (TyC w3 b s K 0):=by rw [← hW];exact HCn.out.drew _
    have HO3:Hid (Oth b w1 w3):=by rw [← hW];exact HOn.out.trans (Oth.nx ((Nx.refl _).dr _))
    have HT3:Hid (Blk w3 g g #[.int .i64 0,.string ⟨#[]⟩,.string ⟨#[]⟩,.string ⟨#[]⟩] 59):=HO3.out.blk HT0.out (by omega)
    have HOw:Hid (Oth b w w3):=Oth.mono HO3.out HN0.out
    clear hW c0 c1 c2 f1 f2
    have hgw:w.heap.size≤g:=by omega
    have hgb:g≠b:=by omega
    have HGW:=Lib.hid hgw
    have HGB:=Lib.hid hgb
    have HK:=Lib.hid hK
    clear hgw hgb hK
    go_wp2_with fail
    refine (refFar_any u T w3 HU2.out HTM.out hTs).mono ?_;rintro e w' ⟨rfl,hw'⟩
    obtain rfl:=hw'.symm
    obtain ⟨F,HF⟩:∃ F,Hid (farF true T=F):=⟨_,rfl⟩
    rw [HF.out]
    obtain ⟨c0,c1,c2,f1,f2⟩:=HC3.out.cells
    obtain ⟨n0,n1,n2,n3,m0,m1,m2,m3⟩:=cells4 HT3.out
    have hgb:=HGB.out
    have hbg':=Ne.symm hgb
    cases F
    · have HR:Hid (R=noTy 2):=by
        have hk0:kindW T=0:=by
          rcases kindW_is T with h | ⟨h1,h2⟩
          · exact h
          · have:=far_word _ h1
            rw [← h2,HF.out] at this;cases this
        unfold Hid;rw [HPW.out,if_pos hk0];unfold nameT nameOk;rw [HF.out];rfl
      go_wp2_with fail
      have hB5:=HT3.out.other hbg' 2 (.int .i64 2)
      refine bodyPost_ret (results_cell_row rfl _ _ g _ _ _ _ rfl hB5.put4.2 Tryz.underlying59 rfl (by kernel_rfl)) rfl ?_
      refine ⟨_,_,_,_,K,rfl,?_,by omega,hNl,HOw.out.own.put4 HGW.out,fun h=>by rw [HR.out] at h;cases h⟩
      rw [HR.out]
      exact (HC3.out.put2 2).other4 hgb
    · go_wp2_with fail
      have hba:=refBase_any u T w3 HU2.out
      obtain ⟨k,HKk⟩:∃ k,Hid (kindW T=k):=⟨_,rfl⟩
      rw [HKk.out] at hba HPW
      have hk17:k<17:=by
        rcases kindW_is T with h | ⟨h,-⟩
        · rw [HKk.out] at h;omega
        · rw [HKk.out] at h;unfold isKw at h;omega
      refine hba.mono ?_;rintro e w' ⟨rfl,hw'⟩
      obtain rfl:=hw'.symm
      clear hba
      by_cases hk0:k=0
      · subst hk0
        have HR:Hid (R=nameT T):=by unfold Hid;rw [HPW.out];exact if_pos rfl
        rw [show ((0:Nat):Int)=0 from rfl]
        have hus:(u.size:Int)=(T.length:Int):=by rw [HU2.out.size]
        have hpl:=partN_le T
        go_upto_block 2 with fail
        go_cut [8] (fun v wx=>∃ u2,v = .string u2∧Hid (Tx u2 (T.take (partN T)))∧wx=w3)
        case first =>
          clear c0 c1 c2 f1 f2 n0 n1 n2 n3 m0 m1 m2 m3
          go_wp2_with fail
          go_loopw [8,9] (fun fv iv wx=>∃ i:Nat,fv = .string u∧iv = .int .i64 (i:Int)∧i≤T.length∧Hid (partN T=partN (T.drop i)+i)∧wx=w3) (fun _ iv _=>(10000 - intOf iv).toNat)
          case atStart=>exact ⟨0,rfl,rfl,Nat.zero_le _,by unfold Hid;simp,rfl⟩
          case round =>
            obtain ⟨i,rfl,rfl,hi,HPi,hwr⟩:=hrel
            obtain rfl:=hwr.symm
            obtain ⟨l1,hl1⟩:∃ l1,Hid (T.drop i=l1):=⟨_,rfl⟩
            have hl1n:l1.length+i=T.length:=by rw [← hl1.out];simp;omega
            have hi8:(i:Int)≤8000:=by omega
            rw [hl1.out] at HPi
            cases l1 with
            | nil =>
              have hil:i=T.length:=by simpa using hl1n
              have hpe:partN T=T.length:=by have:=HPi.out;rw [show partN []=0 from rfl] at this;omega
              have hk1:decide ((i:Int)<(T.length:Int))=false:=decide_eq_false (by omega)
              have hk2:¬ i<T.length:=by omega
              have HTk:Hid (Tx u (T.take (partN T))):=by unfold Hid;rw [hpe,List.take_length];exact HU2.out
              clear hpe hl1n HPi
              go_wp2_with fail
              go_meet
              case rel=>exact ⟨u,rfl,HTk,rfl⟩
            | cons c t =>
              obtain ⟨hil,hp,hxc⟩:=HU2.out.byteK i c t hl1.out
              have hk1:decide ((i:Int)<(T.length:Int))=true:=decide_eq_true (by omega)
              have hk2:(i:Int)<(u.size:Int):=by omega
              have hi1:(i:Int)≤(u.size:Int):=by omega
              have HPc:=Lib.hid (partN_cons c t)
              have HD1:=Lib.hid (drop_cons hl1.out)
              by_cases h46:c=46
              · have hb:((c.toNat:Int) == 46)=true:=by subst h46;rfl
                have hpe:partN T=i:=by have:=HPi.out;rw [HPc.out,if_pos h46] at this;omega
                obtain ⟨v,hv,HV⟩:=HU2.out.upto i
                have HTk:Hid (Tx v (T.take (partN T))):=by unfold Hid;rw [hpe];exact HV.out
                clear hpe hl1n h46
                go_wp2_with fail
                go_meet
                case rel=>exact ⟨v,rfl,HTk,rfl⟩
              · have hb:((c.toNat:Int) == 46)=false:=by
                  rw [beq_eq_false_iff_ne];intro h;exact h46 (UInt8.toNat_inj.1 (by show _=46;omega))
                have hpe:Hid (partN T=partN t+(i+1)):=by unfold Hid;have:=HPi.out;rw [HPc.out,if_neg h46] at this;omega
                clear hl1n h46
                go_wp2_with fail
                go_roundw
                case rel=>exact ⟨i+1,rfl,by go_num,hil,by rw [HD1.out];exact hpe,trivial⟩
                case measure=>simp [intOf];omega
        case rest =>
          obtain ⟨u2,rfl,HU3,hwr⟩:=hcut
          obtain rfl:=hwr.symm
          go_wp2_with fail
          have hba:=refBase_any u2 (T.take (partN T)) w3 HU3.out
          obtain ⟨k2,HKk2⟩:∃ k,Hid (kindW (T.take (partN T))=k):=⟨_,rfl⟩
          rw [HKk2.out] at hba
          refine hba.mono ?_;rintro e w' ⟨rfl,hw'⟩
          obtain rfl:=hw'.symm
          clear hba
          by_cases h20:k2=0
          · have hb2:((k2:Int) != 0)=false:=by rw [bne_eq_false_iff_eq];omega
            have HR2:Hid (R=(0,.nm T,N)):=by
              unfold Hid;rw [HR.out];unfold nameT nameOk
              rw [HF.out,HKk2.out,decide_eq_true h20,if_pos (by rfl),HWL.out]
            clear h20
            go_wp2_with fail
            refine bodyPost_ret (results_cell_row rfl _ _ g _ _ _ _ rfl HT3.out.put4.2 Tryz.underlying59 rfl (by kernel_rfl)) rfl ?_
            refine ⟨0,u,⟨#[]⟩,⟨#[]⟩,K,rfl,?_,by omega,hNl,HOw.out.put4 HGW.out,fun h=>⟨?_,?_⟩⟩
            · rw [HR2.out];exact HC3.out.other4 hgb
            · rw [HR2.out];exact HK.out.symm
            · rw [HR2.out];exact ⟨rfl,HU2.out,rfl,rfl⟩
          · have hb2:((k2:Int) != 0)=true:=by rw [bne_iff_ne];omega
            have HR2:Hid (R=noTy 2):=by
              unfold Hid;rw [HR.out];unfold nameT nameOk
              rw [HF.out,HKk2.out,decide_eq_false h20];rfl
            clear h20
            go_wp2_with fail
            have hB5:=HT3.out.other hbg' 2 (.int .i64 2)
            refine bodyPost_ret (results_cell_row rfl _ _ g _ _ _ _ rfl hB5.put4.2 Tryz.underlying59 rfl (by kernel_rfl)) rfl ?_
            refine ⟨_,_,_,_,K,rfl,?_,by omega,hNl,HOw.out.own.put4 HGW.out,fun h=>by rw [HR2.out] at h;cases h⟩
            rw [HR2.out]
            exact (HC3.out.put2 2).other4 hgb
      · have hkb:((k:Int) == 0)=false:=by rw [beq_eq_false_iff_ne];omega
        have HR:Hid (R=addT N (witT r k (l.drop K))):=by unfold Hid;rw [HPW.out];exact if_neg hk0
        have hkw:isKw k:=by
          rcases kindW_is T with h | ⟨h,-⟩
          · rw [HKk.out] at h;exact absurd h hk0
          · rw [HKk.out] at h;exact h
        clear hk0
        by_cases hA:k≠13∧k≠14∧k≠15
        · have t15:((k:Int) != 15)=true:=by rw [bne_iff_ne];omega
          have t14:((k:Int) != 14)=true:=by rw [bne_iff_ne];omega
          have t13:((k:Int) != 13)=true:=by rw [bne_iff_ne];omega
          have HR2:Hid (R=(0,.bs k,N+0)):=by unfold Hid;rw [HR.out];unfold witT;rw [if_pos hA];rfl
          clear hA
          go_wp2_with fail
          refine bodyPost_ret (results_cell_row rfl _ _ g _ _ _ _ rfl HT3.out.put4.2 Tryz.underlying59 rfl (by kernel_rfl)) rfl ?_
          refine ⟨(k:Int),⟨#[]⟩,⟨#[]⟩,⟨#[]⟩,K,rfl,?_,by omega,hNl,HOw.out.put4 HGW.out,fun h=>⟨?_,?_⟩⟩
          · rw [HR2.out];exact HC3.out.other4 hgb
          · rw [HR2.out];exact HK.out.symm
          · rw [HR2.out];exact ⟨rfl,rfl,rfl,rfl⟩
        · have h3:k=13∨k=14∨k=15:=by omega
          cases r with
          | zero =>
            have d12:decide ((12:Int)<D)=true:=decide_eq_true (by omega)
            have d12':(12:Int)<D:=by omega
            have HR2:Hid (R=noTy 6):=by unfold Hid;rw [HR.out];unfold witT;rw [if_neg hA];rfl
            have ht:((k:Int) != 15)=false∨((k:Int) != 15)=true∧((k:Int) != 14)=false∨((k:Int) != 15)=true∧((k:Int) != 14)=true∧((k:Int) != 13)=false:=by
              rcases h3 with rfl | rfl | rfl
              · exact .inr (.inr ⟨rfl,rfl,rfl⟩)
              · exact .inr (.inl ⟨rfl,rfl⟩)
              · exact .inl rfl
            clear hA h3
            rcases ht with t15 | ⟨t15,t14⟩ | ⟨t15,t14,t13⟩
            all_goals
              go_wp2_with fail
              have hB5:=HT3.out.other hbg' 2 (.int .i64 6)
              refine bodyPost_ret (results_cell_row rfl _ _ g _ _ _ _ rfl hB5.put4.2 Tryz.underlying59 rfl (by kernel_rfl)) rfl ?_
              refine ⟨_,_,_,_,K,rfl,?_,by omega,hNl,HOw.out.own.put4 HGW.out,fun h=>by rw [HR2.out] at h;cases h⟩
              rw [HR2.out]
              exact (HC3.out.put2 6).other4 hgb
          | succ r =>
            have hN':=HN.out r rfl
            have d12:decide ((12:Int)<D)=false:=decide_eq_false (by omega)
            have d12':¬ (12:Int)<D:=by omega
            have HR2:Hid (R=addT N (innT (parT r) k (l.drop K))):=by unfold Hid;rw [HR.out];unfold witT;rw [if_neg hA]
            have ht:(((k:Int) != 15)=false∧((k:Int) == 13)=false∧k≠13)∨(((k:Int) != 15)=true∧((k:Int) != 14)=false∧((k:Int) == 13)=false∧k≠13)∨(((k:Int) != 15)=true∧((k:Int) != 14)=true∧((k:Int) != 13)=false∧((k:Int) == 13)=true∧k=13):=by
              rcases h3 with rfl | rfl | rfl
              · exact .inr (.inr ⟨rfl,rfl,rfl,rfl,rfl⟩)
              · exact .inr (.inl ⟨rfl,rfl,rfl,by decide⟩)
              · exact .inl ⟨rfl,rfl,by decide⟩
            have HN':=Lib.hid hN'
            obtain ⟨g2,hg2⟩:∃ g2,w3.heap.size=g2:=⟨_,rfl⟩
            have hB4:=Blk.new w3 #[.int .i64 (k:Int),.string ⟨#[]⟩,.string ⟨#[]⟩,.string ⟨#[]⟩] 59
            rw [hg2] at hB4
            have hgg:g<g2:=by rw [← hg2];exact HT3.out.lt
            have HC4:Hid (TyC (w3.alloc (.cells #[.int .i64 (k:Int),.string ⟨#[]⟩,.string ⟨#[]⟩,.string ⟨#[]⟩] 59)) b s K 0):=HC3.out.below (nx0 _ _)
            have HT4:Hid (Blk (w3.alloc (.cells #[.int .i64 (k:Int),.string ⟨#[]⟩,.string ⟨#[]⟩,.string ⟨#[]⟩] 59)) g g #[.int .i64 0,.string ⟨#[]⟩,.string ⟨#[]⟩,.string ⟨#[]⟩] 59):=HT3.out.below (nx0 _ _)
            have HO4:Hid (Oth b w (w3.alloc (.cells #[.int .i64 (k:Int),.string ⟨#[]⟩,.string ⟨#[]⟩,.string ⟨#[]⟩] 59))):=HOw.out.trans (Oth.nx (nx0 _ _))
            have HB4:=Lib.hid hB4
            clear hA h3 hN' hB4
            have hg2w:w.heap.size≤g2:=by have:=HGW.out;omega
            have hg2b:g2≠b:=by omega
            have hbg2:b≠g2:=by omega
            have hg2g:g2≠g:=by omega
            have HG2W:=Lib.hid hg2w
            clear hg2w
            obtain ⟨P,hP⟩:∃ P,Hid (parT r (l.drop (K+1))=P):=⟨_,rfl⟩
            obtain ⟨E1,hE1⟩:∃ E,Hid ((if (l.drop K).head? = some 60 then P.1 else 2)=E):=⟨_,rfl⟩
            have hin:=inn_in (parT r) l K
            have hbad:=inn_bad (parT r) k l K
            rw [hP.out,hE1.out] at hin hbad
            have HIN:=Lib.hid hin
            have HBAD:=Lib.hid hbad
            clear hin hbad
            rcases ht with ⟨t15,e13,hk13⟩ | ⟨t15,t14,e13,hk13⟩ | ⟨t15,t14,t13,e13,hk13⟩
            rotate_left 2
            · have HK13:=Lib.hid hk13
              clear hk13
              have hin2:=inn_two (parT r) l K
              have hinE:=inn_end (parT r) l K
              have HIN2:=Lib.hid hin2
              have HINE:=Lib.hid hinE
              clear hin2 hinE
              go_wp2_with fail
              generalize hW4:World.alloc w3 _=w4
              rw [hW4] at HC4 HT4 HO4 HB4
              clear hW4 c0 c1 c2 f1 f2 n0 n1 n2 n3 m0 m1 m2 m3
              refine (tpart_any r HN'.out b s l K 60 w4 D (by omega) hD1 HC4.out HL.out hNl hs).mono ?_;rintro e w5 ⟨A,o1,rfl,hC5,ho1,ho2,hO5,hok⟩
              rw [hP.out,hE1.out] at hC5
              rw [hP.out] at hok
              have HOK:=Lib.hid hok
              have HC5:=Lib.hid hC5
              have HB5:=Lib.hid (hO5.blk HB4.out hg2b)
              have HT5:=Lib.hid (hO5.blk HT4.out hgb)
              have HO5:=Lib.hid (HO4.out.trans hO5)
              clear hok hC5 hO5
              obtain ⟨p0,p1,p2,p3,q0,q1,q2,q3⟩:=cells4 HB5.out
              go_wp2_with fail
              have HC6:Hid (TyC (w5.setCell ⟨g2,2,none⟩ (.string A)) b s o1 E1):=HC5.out.other hg2b _ _
              have HB6:Hid (Blk (w5.setCell ⟨g2,2,none⟩ (.string A)) g2 g2 #[.int .i64 (k:Int),.string ⟨#[]⟩,.string A,.string ⟨#[]⟩] 59):=HB5.out.put 2 _
              have HT6:Hid (Blk (w5.setCell ⟨g2,2,none⟩ (.string A)) g g #[.int .i64 0,.string ⟨#[]⟩,.string ⟨#[]⟩,.string ⟨#[]⟩] 59):=HT5.out.other hg2g _ _
              have HO6:Hid (Oth b w (w5.setCell ⟨g2,2,none⟩ (.string A))):=HO5.out.put HG2W.out 2 _
              clear p0 p1 p2 p3 q0 q1 q2 q3
              generalize World.setCell w5 _ _=w6 at *
              by_cases hE0:E1=0
              · subst hE0
                obtain ⟨h60,hP0⟩:=HIN.out (by trivial)
                obtain ⟨ho1e,hAx⟩:=HOK.out h60 hP0
                have HAX:=Lib.hid hAx
                obtain ⟨Q,hQ⟩:∃ Q,Hid (parT r (l.drop (o1+1))=Q):=⟨_,rfl⟩
                obtain ⟨E2,hE2⟩:∃ E,Hid ((if (l.drop o1).head? = some 44 then Q.1 else 2)=E):=⟨_,rfl⟩
                have hbad2:=HIN2.out o1 P hP.out h60 hP0 ho1e
                have hin2:=inn_in' (parT r) l o1
                have hend:=fun o2=>HINE.out o1 o2 P Q hP.out h60 hP0 ho1e hQ.out
                rw [hQ.out,hE2.out] at hbad2 hin2
                have HBAD2:=Lib.hid hbad2
                have HIN2':=Lib.hid hin2
                have HEND:=Lib.hid hend
                clear hbad2 hin2 hend hAx
                refine (tpart_any r HN'.out b s l o1 44 w6 D (by omega) hD1 HC6.out HL.out ho2 hs).mono ?_;rintro e w7 ⟨B,o2,rfl,hC7,ho3,ho4,hO7,hok2⟩
                rw [hQ.out,hE2.out] at hC7
                rw [hQ.out] at hok2
                have HOK2:=Lib.hid hok2
                have HC7:=Lib.hid hC7
                have HB7:=Lib.hid (hO7.blk HB6.out hg2b)
                have HT7:=Lib.hid (hO7.blk HT6.out hgb)
                have HO7:=Lib.hid (HO6.out.trans hO7)
                clear hok2 hC7 hO7 h60 hP0
                obtain ⟨c0,c1,c2,f1,f2⟩:=HC7.out.cells
                obtain ⟨n0,n1,n2,n3,m0,m1,m2,m3⟩:=cells4 HT7.out
                obtain ⟨p0,p1,p2,p3,q0,q1,q2,q3⟩:=cells4 HB7.out
                by_cases hF0:E2=0
                · subst hF0
                  have c2:w7.cell? ⟨b,2,none⟩=some (.int .i64 0):=c2
                  go_wp2_with fail
                  have HC8:Hid (TyC (w7.setCell ⟨g2,3,none⟩ (.string B)) b s o2 0):=HC7.out.other hg2b _ _
                  have HB8:Hid (Blk (w7.setCell ⟨g2,3,none⟩ (.string B)) g2 g2 #[.int .i64 (k:Int),.string ⟨#[]⟩,.string A,.string B] 59):=HB7.out.put 3 _
                  have HT8:Hid (Blk (w7.setCell ⟨g2,3,none⟩ (.string B)) g g #[.int .i64 0,.string ⟨#[]⟩,.string ⟨#[]⟩,.string ⟨#[]⟩] 59):=HT7.out.other hg2g _ _
                  have HO8:Hid (Oth b w (w7.setCell ⟨g2,3,none⟩ (.string B))):=HO7.out.put HG2W.out 3 _
                  clear c0 c1 c2 f1 f2 n0 n1 n2 n3 m0 m1 m2 m3 p0 p1 p2 p3 q0 q1 q2 q3
                  generalize World.setCell w7 _ _=w8 at *
                  refine (tsign_any b s l o2 62 w8 HC8.out HL.out ho4 hs).mono ?_;rintro e w9 ⟨rfl,hC9,hO9⟩
                  obtain ⟨h44,hQ0⟩:=HIN2'.out (by trivial)
                  obtain ⟨ho2e,hBx⟩:=HOK2.out h44 hQ0
                  have hin1:=HEND.out o2 h44 hQ0 ho2e
                  have HB9:=Lib.hid (hO9.blk HB8.out hg2b)
                  have HT9:=Lib.hid (hO9.blk HT8.out hgb)
                  have HO9:=Lib.hid (HO8.out.trans hO9)
                  have HC9:=Lib.hid hC9
                  have HIN1:=Lib.hid hin1
                  have HBX:=Lib.hid hBx
                  clear hO9 hC9 hin1 hBx h44 hQ0
                  obtain ⟨n0,n1,n2,n3,m0,m1,m2,m3⟩:=cells4 HT9.out
                  obtain ⟨p0,p1,p2,p3,q0,q1,q2,q3⟩:=cells4 HB9.out
                  go_wp2_with fail
                  refine bodyPost_ret (results_cell_row rfl _ _ g _ _ _ _ rfl HT9.out.put4.2 Tryz.underlying59 rfl (by kernel_rfl)) rfl ?_
                  have hKo:=HK.out
                  have hk13:=HK13.out
                  by_cases hh:(l.drop o2).head? = some 62
                  · have hC9:=HC9.out
                    rw [if_pos hh,if_pos hh] at hC9
                    have HR3:R=(0,.mp P.2.1 Q.2.1,N+(1+P.2.2+1+Q.2.2+1)):=by rw [HR2.out,hk13,HIN1.out,if_pos hh];rfl
                    refine ⟨(k:Int),⟨#[]⟩,A,B,o2+1,rfl,?_,by omega,?_,HO9.out.put4 HGW.out,fun h=>⟨?_,?_⟩⟩
                    · rw [HR3];exact hC9.other4 hgb
                    · exact (head_take l 62 o2 hh).2
                    · rw [HR3];dsimp only;omega
                    · rw [HR3];exact ⟨by rw [hk13];rfl,rfl,HAX.out,HBX.out⟩
                  · have hC9:=HC9.out
                    rw [if_neg hh,if_neg hh] at hC9
                    have HR3:R=noTy 2:=by rw [HR2.out,hk13,HIN1.out,if_neg hh];rfl
                    refine ⟨_,_,_,_,o2+0,rfl,?_,by omega,by omega,HO9.out.put4 HGW.out,fun h=>by rw [HR3] at h;cases h⟩
                    rw [HR3];exact hC9.other4 hgb
                · have hEb:((E2:Int) == 0)=false:=by rw [beq_eq_false_iff_ne];omega
                  have hR1:R.1=E2:=by rw [HR2.out,addT_err,HK13.out,HBAD2.out hF0]
                  have HR1:=Lib.hid hR1
                  have HF0:=Lib.hid hF0
                  clear hR1 hF0
                  go_wp2_with fail
                  have hB8:=HT7.out.other hg2g 3 (.string B)
                  refine bodyPost_ret (results_cell_row rfl _ _ g _ _ _ _ rfl hB8.put4.2 Tryz.underlying59 rfl (by kernel_rfl)) rfl ?_
                  have hKo:=HK.out
                  refine ⟨_,_,_,_,o2,rfl,?_,by omega,ho4,(HO7.out.put HG2W.out 3 _).put4 HGW.out,fun h=>by rw [HR1.out] at h;exact absurd h HF0.out⟩
                  rw [HR1.out]
                  exact (HC7.out.other hg2b 3 _).other4 hgb
              · have hEb:((E1:Int) == 0)=false:=by rw [beq_eq_false_iff_ne];omega
                have hR1:R.1=E1:=by rw [HR2.out,addT_err,HBAD.out hE0]
                have HR1:=Lib.hid hR1
                refine (tpart_err b s o1 E1 44 w6 D HC6.out hE0).mono ?_;rintro e w' ⟨rfl,hw'⟩
                obtain rfl:=hw'.symm
                have HE0:=Lib.hid hE0
                clear hR1 hE0
                obtain ⟨c0,c1,c2,f1,f2⟩:=HC6.out.cells
                obtain ⟨n0,n1,n2,n3,m0,m1,m2,m3⟩:=cells4 HT6.out
                obtain ⟨p0,p1,p2,p3,q0,q1,q2,q3⟩:=cells4 HB6.out
                go_wp2_with fail
                have hB8:=HT6.out.other hg2g 3 (.string ⟨#[]⟩)
                refine bodyPost_ret (results_cell_row rfl _ _ g _ _ _ _ rfl hB8.put4.2 Tryz.underlying59 rfl (by kernel_rfl)) rfl ?_
                have hKo:=HK.out
                refine ⟨_,_,_,_,o1,rfl,?_,by omega,ho2,(HO6.out.put HG2W.out 3 _).put4 HGW.out,fun h=>by rw [HR1.out] at h;exact absurd h HE0.out⟩
                rw [HR1.out]
                exact (HC6.out.other hg2b 3 _).other4 hgb
            all_goals
              have HK13:=Lib.hid hk13
              clear hk13
              go_wp2_with fail
              generalize hW4:World.alloc w3 _=w4
              rw [hW4] at HC4 HT4 HO4 HB4
              clear hW4 c0 c1 c2 f1 f2 n0 n1 n2 n3 m0 m1 m2 m3
              refine (tpart_any r HN'.out b s l K 60 w4 D (by omega) hD1 HC4.out HL.out hNl hs).mono ?_;rintro e w5 ⟨A,o1,rfl,hC5,ho1,ho2,hO5,hok⟩
              rw [hP.out,hE1.out] at hC5
              rw [hP.out] at hok
              have HOK:=Lib.hid hok
              have HC5:=Lib.hid hC5
              have HB5:=Lib.hid (hO5.blk HB4.out hg2b)
              have HT5:=Lib.hid (hO5.blk HT4.out hgb)
              have HO5:=Lib.hid (HO4.out.trans hO5)
              clear hok hC5 hO5
              obtain ⟨c0,c1,c2,f1,f2⟩:=HC5.out.cells
              obtain ⟨n0,n1,n2,n3,m0,m1,m2,m3⟩:=cells4 HT5.out
              obtain ⟨p0,p1,p2,p3,q0,q1,q2,q3⟩:=cells4 HB5.out
              by_cases hE0:E1=0
              · subst hE0
                have c2:w5.cell? ⟨b,2,none⟩=some (.int .i64 0):=c2
                go_wp2_with fail
                have HC6:Hid (TyC (w5.setCell ⟨g2,2,none⟩ (.string A)) b s o1 0):=HC5.out.other hg2b _ _
                have HB6:Hid (Blk (w5.setCell ⟨g2,2,none⟩ (.string A)) g2 g2 #[.int .i64 (k:Int),.string ⟨#[]⟩,.string A,.string ⟨#[]⟩] 59):=HB5.out.put 2 _
                have HT6:Hid (Blk (w5.setCell ⟨g2,2,none⟩ (.string A)) g g #[.int .i64 0,.string ⟨#[]⟩,.string ⟨#[]⟩,.string ⟨#[]⟩] 59):=HT5.out.other hg2g _ _
                have HO6:Hid (Oth b w (w5.setCell ⟨g2,2,none⟩ (.string A))):=HO5.out.put HG2W.out 2 _
                clear c0 c1 c2 f1 f2 n0 n1 n2 n3 m0 m1 m2 m3 p0 p1 p2 p3 q0 q1 q2 q3
                generalize World.setCell w5 _ _=w6 at *
                refine (tsign_any b s l o1 62 w6 HC6.out HL.out ho2 hs).mono ?_;rintro e w7 ⟨rfl,hC7,hO7⟩
                obtain ⟨h60,hP0⟩:=HIN.out (by trivial)
                obtain ⟨ho1e,hAx⟩:=HOK.out h60 hP0
                have hin1:=inn_one (parT r) k l K o1 P hP.out h60 hP0 HK13.out ho1e
                have HB7:=Lib.hid (hO7.blk HB6.out hg2b)
                have HT7:=Lib.hid (hO7.blk HT6.out hgb)
                have HO7:=Lib.hid (HO6.out.trans hO7)
                have HC7:=Lib.hid hC7
                have HIN1:=Lib.hid hin1
                have HAX:=Lib.hid hAx
                clear hO7 hC7 hin1 hAx h60 hP0
                obtain ⟨n0,n1,n2,n3,m0,m1,m2,m3⟩:=cells4 HT7.out
                obtain ⟨p0,p1,p2,p3,q0,q1,q2,q3⟩:=cells4 HB7.out
                go_wp2_with fail
                refine bodyPost_ret (results_cell_row rfl _ _ g _ _ _ _ rfl HT7.out.put4.2 Tryz.underlying59 rfl (by kernel_rfl)) rfl ?_
                have hKo:=HK.out
                by_cases hh:(l.drop o1).head? = some 62
                · have hC7:=HC7.out
                  rw [if_pos hh,if_pos hh] at hC7
                  have HR3:R=(0,.l1 k P.2.1,N+(1+P.2.2+1)):=by rw [HR2.out,HIN1.out,if_pos hh];rfl
                  refine ⟨(k:Int),⟨#[]⟩,A,⟨#[]⟩,o1+1,rfl,?_,by omega,?_,HO7.out.put4 HGW.out,fun h=>⟨?_,?_⟩⟩
                  · rw [HR3];exact hC7.other4 hgb
                  · exact (head_take l 62 o1 hh).2
                  · rw [HR3];dsimp only;omega
                  · rw [HR3];exact ⟨rfl,rfl,HAX.out,rfl⟩
                · have hC7:=HC7.out
                  rw [if_neg hh,if_neg hh] at hC7
                  have HR3:R=noTy 2:=by rw [HR2.out,HIN1.out,if_neg hh];rfl
                  refine ⟨_,_,_,_,o1+0,rfl,?_,by omega,by omega,HO7.out.put4 HGW.out,fun h=>by rw [HR3] at h;cases h⟩
                  rw [HR3];exact hC7.other4 hgb
              · have hEb:((E1:Int) == 0)=false:=by rw [beq_eq_false_iff_ne];omega
                have hR1:R.1=E1:=by rw [HR2.out,addT_err,HBAD.out hE0]
                have HR1:=Lib.hid hR1
                have HE0:=Lib.hid hE0
                clear hR1 hE0
                go_wp2_with fail
                have hB6:=HT5.out.other hg2g 2 (.string A)
                refine bodyPost_ret (results_cell_row rfl _ _ g _ _ _ _ rfl hB6.put4.2 Tryz.underlying59 rfl (by kernel_rfl)) rfl ?_
                have hKo:=HK.out
                refine ⟨_,_,_,_,o1,rfl,?_,by omega,ho2,(HO5.out.put HG2W.out 2 _).put4 HGW.out,fun h=>by rw [HR1.out] at h;exact absurd h HE0.out⟩
                rw [HR1.out]
                exact (HC5.out.other hg2b 2 _).other4 hgb
theorem node_all:∀ r,NodeC r:=by
 intro r
 induction r with
 | zero=>exact node_step 0 (fun r' h=>by omega)
 | succ r ih=>exact node_step (r+1) (fun r' h=>Nat.succ.inj h ▸ ih)
end Go.Proofs.YtbblfkdmkpkmcaaGreatDoor
