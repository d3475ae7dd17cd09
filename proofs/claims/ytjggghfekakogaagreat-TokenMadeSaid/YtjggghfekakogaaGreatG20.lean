/- The contract of the document's lexer: a name. The contracts of the document's lexer: what stands behind a number, digits in sixteens. The contract of the document's lexer: a number in sixteens. -/
import Derived.Test.YtjggghfekakogaaGreatG19
import Derived.Test.YtjggghfekakogaaGreatG17
import Derived.Laws.Rows
import Derived.Deep.DeepCutAuto
import Derived.Test.YtjggghfekakogaaGreatG16
set_option linter.unusedVariables false
set_option linter.unusedSimpArgs false
set_option linter.unnecessarySimpa false
namespace Go.Proofs.YtjggghfekakogaaGreat
open Go.RowKit
def WordR (e':Ending) (b:Nat) (s:ByteArray) (o:Nat) (W:Nat×Nat×TokV×Nat) (w w':World):Prop :=
 ∃ k t v d p,e' = .returned (.agg #[.int .i64 k,.string t,.int .i64 v,.int .u64 d,.int .i64 p]) ∧
  ∃ i',Lxb w' b s i' W.1 (if W.1=0 then 0 else o+W.2.1)∧(W.1=0→#[.int .i64 k,.string t,.int .i64 v,.int .u64 d,.int .i64 p]=tokC { W.2.2.1 with p:=o }∧i'=o+W.2.2.2)∧Oth b w w'
theorem dotBad_step (l:List UInt8) (i:Nat) (hi:i<l.length):dotBad (l.drop i)=(decide (l[i].toNat=46) && ((l.drop (i+1)).isEmpty || decide ((l.drop (i+1)).head? = some 46)) || dotBad (l.drop (i+1))):=by
 rw [List.drop_eq_getElem_cons hi]
 rfl
theorem Blk.oth5 {w:World} {B g k:Nat} {cs:Array Value} {T:TypeId} {v0 v1 v2 v3 v4:Value} (h:Blk w B g cs T) (hk:k≠g) :
  Blk (((((w.setCell ⟨k,0,none⟩ v0).setCell ⟨k,1,none⟩ v1).setCell ⟨k,2,none⟩ v2).setCell ⟨k,3,none⟩ v3).setCell ⟨k,4,none⟩ v4) B g cs T :=
 ((((h.other hk _ _).other hk _ _).other hk _ _).other hk _ _).other hk _ _
set_option maxRecDepth 100000 in
set_option maxHeartbeats 12800000 in
theorem refName_any (b:Nat) (s:ByteArray) (l:List UInt8) (o:Nat) (w:World) (hB:Lxb w b s o 0 0) (hl:Tx s l) (ho:o≤l.length) (hs:(l.length:Int)≤8000) :
    Calls Tryz.prog 35 #[.pointer (some ⟨b,0,none⟩)] w fun e' w'=>WordR e' b s o ((nameS (l.drop o)).1,0,(nameS (l.drop o)).2) w w':=by
  have hz:(s.size:Int)=(l.length:Int):=by rw [hl.size]
  obtain ⟨g,hg⟩:∃ g,w.heap.size=g:=⟨_,rfl⟩
  have hbg:b<g:=by rw [← hg];exact hB.lt
  have hT0:=Blk.new w #[.int .i64 0,.string ⟨#[]⟩,.int .i64 0,.int .u64 0,.int .i64 0] 43
  rw [hg] at hT0
  have hN0:Nx w (w.alloc (Obj.cells #[.int .i64 0,.string ⟨#[]⟩,.int .i64 0,.int .u64 0,.int .i64 0] 43)):=nx0 _ _
  have HL:=Lib.hid hl
  have HB0:Hid (Lxb (w.alloc (Obj.cells #[.int .i64 0,.string ⟨#[]⟩,.int .i64 0,.int .u64 0,.int .i64 0] 43)) b s o 0 0):=hB.below hN0
  obtain ⟨N,hN⟩:∃ N,Hid (spanN isNmS (l.drop o)=N):=⟨_,rfl⟩
  have hNl:o+N≤l.length:=by
    have:=spanN_le isNmS (l.drop o)
    rw [hN.out,List.length_drop] at this;omega
  obtain ⟨T,hT⟩:∃ T,Hid ((l.drop o).take N=T):=⟨_,rfl⟩
  have hTl:T.length=N:=by rw [← hT.out];simp;omega
  obtain ⟨X,hX⟩:∃ X,Hid (nameS (l.drop o)=X):=⟨_,rfl⟩
  have HX:Hid (X=if 120<N then (4,tok0,0) else if dotBad T then (2,tok0,0) else (0,⟨1,T,0,0,0⟩,N)):=by
    unfold Hid;rw [← hX.out];unfold nameS;rw [hN.out,hT.out]
  rw [hX.out]
  obtain ⟨u,hu,HU⟩:=hl.mid o (o+N)
  have HU2:Hid (Tx u T):=by
    have h:=HU.out
    rw [List.drop_take,show o+N - o=N by omega,hT.out] at h
    exact h
  clear hl hB HU
  go_enter Tryz.func35,Tryz.ntmps35
  obtain ⟨c0,c1,c2,c3,f0,f1,f2,f3⟩:=Lxb.cells HB0.out
  go_upto_block 0 with fail
  generalize hW1:World.alloc _ _=w1 at *
  clear hW1 c0 c1 c2 c3 f0 f1 f2 f3
  have HT0:=Lib.hid hT0
  clear hT0
  go_cut [] (fun wx=>Lxb wx b s (o+N) 0 0∧Oth b w1 wx)
  case first =>
   go_wp2_with fail
   go_loopw [] (fun wx=>∃ m:Nat,Lxb wx b s (o+m) 0 0∧m≤N∧Oth b w1 wx) (fun wx=>10000 - atL b wx)
   case atStart=>exact ⟨0,HB0.out,Nat.zero_le _,Oth.refl _ _⟩
   case round =>
     obtain ⟨m,hCm,hmN,hOm⟩:=hrel
     have hsp:=lxspan_at isNmS (l.drop o) m (by rw [hN.out];exact hmN)
     rw [hN.out,List.drop_drop] at hsp
     obtain ⟨K,hK⟩:∃ K,o+m=K:=⟨_,rfl⟩
     rw [hK] at hCm hsp
     have hat:=Lxb.at_ hCm
     have HCm:=Lib.hid hCm
     have HOm:=Lib.hid hOm
     obtain ⟨c0,c1,c2,c3,f0,f1,f2,f3⟩:=Lxb.cells hCm
     clear hCm hOm
     by_cases hlt:m<N
     · obtain ⟨d,t,hd,hdp⟩:=hsp.1 hlt
       obtain ⟨h2l,h2s,h2c⟩:=HL.out.byte K d t hd
       have k1:decide ((K:Int)<(l.length:Int))=true:=decide_eq_true (by omega)
       have k2:(K:Int)<(s.size:Int):=by omega
       have k4:(K:Int)≤8000:=by omega
       rw [isNm_iff] at hdp
       have hdg:=fun w=>refDigit_any d w
       have hlg:=fun w=>refLetter_any d w
       generalize isLtS d=BL at *
       generalize isDig d=BD at *
       have h3:BL=true∨BL=false∧BD=true∨BL=false∧BD=false∧((d.toNat:Int) == 46)=true:=by
         cases BL
         · cases BD
           · right;right
             refine ⟨rfl,rfl,?_⟩
             simp at hdp
             rw [beq_iff_eq];omega
           · exact .inr (.inl ⟨rfl,rfl⟩)
         · exact .inl rfl
       clear hsp hd hdp
       rcases h3 with rfl | ⟨rfl,rfl⟩ | ⟨rfl,rfl,b46⟩
       all_goals
         go_wp2_with fail
         go_quiet (first | exact Calls.quiet_of_same (hlg _) | exact Calls.quiet_of_same (hdg _))
         generalize hW:World.drewN _ _=w3
         have HC3:Hid (Lxb w3 b s K 0 0):=by rw [← hW];exact HCm.out.drew _
         have HO3:Hid (Oth b w1 w3):=by rw [← hW];exact HOm.out.trans (Oth.nx ((Nx.refl _).dr _))
         clear hW c0 c1 c2 c3 f0 f1 f2 f3
         obtain ⟨c0,c1,c2,c3,f0,f1,f2,f3⟩:=Lxb.cells HC3.out
         go_wp2_with fail
         have ek:(K:Int)+1=((K+1:Nat):Int):=by omega
         go_roundw
         case rel =>
           rw [ek]
           refine ⟨m+1,?_,hlt,HO3.out.own⟩
           rw [show o+(m+1)=K+1 by omega]
           exact HC3.out.put1 _
         case measure =>
           rw [ek,(HC3.out.put1 (K+1)).at_,hat]
           omega
     · obtain rfl:m=N:=by omega
       have hend:=hsp.2 rfl
       have hk:decide ((K:Int)<(l.length:Int))=false∧¬ K<l.length∨∃ (hp:K<s.size) (d:UInt8),decide ((K:Int)<(l.length:Int))=true∧K<l.length∧(K:Int)<(s.size:Int)∧s[K]'hp=d∧isLtS d=false∧isDig d=false∧((d.toNat:Int) == 46)=false:=by
         rcases hend with h | ⟨d,t,h,hd⟩
         · rw [List.drop_eq_nil_iff] at h
           exact .inl ⟨decide_eq_false (by omega),by omega⟩
         · obtain ⟨h2l,h2s,h2c⟩:=HL.out.byte K d t h
           rw [isNm_iff] at hd
           simp at hd
           exact .inr ⟨h2s,d,decide_eq_true (by omega),h2l,by omega,h2c,hd.1.1,hd.1.2,by rw [beq_eq_false_iff_ne];omega⟩
       clear hend hsp hlt
       rcases hk with ⟨k1,k2⟩ | ⟨h2s,d,k1,k0,k2,k3,hbl,hbd,b46⟩
       · go_wp2_with fail
         go_quiet (fail)
         go_wp2_with fail
         go_meet
         case rel=>exact ⟨by rw [hK];exact HCm.out.drew _,HOm.out.trans (Oth.nx ((Nx.refl _).dr _))⟩
       · have hdg:=fun w=>refDigit_any d w
         have hlg:=fun w=>refLetter_any d w
         rw [hbd] at hdg
         rw [hbl] at hlg
         go_wp2_with fail
         go_quiet (first | exact Calls.quiet_of_same (hlg _) | exact Calls.quiet_of_same (hdg _))
         go_wp2_with fail
         go_meet
         case rel=>exact ⟨by rw [hK];exact HCm.out.drew _,HOm.out.trans (Oth.nx ((Nx.refl _).dr _))⟩
  case rest =>
    obtain ⟨hCn,hOn⟩:=hcut
    obtain ⟨K,hK⟩:∃ K,o+N=K:=⟨_,rfl⟩
    rw [hK] at hCn hu hNl
    have HCn:=Lib.hid hCn
    have HOn:=Lib.hid hOn
    obtain ⟨c0,c1,c2,c3,f0,f1,f2,f3⟩:=Lxb.cells hCn
    have i1:(o:Int)≤(K:Int):=by omega
    have i2:(K:Int)≤(s.size:Int):=by omega
    have i3:(K:Int)≤8000:=by omega
    have hus:(u.size:Int)=(N:Int):=by rw [HU2.out.size,hTl]
    clear hCn hOn
    go_wp2_with fail
    go_quiet (fail)
    generalize hW:World.drewN _ _=w3
    have HC3:Hid (Lxb w3 b s K 0 0):=by rw [← hW];exact HCn.out.drew _
    have HO3:Hid (Oth b w1 w3):=by rw [← hW];exact HOn.out.trans (Oth.nx ((Nx.refl _).dr _))
    have HT3:Hid (Blk w3 g g #[.int .i64 0,.string ⟨#[]⟩,.int .i64 0,.int .u64 0,.int .i64 0] 43):=HO3.out.blk HT0.out (by omega)
    have HOw:Hid (Oth b w w3):=Oth.mono HO3.out hN0
    clear hW c0 c1 c2 c3 f0 f1 f2 f3
    have hgw:w.heap.size≤g:=by omega
    by_cases h120:120<N
    · have g1:decide ((120:Int)<(N:Int))=true:=decide_eq_true (by omega)
      have HX2:Hid (X=(4,tok0,0)):=by unfold Hid;rw [HX.out,if_pos h120]
      go_wp2_with fail
      refine (lxfail_any b s K 0 0 4 o _ HC3.out).mono ?_;rintro e w4 ⟨rfl,hC4,hO4⟩
      have HT4:=hO4.blk HT3.out (by omega)
      have hOw4:=HOw.out.trans hO4
      have HC4:=Lib.hid hC4
      obtain ⟨c0,c1,c2,c3,c4,f0,f1,f2,f3,f4⟩:=cells5 HT4
      go_wp2_with fail
      refine bodyPost_ret (results_cell_row rfl _ _ g _ _ _ _ rfl HT4.put5.2 Tryz.underlying43 rfl (by kernel_rfl)) rfl ?_
      rw [HX2.out]
      exact ⟨_,_,_,_,_,rfl,K,Blk.oth5 HC4.out (by omega),fun h=>by simp at h,hOw4.put5 hgw⟩
    · have g1:decide ((120:Int)<(N:Int))=false:=decide_eq_false (by omega)
      have g1':¬ 120<N:=h120
      have HX2:Hid (X=if dotBad T then (2,tok0,0) else (0,⟨1,T,0,0,0⟩,N)):=by unfold Hid;rw [HX.out,if_neg h120]
      go_wp2_with fail
      go_loopw [5] (fun iv wx=>∃ (i:Nat) (fd:Bool),iv = .int .i64 i∧i≤N∧Lxb wx b s K (if fd then 2 else 0) (if fd then o else 0)∧Hid (dotBad T=(fd || dotBad (T.drop i)))∧Oth b w3 wx) (fun iv _=>(10000 - intOf iv).toNat)
      case atStart=>exact ⟨0,false,rfl,Nat.zero_le _,HC3.out,by unfold Hid;simp,Oth.refl _ _⟩
      case round =>
        obtain ⟨i,fd,rfl,hi,hCi,HDB,hOi⟩:=hrel
        have hst:Hid (∀ h:i<T.length,dotBad (T.drop i)=(decide (T[i].toNat=46) && ((T.drop (i+1)).isEmpty || decide ((T.drop (i+1)).head? = some 46)) || dotBad (T.drop (i+1)))):=fun h=>dotBad_step T i h
        have HCi:=Lib.hid hCi
        have HOi:=Lib.hid hOi
        have hiI:(i:Int)≤8000:=by omega
        clear hCi hOi
        by_cases hlt:i<N
        · have hiT:i<T.length:=by omega
          obtain ⟨hp,e0⟩:=HU2.out.idx i hiT
          obtain ⟨d,hd⟩:∃ d,T[i]=d:=⟨_,rfl⟩
          have hst2:=hst.out hiT
          rw [hd] at e0 hst2
          have HST:=Lib.hid hst2
          have k1:decide ((i:Int)<(N:Int))=true:=decide_eq_true (by omega)
          have k2:(i:Int)<(u.size:Int):=by omega
          clear hst hst2 hd
          have hB46:(((d.toNat:Int) == 46)=false∧decide (d.toNat=46)=false)∨(((d.toNat:Int) == 46)=true∧decide (d.toNat=46)=true):=by
            by_cases h:d.toNat=46
            · exact .inr ⟨by rw [beq_iff_eq];omega,decide_eq_true h⟩
            · exact .inl ⟨by rw [beq_eq_false_iff_ne];omega,decide_eq_false h⟩
          rcases hB46 with ⟨b46,q46⟩ | ⟨b46,q46⟩
          · have HN2:Hid (dotBad T=(fd || dotBad (T.drop (i+1)))):=by unfold Hid;rw [HDB.out,HST.out,q46];simp
            clear q46
            go_wp2_with fail
            go_roundw
            case rel=>exact ⟨i+1,fd,by go_num,hlt,HCi.out,HN2,HOi.out⟩
            case measure=>simp [intOf];omega
          ·
            have hnx:(((i:Int) == (N:Int) - 1)=true∧((T.drop (i+1)).isEmpty || decide ((T.drop (i+1)).head? = some 46))=true) ∨
                (((i:Int) == (N:Int) - 1)=false∧∃ (hp2:i+1<u.size) (d2:UInt8),(i:Int)+1<(u.size:Int)∧u[i+1]'hp2=d2∧((T.drop (i+1)).isEmpty || decide ((T.drop (i+1)).head? = some 46))=((d2.toNat:Int) == 46)):=by
              by_cases hl:i+1=N
              · left
                refine ⟨by rw [beq_iff_eq];omega,?_⟩
                rw [List.drop_eq_nil_iff.2 (by omega)];rfl
              · right
                have h2:i+1<T.length:=by omega
                obtain ⟨hp2,e2⟩:=HU2.out.idx (i+1) h2
                refine ⟨by rw [beq_eq_false_iff_ne];omega,hp2,T[i+1],by omega,e2,?_⟩
                rw [List.drop_eq_getElem_cons h2]
                simp only [List.isEmpty_cons,Bool.false_or,List.head?_cons,Option.some.injEq]
                rw [Bool.eq_iff_iff,decide_eq_true_iff,beq_iff_eq]
                constructor
                · intro h;rw [h];rfl
                · intro h;apply UInt8.toNat_inj.1;have:T[i+1].toNat=46:=by omega
                  rw [this];rfl
            obtain ⟨B,hB⟩:∃ B,((T.drop (i+1)).isEmpty || decide ((T.drop (i+1)).head? = some 46))=B:=⟨_,rfl⟩
            have HN2:Hid (dotBad T=(fd || (B || dotBad (T.drop (i+1))))):=by unfold Hid;rw [HDB.out,HST.out,q46,hB,Bool.true_and]
            rw [hB] at hnx
            have hnx2:(((i:Int) == (N:Int) - 1)=true∧B=true)∨(((i:Int) == (N:Int) - 1)=false∧∃ (hp2:i+1<u.size) (d2:UInt8),(i:Int)+1<(u.size:Int)∧u[i+1]'hp2=d2∧((d2.toNat:Int) == 46)=B):=by
              rcases hnx with h | ⟨h,hp2,d2,h1,h2,h3⟩
              · exact .inl h
              · exact .inr ⟨h,hp2,d2,h1,h2,h3.symm⟩
            clear hnx q46 hB
            rcases hnx2 with ⟨n1,rfl⟩ | ⟨n1,hp2,d2,n2,n3,n4⟩
            · go_wp2_with fail
              refine (lxfail_any b s K _ _ 2 o _ HCi.out).mono ?_;rintro e w4 ⟨rfl,hC4,hO4⟩
              have HC4:=Lib.hid hC4
              have HO4:=Lib.hid hO4
              clear hC4 hO4
              go_wp2_with fail
              go_roundw
              case rel=>exact ⟨i+1,true,by go_num,hlt,HC4.out,by unfold Hid;rw [HN2.out];simp,HOi.out.trans HO4.out⟩
              case measure=>simp [intOf];omega
            · cases B
              · go_wp2_with fail
                go_roundw
                case rel=>exact ⟨i+1,fd,by go_num,hlt,HCi.out,by unfold Hid;rw [HN2.out,Bool.false_or],HOi.out⟩
                case measure=>simp [intOf];omega
              · go_wp2_with fail
                refine (lxfail_any b s K _ _ 2 o _ HCi.out).mono ?_;rintro e w4 ⟨rfl,hC4,hO4⟩
                have HC4:=Lib.hid hC4
                have HO4:=Lib.hid hO4
                clear hC4 hO4
                go_wp2_with fail
                go_roundw
                case rel=>exact ⟨i+1,true,by go_num,hlt,HC4.out,by unfold Hid;rw [HN2.out];simp,HOi.out.trans HO4.out⟩
                case measure=>simp [intOf];omega
        · have HF:Hid (dotBad T=fd):=by
            unfold Hid;rw [HDB.out,List.drop_eq_nil_iff.2 (by omega)];simp [dotBad]
          have k1:decide ((i:Int)<(N:Int))=false:=decide_eq_false (by omega)
          have k1':¬ i<N:=hlt
          have HT5:Hid (Blk wr g g #[.int .i64 0,.string ⟨#[]⟩,.int .i64 0,.int .u64 0,.int .i64 0] 43):=HOi.out.blk HT3.out (by omega)
          have hOw5:=HOw.out.trans HOi.out
          obtain ⟨c0,c1,c2,c3,c4,f0,f1,f2,f3,f4⟩:=cells5 HT5.out
          clear hst
          go_wp2_with fail
          refine bodyPost_ret (results_cell_row rfl _ _ g _ _ _ _ rfl HT5.out.put5.2 Tryz.underlying43 rfl (by kernel_rfl)) rfl ?_
          have hx:=HX2.out
          rw [HF.out] at hx
          have hC:=HCi.out
          cases fd
          · rw [if_neg (by simp)] at hx
            rw [hx]
            refine ⟨_,_,_,_,_,rfl,K,Blk.oth5 hC (by omega),fun _=>⟨?_,hK.symm⟩,hOw5.put5 hgw⟩
            rw [HU2.out.eq];rfl
          · rw [if_pos rfl] at hx
            rw [hx]
            exact ⟨_,_,_,_,_,rfl,K,Blk.oth5 hC (by omega),fun h=>by simp at h,hOw5.put5 hgw⟩
end Go.Proofs.YtjggghfekakogaaGreat
namespace Go.Proofs.YtjggghfekakogaaGreat
open Go.RowKit
def gosR:List UInt8→Bool
 | []=>false
 | c :: _=>isLtS c || decide (c.toNat=46)
set_option maxRecDepth 100000 in
set_option maxHeartbeats 6400000 in
theorem behind_any (b:Nat) (s:ByteArray) (l:List UInt8) (o i:Nat) (k v:Int) (t:ByteArray) (d E:Nat) (w:World) (hB:Lxb w b s i 0 0) (hl:Tx s l) (hi:i≤l.length) (hs:(l.length:Int)≤8000) :
  Calls Tryz.prog 67 #[.pointer (some ⟨b,0,none⟩),.agg #[.int .i64 k,.string t,.int .i64 v,.int .u64 (d:Int),.int .i64 (o:Int)],.int .i64 (E:Int)] w fun e' w' =>
   e' = .returned (.agg #[.int .i64 k,.string t,.int .i64 v,.int .u64 (d:Int),.int .i64 (o:Int)]) ∧
   Lxb w' b s i (if E≠0 then E else if gosR (l.drop i) then 2 else 0) (if E≠0 then o else if gosR (l.drop i) then i else 0)∧Oth b w w':=by
 have hz:(s.size:Int)=(l.length:Int):=by rw [hl.size]
 have HL:=Lib.hid hl
 obtain ⟨g,hg⟩:∃ g,w.heap.size=g:=⟨_,rfl⟩
 have hbg:b<g:=by rw [← hg];exact hB.lt
 obtain ⟨G,hG⟩:∃ G,Hid (gosR (l.drop i)=G):=⟨_,rfl⟩
 rw [hG.out]
 have HB:=Lib.hid hB
 obtain ⟨c0,c1,c2,c3,f0,f1,f2,f3⟩:=Lxb.cells hB
 clear hl hB
 have hcase:(∃ (c:UInt8) (hp:i<s.size),decide ((i:Int)<(l.length:Int))=true∧i<l.length∧(i:Int)<(s.size:Int)∧s[i]'hp=c∧(isLtS c || decide (c.toNat=46))=G)∨(decide ((i:Int)<(l.length:Int))=false∧¬ i<l.length∧G=false):=by
  rcases Nat.lt_or_ge i l.length with h | h
  ·left
   obtain ⟨h1,hp,e⟩:=HL.out.byte i l[i] _ (List.drop_eq_getElem_cons h)
   refine ⟨l[i],hp,decide_eq_true (by omega),h,by omega,e,?_⟩
   rw [← hG.out,List.drop_eq_getElem_cons h];rfl
  ·right
   refine ⟨decide_eq_false (by omega),by omega,?_⟩
   have:=hG.out
   rw [List.drop_eq_nil_iff.2 h] at this
   exact this.symm
 have fin:∀ (w1 w2:World) (i2 e2 a2:Nat),Hid (Blk w1 g (g+1) #[.int .i64 0,.string ⟨#[]⟩,.int .i64 0,.int .u64 0,.int .i64 0] 43)→Hid (Lxb w1 b s i2 e2 a2)→Oth b w w1 →
   w2=(((((w1.setCell ⟨g+1,0,none⟩ (.int .i64 k)).setCell ⟨g+1,1,none⟩ (.string t)).setCell ⟨g+1,2,none⟩ (.int .i64 v)).setCell ⟨g+1,3,none⟩ (.int .u64 (d:Int))).setCell ⟨g+1,4,none⟩ (.int .i64 (o:Int))) →
   Blk w2 g (g+1) #[.int .i64 k,.string t,.int .i64 v,.int .u64 (d:Int),.int .i64 (o:Int)] 43∧Lxb w2 b s i2 e2 a2∧Oth b w w2:=by
  rintro w1 w2 i2 e2 a2 h1 h2 h3 rfl
  exact ⟨h1.out.put5,Blk.oth5 h2.out (by omega),h3.put5 (by omega)⟩
 have FIN:=Lib.hid fin
 clear fin
 by_cases hE:E=0
 ·subst hE
  rw [if_neg (show ¬ ((0:Nat)≠0) from fun h=>h rfl),if_neg (show ¬ ((0:Nat)≠0) from fun h=>h rfl)]
  have hc2:((∃ (c:UInt8) (hp:i<s.size),decide ((i:Int)<(l.length:Int))=true∧i<l.length∧(i:Int)<(s.size:Int)∧s[i]'hp=c∧(isLtS c=true∨isLtS c=false∧((c.toNat:Int) == 46)=true))∧G=true) ∨
    ((∃ (c:UInt8) (hp:i<s.size),decide ((i:Int)<(l.length:Int))=true∧i<l.length∧(i:Int)<(s.size:Int)∧s[i]'hp=c∧isLtS c=false∧((c.toNat:Int) == 46)=false)∧G=false) ∨
    (decide ((i:Int)<(l.length:Int))=false∧¬ i<l.length∧G=false):=by
   rcases hcase with ⟨c,hp,k1,k2,k3,k4,k5⟩ | h
   ·cases hL:isLtS c
    ·rw [hL,Bool.false_or] at k5
     by_cases h46:c.toNat=46
     ·rw [decide_eq_true h46] at k5
      exact .inl ⟨⟨c,hp,k1,k2,k3,k4,.inr ⟨hL,by rw [beq_iff_eq];omega⟩⟩,k5.symm⟩
     ·rw [decide_eq_false h46] at k5
      exact .inr (.inl ⟨⟨c,hp,k1,k2,k3,k4,hL,by rw [beq_eq_false_iff_ne];omega⟩,k5.symm⟩)
    ·rw [hL,Bool.true_or] at k5
     exact .inl ⟨⟨c,hp,k1,k2,k3,k4,.inl hL⟩,k5.symm⟩
   ·exact .inr (.inr h)
  clear hcase
  rcases hc2 with ⟨⟨c,hp,k1,k2,k3,k4,hb⟩,rfl⟩ | ⟨⟨c,hp,k1,k2,k3,k4,hL,b46⟩,rfl⟩ | ⟨k1,k2,rfl⟩
  ·rcases hb with hL | ⟨hL,b46⟩
   all_goals
    have hlg:=fun w=>refLetter_any c w
    rw [hL] at hlg
    go_enter Tryz.func67,Tryz.ntmps67
    go_wp2_with fail
    go_quiet (exact Calls.quiet_of_same (hlg _))
    generalize hW:World.drewN (World.alloc (World.alloc _ _) _) _=w1
    have hA:Hid (Blk w1 g g #[.int .i64 k,.string t,.int .i64 v,.int .u64 (d:Int),.int .i64 (o:Int)] 43):=by rw [← hW,← hg];exact ((Blk.new w _ _).alloc _).drew _
    have hT:Hid (Blk w1 g (g+1) #[.int .i64 0,.string ⟨#[]⟩,.int .i64 0,.int .u64 0,.int .i64 0] 43):=by
     rw [← hW,← hg,show w.heap.size+1=(w.alloc (.cells #[.int .i64 k,.string t,.int .i64 v,.int .u64 (d:Int),.int .i64 (o:Int)] 43)).heap.size from by simp]
     exact ((Blk.new (w.alloc _) _ _).less (by simp)).drew _
    have hBW:Hid (Lxb w1 b s i 0 0):=by rw [← hW];exact ((HB.out.alloc _).alloc _).drew _
    have hOW:Hid (Oth b w w1):=by rw [← hW];exact Oth.nx (Nx.dr (nxa (nx0 w _) _) _)
    clear hW c0 c1 c2 c3 f0 f1 f2 f3
    obtain ⟨c0,c1,c2,c3,f0,f1,f2,f3⟩:=Lxb.cells hBW.out
    go_wp2_with fail
    refine (lxfail_any b s i 0 0 2 i _ hBW.out).mono ?_;rintro e w2 ⟨rfl,hC2,hO2⟩
    clear c0 c1 c2 c3 f0 f1 f2 f3
    have hA2:=hO2.blk hA.out (by omega)
    have hT2:=Lib.hid (hO2.blk hT.out (by omega))
    have HC2:=Lib.hid hC2
    have HO2:=Lib.hid (hOW.out.trans hO2)
    obtain ⟨c0,c1,c2,c3,c4,-⟩:=cells5 hA2
    obtain ⟨e0,e1,e2,e3,e4,f0,f1,f2,f3,f4⟩:=cells5 hT2.out
    clear hC2 hO2 hA2
    go_wp2_with fail
    obtain ⟨r1,r2,r3⟩:=FIN.out w2 _ _ _ _ hT2 HC2 HO2.out rfl
    refine bodyPost_ret (results_cell_row rfl _ _ (g+1) _ _ _ _ rfl r1.2 Tryz.underlying43 rfl (by kernel_rfl)) rfl ?_
    exact ⟨rfl,r2,r3⟩
  ·have hlg:=fun w=>refLetter_any c w
   rw [hL] at hlg
   go_enter Tryz.func67,Tryz.ntmps67
   go_wp2_with fail
   go_quiet (exact Calls.quiet_of_same (hlg _))
   generalize hW:World.drewN (World.alloc (World.alloc _ _) _) _=w1
   have hA:Hid (Blk w1 g g #[.int .i64 k,.string t,.int .i64 v,.int .u64 (d:Int),.int .i64 (o:Int)] 43):=by rw [← hW,← hg];exact ((Blk.new w _ _).alloc _).drew _
   have hT:Hid (Blk w1 g (g+1) #[.int .i64 0,.string ⟨#[]⟩,.int .i64 0,.int .u64 0,.int .i64 0] 43):=by
    rw [← hW,← hg,show w.heap.size+1=(w.alloc (.cells #[.int .i64 k,.string t,.int .i64 v,.int .u64 (d:Int),.int .i64 (o:Int)] 43)).heap.size from by simp]
    exact ((Blk.new (w.alloc _) _ _).less (by simp)).drew _
   have hBW:Hid (Lxb w1 b s i 0 0):=by rw [← hW];exact ((HB.out.alloc _).alloc _).drew _
   have hOW:Hid (Oth b w w1):=by rw [← hW];exact Oth.nx (Nx.dr (nxa (nx0 w _) _) _)
   clear hW c0 c1 c2 c3 f0 f1 f2 f3
   obtain ⟨c0,c1,c2,c3,c4,-⟩:=cells5 hA.out
   obtain ⟨e0,e1,e2,e3,e4,f0,f1,f2,f3,f4⟩:=cells5 hT.out
   go_wp2_with fail
   obtain ⟨r1,r2,r3⟩:=FIN.out w1 _ _ _ _ hT hBW hOW.out rfl
   refine bodyPost_ret (results_cell_row rfl _ _ (g+1) _ _ _ _ rfl r1.2 Tryz.underlying43 rfl (by kernel_rfl)) rfl ?_
   exact ⟨rfl,r2,r3⟩
  ·go_enter Tryz.func67,Tryz.ntmps67
   go_wp2_with fail
   go_quiet (fail)
   generalize hW:World.drewN (World.alloc (World.alloc _ _) _) _=w1
   have hA:Hid (Blk w1 g g #[.int .i64 k,.string t,.int .i64 v,.int .u64 (d:Int),.int .i64 (o:Int)] 43):=by rw [← hW,← hg];exact ((Blk.new w _ _).alloc _).drew _
   have hT:Hid (Blk w1 g (g+1) #[.int .i64 0,.string ⟨#[]⟩,.int .i64 0,.int .u64 0,.int .i64 0] 43):=by
    rw [← hW,← hg,show w.heap.size+1=(w.alloc (.cells #[.int .i64 k,.string t,.int .i64 v,.int .u64 (d:Int),.int .i64 (o:Int)] 43)).heap.size from by simp]
    exact ((Blk.new (w.alloc _) _ _).less (by simp)).drew _
   have hBW:Hid (Lxb w1 b s i 0 0):=by rw [← hW];exact ((HB.out.alloc _).alloc _).drew _
   have hOW:Hid (Oth b w w1):=by rw [← hW];exact Oth.nx (Nx.dr (nxa (nx0 w _) _) _)
   clear hW c0 c1 c2 c3 f0 f1 f2 f3
   obtain ⟨c0,c1,c2,c3,c4,-⟩:=cells5 hA.out
   obtain ⟨e0,e1,e2,e3,e4,f0,f1,f2,f3,f4⟩:=cells5 hT.out
   go_wp2_with fail
   obtain ⟨r1,r2,r3⟩:=FIN.out w1 _ _ _ _ hT hBW hOW.out rfl
   refine bodyPost_ret (results_cell_row rfl _ _ (g+1) _ _ _ _ rfl r1.2 Tryz.underlying43 rfl (by kernel_rfl)) rfl ?_
   exact ⟨rfl,r2,r3⟩
 ·have b1:((E:Int) != 0)=true:=by simp;omega
  rw [if_pos hE,if_pos hE]
  go_enter Tryz.func67,Tryz.ntmps67
  go_wp2_with fail
  generalize hW:World.alloc (World.alloc _ _) _=w1
  have hA:Hid (Blk w1 g g #[.int .i64 k,.string t,.int .i64 v,.int .u64 (d:Int),.int .i64 (o:Int)] 43):=by rw [← hW,← hg];exact (Blk.new w _ _).alloc _
  have hT:Hid (Blk w1 g (g+1) #[.int .i64 0,.string ⟨#[]⟩,.int .i64 0,.int .u64 0,.int .i64 0] 43):=by
   rw [← hW,← hg,show w.heap.size+1=(w.alloc (.cells #[.int .i64 k,.string t,.int .i64 v,.int .u64 (d:Int),.int .i64 (o:Int)] 43)).heap.size from by simp]
   exact (Blk.new (w.alloc _) _ _).less (by simp)
  have hBW:Hid (Lxb w1 b s i 0 0):=by rw [← hW];exact (HB.out.alloc _).alloc _
  have hOW:Hid (Oth b w w1):=by rw [← hW];exact Oth.nx (nxa (nx0 w _) _)
  clear hW c0 c1 c2 c3 f0 f1 f2 f3
  refine (lxfail_any b s i 0 0 E o _ hBW.out).mono ?_;rintro e w2 ⟨rfl,hC2,hO2⟩
  have hA2:=hO2.blk hA.out (by omega)
  have hT2:=Lib.hid (hO2.blk hT.out (by omega))
  have HC2:=Lib.hid hC2
  have HO2:=Lib.hid (hOW.out.trans hO2)
  obtain ⟨c0,c1,c2,c3,c4,-⟩:=cells5 hA2
  obtain ⟨e0,e1,e2,e3,e4,f0,f1,f2,f3,f4⟩:=cells5 hT2.out
  clear hC2 hO2 hA2
  go_wp2_with fail
  obtain ⟨r1,r2,r3⟩:=FIN.out w2 _ _ _ _ hT2 HC2 HO2.out rfl
  refine bodyPost_ret (results_cell_row rfl _ _ (g+1) _ _ _ _ rfl r1.2 Tryz.underlying43 rfl (by kernel_rfl)) rfl ?_
  exact ⟨rfl,r2,r3⟩
end Go.Proofs.YtjggghfekakogaaGreat
namespace Go.Proofs.YtjggghfekakogaaGreat
open Go.RowKit
theorem natB16_lt (l:List UInt8) (h:∀ c ∈ l,isHexS c=true):natB 16 l<16 ^ l.length:=by
 suffices hh:∀ n,n≤l.length→natB 16 (l.take n)<16 ^ n by
  have:=hh l.length (Nat.le_refl _);rwa [List.take_length] at this
 intro n
 induction n with
 | zero=>intro _;simp [natB]
 | succ n ih =>
  intro hn
  rw [natB_take 16 l n hn,Nat.pow_succ]
  have h1:=ih (by omega)
  have h2:=hexV_lt l[n] (h _ (List.getElem_mem hn))
  omega
theorem shl_or (V H:Nat) (hV:V<18446744073709551616) (hH:H<16):bits .or .u64 (IntKind.u64.wrap ((V:Int) * 16)) (H:Int)=(((V * 16+H) % 18446744073709551616:Nat):Int):=by
 have h1:IntKind.u64.wrap ((V:Int) * 16)=(((V * 16) % 18446744073709551616:Nat):Int):=by rw [IntKind.wrap_u64];omega
 rw [h1,bits_or_u64_nat _ _ (by omega) (by omega)]
 congr 1
 have h2:(V * 16) % 18446744073709551616=((V * 16) % 18446744073709551616 / 16) * 2 ^ 4:=by omega
 have h3:(V * 16+H) % 18446744073709551616=((V * 16) % 18446744073709551616 / 16) * 2 ^ 4+H:=by omega
 rw [h3,h2]
 have h4:=Nat.two_pow_add_eq_or_of_lt (i:=4) (b:=H) (by omega) ((V * 16) % 18446744073709551616 / 16)
 rw [Nat.mul_comm] at h4
 rw [Nat.mul_comm ((V * 16) % 18446744073709551616 / 16)] at *
 omega
theorem hexI_of (c:UInt8):(isHexS c=true→hexI c=(hexV c:Nat)∧hexV c≤15)∧(isHexS c=false→hexI c = -1):=by
 unfold hexI
 exact ⟨fun h=>by rw [if_pos h];exact ⟨rfl,hexV_lt c h⟩,fun h=>by rw [if_neg (by rw [h];decide)]⟩
def sixW (ds:List UInt8) (go:Bool):Nat×Nat×TokV×Nat :=
 if (hexS ds).2≠0 then ((hexS ds).2,0,tok0,0) else if go then (2,2+ds.length,tok0,0) else (0,0,⟨2,[],(hexS ds).1,0,0⟩,2+ds.length)
set_option maxRecDepth 100000 in
set_option maxHeartbeats 12800000 in
theorem sixteen_any (b:Nat) (s:ByteArray) (l:List UInt8) (o:Nat) (w:World) (hB:Lxb w b s o 0 0) (hl:Tx s l) (ho:o+2≤l.length) (hs:(l.length:Int)≤8000) :
    Calls Tryz.prog 62 #[.pointer (some ⟨b,0,none⟩)] w fun e' w' =>
      WordR e' b s o (sixW ((l.drop (o+2)).take (spanN isHexS (l.drop (o+2)))) (gosR (l.drop (o+2+spanN isHexS (l.drop (o+2)))))) w w':=by
  have hz:(s.size:Int)=(l.length:Int):=by rw [hl.size]
  have HL:=Lib.hid hl
  obtain ⟨g,hg⟩:∃ g,w.heap.size=g:=⟨_,rfl⟩
  have hbg:b<g:=by rw [← hg];exact hB.lt
  obtain ⟨M,hM⟩:∃ M,Hid (spanN isHexS (l.drop (o+2))=M):=⟨_,rfl⟩
  have hMl:o+2+M≤l.length:=by
    have:=spanN_le isHexS (l.drop (o+2))
    rw [hM.out,List.length_drop] at this;omega
  rw [hM.out]
  obtain ⟨ds,hds⟩:∃ ds,Hid ((l.drop (o+2)).take M=ds):=⟨_,rfl⟩
  have hdl:ds.length=M:=by rw [← hds.out];simp;omega
  have hdx:Hid (∀ c ∈ ds,isHexS c=true):=by
    intro c hc
    rw [← hds.out,← hM.out] at hc
    exact spanN_take isHexS _ c hc
  rw [hds.out]
  obtain ⟨go,hgo⟩:∃ go,Hid (gosR (l.drop (o+2+M))=go):=⟨_,rfl⟩
  rw [hgo.out]
  obtain ⟨X,hX⟩:∃ X,Hid (sixW ds go=X):=⟨_,rfl⟩
  rw [hX.out]
  have HB:=Lib.hid hB
  obtain ⟨c0,c1,c2,c3,f0,f1,f2,f3⟩:=Lxb.cells hB
  have ho8:(o:Int)+2≤8000:=by omega
  clear hl hB
  go_enter Tryz.func62,Tryz.ntmps62
  go_upto_block 0 with fail
  generalize hW:World.alloc (World.alloc _ _) _=w1
  have hsz:(w.setCell ⟨b,1,none⟩ (.int .i64 ((o:Int)+2))).heap.size=g:=by simp [World.setCell,hg]
  have hR1:Hid (Blk w1 g g #[.int .i64 0,.string ⟨#[]⟩,.int .i64 0,.int .u64 0,.int .i64 0] 43):=by
    have h:=Blk.new (w.setCell ⟨b,1,none⟩ (.int .i64 ((o:Int)+2))) #[.int .i64 0,.string ⟨#[]⟩,.int .i64 0,.int .u64 0,.int .i64 0] 43
    rw [hsz] at h
    rw [← hW]
    exact h.alloc _
  have hT1:Hid (Blk w1 g (g+1) #[.int .i64 2,.string ⟨#[]⟩,.int .i64 0,.int .u64 0,.int .i64 (o:Int)] 43):=by
    have h:=Blk.new ((w.setCell ⟨b,1,none⟩ (.int .i64 ((o:Int)+2))).alloc (.cells #[.int .i64 0,.string ⟨#[]⟩,.int .i64 0,.int .u64 0,.int .i64 0] 43)) #[.int .i64 2,.string ⟨#[]⟩,.int .i64 0,.int .u64 0,.int .i64 (o:Int)] 43
    rw [show ((w.setCell ⟨b,1,none⟩ (.int .i64 ((o:Int)+2))).alloc (.cells #[.int .i64 0,.string ⟨#[]⟩,.int .i64 0,.int .u64 0,.int .i64 0] 43)).heap.size=g+1 from by rw [← hsz];simp] at h
    rw [← hW]
    exact h.less (by omega)
  clear hsz
  have hB1:Hid (Lxb w1 b s (o+2) 0 0):=by
    rw [← hW]
    have e:(o:Int)+2=((o+2:Nat):Int):=by omega
    rw [e]
    exact ((HB.out.put1 (o+2)).alloc _).alloc _
  have hO1:Hid (Oth b w w1):=by rw [← hW];exact (Oth.set _ _ _ _).trans (Oth.nx (nxa (nx0 _ _) _))
  clear hW c0 c1 c2 c3 f0 f1 f2 f3
  go_cut [5] (fun vv wx=>∃ V:Nat,vv = .int .u64 (V:Int)∧Lxb wx b s (o+2+M) 0 0∧Hid (V=natB 16 ds % 18446744073709551616)∧Oth b w1 wx)
  case first =>
    go_wp2_with fail
    go_loopw [5] (fun vv wx=>∃ m V:Nat,vv = .int .u64 (V:Int)∧Lxb wx b s (o+2+m) 0 0∧m≤M∧Hid (V=natB 16 (ds.take m) % 18446744073709551616)∧Oth b w1 wx) (fun _ wx=>10000 - atL b wx)
    case atStart=>exact ⟨0,0,rfl,hB1.out,Nat.zero_le _,by unfold Hid;simp [natB],Oth.refl _ _⟩
    case round =>
      obtain ⟨m,V,rfl,hCm,hmM,HV,hOm⟩:=hrel
      have hVb:V<18446744073709551616:=by rw [HV.out];exact Nat.mod_lt _ (by decide)
      have hVI:(V:Int)≤18446744073709551615:=by omega
      have hsp:=lxspan_at isHexS (l.drop (o+2)) m (by rw [hM.out];exact hmM)
      rw [hM.out,List.drop_drop] at hsp
      obtain ⟨K,hK⟩:∃ K,o+2+m=K:=⟨_,rfl⟩
      rw [hK] at hCm hsp
      have hat:=Lxb.at_ hCm
      have HCm:=Lib.hid hCm
      have HOm:=Lib.hid hOm
      obtain ⟨c0,c1,c2,c3,f0,f1,f2,f3⟩:=Lxb.cells hCm
      clear hCm hOm
      by_cases hlt:m<M
      · obtain ⟨d,t,hd,hdp⟩:=hsp.1 hlt
        obtain ⟨h2l,h2s,h2c⟩:=HL.out.byte K d t hd
        have k1:decide ((K:Int)<(l.length:Int))=true:=decide_eq_true (by omega)
        have k2:(K:Int)<(s.size:Int):=by omega
        have k4:(K:Int)≤8000:=by omega
        obtain ⟨hx1,hx2⟩:=(hexI_of d).1 hdp
        obtain ⟨H,hH⟩:∃ H,hexV d=H:=⟨_,rfl⟩
        rw [hH] at hx1 hx2
        have hxg:=fun w=>refHex_any d w
        rw [hx1] at hxg
        have hHI:(H:Int)≤15:=by omega
        have k5:decide ((0:Int)≤(H:Int))=true:=decide_eq_true (by omega)
        have hso:=shl_or V H hVb (by omega)
        have HSO:=Lib.hid hso
        have HV2:Hid ((V * 16+H) % 18446744073709551616=natB 16 (ds.take (m+1)) % 18446744073709551616):=by
          have hmd:m<ds.length:=by omega
          have hdm:ds[m]=d:=by
            have e1:(l.drop (o+2)).drop m=d :: t:=by rw [List.drop_drop,hK];exact hd
            have e2:ds[m]? = some d:=by
              rw [← hds.out,List.getElem?_take,if_pos hlt]
              have:=congrArg List.head? e1
              rw [List.head?_drop] at this
              simpa using this
            rw [List.getElem?_eq_getElem hmd] at e2
            exact Option.some.inj e2
          unfold Hid
          rw [natB_take 16 ds m hmd,hdm,hH,HV.out]
          omega
        clear hsp hd hdp hx1 hx2 hH hso hVb
        go_wp2_with fail
        go_quiet (exact Calls.quiet_of_same (hxg _))
        generalize hW:World.drewN _ _=w3
        have HC3:Hid (Lxb w3 b s K 0 0):=by rw [← hW];exact HCm.out.drew _
        have HO3:Hid (Oth b w1 w3):=by rw [← hW];exact HOm.out.trans (Oth.nx ((Nx.refl _).dr _))
        clear hW c0 c1 c2 c3 f0 f1 f2 f3
        obtain ⟨c0,c1,c2,c3,f0,f1,f2,f3⟩:=Lxb.cells HC3.out
        go_wp2_with fail
        go_quiet (exact Calls.quiet_of_same (hxg _))
        generalize hW:World.drewN _ _=w4
        have HC4:Hid (Lxb w4 b s K 0 0):=by rw [← hW];exact HC3.out.drew _
        have HO4:Hid (Oth b w1 w4):=by rw [← hW];exact HO3.out.trans (Oth.nx ((Nx.refl _).dr _))
        clear hW c0 c1 c2 c3 f0 f1 f2 f3
        obtain ⟨c0,c1,c2,c3,f0,f1,f2,f3⟩:=Lxb.cells HC4.out
        go_wp2_with fail
        have ek:(K:Int)+1=((K+1:Nat):Int):=by omega
        go_roundw
        case rel =>
          rw [ek]
          refine ⟨m+1,(V * 16+H) % 18446744073709551616,?_,?_,hlt,HV2,HO4.out.own⟩
          · exact congrArg (Value.int .u64) HSO.out
          · rw [show o+2+(m+1)=K+1 by omega]
            exact HC4.out.put1 _
        case measure =>
          rw [ek,(HC4.out.put1 (K+1)).at_,hat]
          omega
      · obtain rfl:m=M:=by omega
        have HVE:Hid (V=natB 16 ds % 18446744073709551616):=by
          unfold Hid;rw [HV.out,List.take_of_length_le (by omega)]
        have hend:=hsp.2 rfl
        have hk:decide ((K:Int)<(l.length:Int))=false∧¬ K<l.length∨∃ (hp:K<s.size) (d:UInt8),decide ((K:Int)<(l.length:Int))=true∧K<l.length∧(K:Int)<(s.size:Int)∧s[K]'hp=d∧isHexS d=false:=by
          rcases hend with h | ⟨d,t,h,hd⟩
          · rw [List.drop_eq_nil_iff] at h
            exact .inl ⟨decide_eq_false (by omega),by omega⟩
          · obtain ⟨h2l,h2s,h2c⟩:=HL.out.byte K d t h
            exact .inr ⟨h2s,d,decide_eq_true (by omega),h2l,by omega,h2c,hd⟩
        clear hend hsp hlt hVb
        rcases hk with ⟨k1,k2⟩ | ⟨h2s,d,k1,k0,k2,k3,hdp⟩
        · go_wp2_with fail
          go_quiet (fail)
          go_wp2_with fail
          go_meet
          case rel=>exact ⟨V,rfl,by rw [hK];exact HCm.out.drew _,HVE,HOm.out.trans (Oth.nx ((Nx.refl _).dr _))⟩
        · have hxg:=fun w=>refHex_any d w
          rw [(hexI_of d).2 hdp] at hxg
          go_wp2_with fail
          go_quiet (exact Calls.quiet_of_same (hxg _))
          go_wp2_with fail
          go_meet
          case rel=>exact ⟨V,rfl,by rw [hK];exact HCm.out.drew _,HVE,HOm.out.trans (Oth.nx ((Nx.refl _).dr _))⟩
  case rest =>
    obtain ⟨V,rfl,hCm,HV,hOm⟩:=hcut
    have HCm:=Lib.hid hCm
    have HOm:=Lib.hid hOm
    obtain ⟨c0,c1,c2,c3,f0,f1,f2,f3⟩:=Lxb.cells hCm
    clear hCm hOm
    obtain ⟨K,hK⟩:∃ K,o+2+M=K:=⟨_,rfl⟩
    rw [hK] at HCm hMl hgo
    have hgo2:=hgo
    obtain ⟨c0,c1,c2,c3,f0,f1,f2,f3⟩:=Lxb.cells HCm.out
    have hT2:Hid (Blk wc g (g+1) #[.int .i64 2,.string ⟨#[]⟩,.int .i64 0,.int .u64 0,.int .i64 (o:Int)] 43):=HOm.out.blk hT1.out (by omega)
    have hR2:Hid (Blk wc g g #[.int .i64 0,.string ⟨#[]⟩,.int .i64 0,.int .u64 0,.int .i64 0] 43):=HOm.out.blk hR1.out (by omega)
    have hO2:Hid (Oth b w wc):=hO1.out.trans HOm.out
    obtain ⟨t0,t1,t2,t3,t4,z0,z1,z2,z3,z4⟩:=cells5 hT2.out
    have hKM:(K:Int) - ((o:Int)+2)=(M:Int):=by omega
    have hK8:(K:Int)≤8000:=by omega
    have hgw:w.heap.size≤g:=by omega
    obtain ⟨VI,hVI⟩:∃ VI:Int,(V:Int)=VI:=⟨_,rfl⟩
    have hVb:V<18446744073709551616:=by rw [HV.out];exact Nat.mod_lt _ (by decide)
    have hV0:0≤VI:=by omega
    have hV1:VI≤18446744073709551615:=by omega
    obtain ⟨N,hN⟩:∃ N,IntKind.i64.wrap VI=N:=⟨_,rfl⟩
    have HVI:=Lib.hid hVI
    rw [hVI]
    clear hVb hVI
    have hE:∃ E:Nat,(16<M∧E=4∨¬ 16<M∧(9223372036854775807:Int)<VI∧E=5∨¬ 16<M∧¬ (9223372036854775807:Int)<VI∧E=0)∧(hexS ds).2=E∧(E=0→(hexS ds).1=N):=by
      have hx:hexS ds=if 16<ds.length then (0,4) else if 9223372036854775807<natB 16 ds then (0,5) else ((natB 16 ds:Int),0):=rfl
      rw [hdl] at hx
      by_cases h1:16<M
      · rw [if_pos h1] at hx
        exact ⟨4,.inl ⟨h1,rfl⟩,by rw [hx],fun h=>by cases h⟩
      · rw [if_neg h1] at hx
        have hlt:=natB16_lt ds hdx.out
        have hle:(16:Nat) ^ ds.length≤16 ^ 16:=Nat.pow_le_pow_right (by decide) (by omega)
        have hVe:V=natB 16 ds:=by
          rw [HV.out]
          have e:(16:Nat) ^ 16=18446744073709551616:=by decide
          exact Nat.mod_eq_of_lt (by omega)
        have hVI:=HVI.out
        by_cases h2:(9223372036854775807:Int)<VI
        · rw [if_pos (by omega)] at hx
          exact ⟨5,.inr (.inl ⟨h1,h2,rfl⟩),by rw [hx],fun h=>by cases h⟩
        · rw [if_neg (by omega)] at hx
          refine ⟨0,.inr (.inr ⟨h1,h2,rfl⟩),by rw [hx],fun _=>?_⟩
          rw [hx,← hN,IntKind.wrap_i64]
          dsimp only
          omega
    obtain ⟨E,hcase,hE1,hE2⟩:=hE
    have HE1:=Lib.hid hE1
    have HE2:=Lib.hid hE2
    clear hE1 hE2
    have hcase2:(decide ((16:Int)<(M:Int))=true∧16<M∧E=4)∨(decide ((16:Int)<(M:Int))=false∧¬ 16<M∧decide ((9223372036854775807:Int)<VI)=true∧E=5)∨(decide ((16:Int)<(M:Int))=false∧¬ 16<M∧decide ((9223372036854775807:Int)<VI)=false∧E=0):=by
      rcases hcase with ⟨h1,h2⟩ | ⟨h1,h2,h3⟩ | ⟨h1,h2,h3⟩
      · exact .inl ⟨decide_eq_true (by omega),h1,h2⟩
      · exact .inr (.inl ⟨decide_eq_false (by omega),h1,decide_eq_true h2,h3⟩)
      · exact .inr (.inr ⟨decide_eq_false (by omega),h1,decide_eq_false h2,h3⟩)
    clear hcase
    rcases hcase2 with ⟨q1,q1',rfl⟩ | ⟨q1,q1',q2,rfl⟩ | ⟨q1,q1',q2,rfl⟩
    all_goals
      go_wp2_with fail
      generalize hW:World.setCell _ _ _=w5
      have hT5:Hid (Blk w5 g (g+1) #[.int .i64 2,.string ⟨#[]⟩,.int .i64 N,.int .u64 0,.int .i64 (o:Int)] 43):=by rw [← hW];exact hT2.out.put 2 (.int .i64 N)
      have hR5:Hid (Blk w5 g g #[.int .i64 0,.string ⟨#[]⟩,.int .i64 0,.int .u64 0,.int .i64 0] 43):=by rw [← hW];exact hR2.out.other (by omega) _ _
      have hB5:Hid (Lxb w5 b s K 0 0):=by rw [← hW];exact HCm.out.other (by omega) _ _
      have hO5:Hid (Oth b w w5):=by rw [← hW];exact hO2.out.put (by omega) _ _
      clear hW c0 c1 c2 c3 f0 f1 f2 f3 t0 t1 t2 t3 t4 z0 z1 z2 z3 z4
      refine (behind_any b s l o K 2 N ⟨#[]⟩ 0 _ w5 hB5.out HL.out hMl hs).mono ?_;rintro e w6 ⟨rfl,hC6,hO6⟩
      have HC6:=Lib.hid hC6
      have HO6:=Lib.hid (hO5.out.trans hO6)
      have hR6:=hO6.blk hR5.out (by omega)
      obtain ⟨t0,t1,t2,t3,t4,z0,z1,z2,z3,z4⟩:=cells5 hR6
      clear hC6 hO6
      go_wp2_with fail
      refine bodyPost_ret (results_cell_row rfl _ _ g _ _ _ _ rfl hR6.put5.2 Tryz.underlying43 rfl (by kernel_rfl)) rfl ?_
      have hx:=hX.out
      unfold sixW at hx
      rw [HE1.out] at hx
      have h6:=HC6.out
      rw [hgo2.out] at h6
      first
        | (rw [if_pos (by decide)] at hx
           rw [if_pos (by decide),if_pos (by decide)] at h6
           rw [← hx]
           exact ⟨_,_,_,_,_,rfl,K,Blk.oth5 h6 (by omega),fun h=>by simp at h,HO6.out.put5 hgw⟩)
        | (have hn:=HE2.out (by first | rfl | trivial)
           rw [if_neg (show ¬ ((0:Nat)≠0) from fun h=>h rfl)] at hx
           rw [if_neg (show ¬ ((0:Nat)≠0) from fun h=>h rfl),if_neg (show ¬ ((0:Nat)≠0) from fun h=>h rfl)] at h6
           cases go
           · rw [if_neg (show ¬ (false=true) by decide)] at hx
             rw [if_neg (show ¬ (false=true) by decide),if_neg (show ¬ (false=true) by decide)] at h6
             rw [← hx]
             refine ⟨_,_,_,_,_,rfl,K,Blk.oth5 h6 (by omega),fun _=>⟨?_,by dsimp only;omega⟩,HO6.out.put5 hgw⟩
             rw [hn];rfl
           · rw [if_pos (show true=true from rfl)] at hx
             rw [if_pos (show true=true from rfl),if_pos (show true=true from rfl)] at h6
             rw [← hx]
             refine ⟨_,_,_,_,_,rfl,K,?_,fun h=>by simp at h,HO6.out.put5 hgw⟩
             have e:(if ((2:Nat),2+ds.length,tok0,0).1=0 then 0 else o+((2:Nat),2+ds.length,tok0,0).2.1)=K:=by simp;omega
             rw [e]
             exact Blk.oth5 h6 (by omega))
end Go.Proofs.YtjggghfekakogaaGreat
