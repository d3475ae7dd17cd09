/- The contract of the document's lexer: a name. The contracts of the document's lexer: what stands behind a number, digits in sixteens. The contract of the document's lexer: a number in sixteens. The contracts of dec's parts of a text: an exponent, the whole number taken apart (what is plain of it). The contract of dec's taking a number's text apart (what is plain of it). The parts of a text, and the document's parse. Plain lemmas. Numbers without end as lists of 32 bits each: what they are worth, and the one list that has no noughts behind. Plain lemmas. Numbers as lists of words: plain lemmas that big and the document's answer share. A number that is read: the words in which contracts of big speak. The contracts of big: entries, how many bits a word has, lists without noughts behind, order, the low bits (what is plain of it). The contracts of big: a row that the call makes and writes; order, sums, differences (what is plain of it). The contracts of big: sums, differences, products, powers of ten (what is plain of it). The contracts of big: powers of ten, shifts (what is plain of it). The contracts of big: shifts (what is plain of it). The contracts of big: a multiple taken from a row, a number added to a row (what is plain of it). The contract of big: one digit of a quotient (what is plain of it). The contract of big: quotients. The contract of big: quotients, the walk (what is plain of it). -/
import Derived.Test.YtpfecpcgdfbekaaGreatDoorG02
import Derived.Laws.Rows
import Derived.Deep.DeepCutAuto
import Derived.Test.YtpfecpcgdfbekaaGreatDoorG00
import Derived.Test.YtpfecpcgdfbekaaGreatDoorG01
import Derived.Laws.ResultCell
import Derived.Test.YtpfecpcgdfbekaaGreatDoorProg
import Derived.WalkSpells
import Derived.Deep.QuietTactic
import Derived.BigQuiet
import Derived.RegionTactic
import Derived.Laws.CopyOwn
set_option linter.unusedVariables false
set_option linter.unusedSimpArgs false
set_option linter.unnecessarySimpa false
namespace Go.Proofs.YtpfecpcgdfbekaaGreatDoor
open Go.RowKit
def WordR (e':Ending) (b:Nat) (s:ByteArray) (o:Nat) (W:Nat×Nat×TokV×Nat) (w w':World):Prop :=
 ∃ k t v d p,e' = .returned (.agg #[.int .i64 k,.string t,.int .i64 v,.int .u64 d,.int .i64 p]) ∧
  ∃ i',Lxb w' b s i' W.1 (if W.1=0 then 0 else o+W.2.1)∧(W.1=0→#[.int .i64 k,.string t,.int .i64 v,.int .u64 d,.int .i64 p]=tokC { W.2.2.1 with p:=o }∧i'=o+W.2.2.2)∧Oth b w w'
theorem dotBad_step (l:List UInt8) (i:Nat) (hi:i<l.length):dotBad (l.drop i)=(decide (l[i].toNat=46) && ((l.drop (i+1)).isEmpty || decide ((l.drop (i+1)).head? = some 46)) || dotBad (l.drop (i+1))):=by
 rw [List.drop_eq_getElem_cons hi]
 rfl
theorem Blk.oth5 {w:World} {B g k:Nat} {cs:Array Value} {T:TypeId} {v0 v1 v2 v3 v4:Value} (h:Blk w B g cs T) (hk:k≠g) :
  Blk (((((w.setCell ⟨k,0,none⟩ v0).setCell ⟨k,1,none⟩ v1).setCell ⟨k,2,none⟩ v2).setCell ⟨k,3,none⟩ v3).setCell ⟨k,4,none⟩ v4) B g cs T :=
 ((((h.other hk _ _).other hk _ _).other hk _ _).other hk _ _).other hk _ _
set_option maxRecDepth 100000 in
set_option maxHeartbeats 12800000 in
theorem refName_any (b:Nat) (s:ByteArray) (l:List UInt8) (o:Nat) (w:World) (hB:Lxb w b s o 0 0) (hl:Tx s l) (ho:o≤l.length) (hs:(l.length:Int)≤8000) :
    Calls Tryz.prog 95 #[.pointer (some ⟨b,0,none⟩)] w fun e' w'=>WordR e' b s o ((nameS (l.drop o)).1,0,(nameS (l.drop o)).2) w w':=by
  have hz:(s.size:Int)=(l.length:Int):=by rw [hl.size]
  obtain ⟨g,hg⟩:∃ g,w.heap.size=g:=⟨_,rfl⟩
  have hbg:b<g:=by rw [← hg];exact hB.lt
  have hT0:=Blk.new w #[.int .i64 0,.string ⟨#[]⟩,.int .i64 0,.int .u64 0,.int .i64 0] 124
  rw [hg] at hT0
  have hN0:Nx w (w.alloc (Obj.cells #[.int .i64 0,.string ⟨#[]⟩,.int .i64 0,.int .u64 0,.int .i64 0] 124)):=nx0 _ _
  have HL:=Lib.hid hl
  have HB0:Hid (Lxb (w.alloc (Obj.cells #[.int .i64 0,.string ⟨#[]⟩,.int .i64 0,.int .u64 0,.int .i64 0] 124)) b s o 0 0):=hB.below hN0
  obtain ⟨N,hN⟩:∃ N,Hid (spanN isNmS (l.drop o)=N):=⟨_,rfl⟩
  have hNl:o+N≤l.length:=by
    have:=spanN_le isNmS (l.drop o)
    rw [hN.out,List.length_drop] at this;omega
  obtain ⟨T,hT⟩:∃ T,Hid ((l.drop o).take N=T):=⟨_,rfl⟩
  have hTl:T.length=N:=by rw [← hT.out];simp;omega
  obtain ⟨X,hX⟩:∃ X,Hid (nameS (l.drop o)=X):=⟨_,rfl⟩
  have HX:Hid (X=if 120<N then (4,tok0,0) else if dotBad T then (2,tok0,0) else (0,⟨1,T,0,0,0⟩,N)):=by
    unfold Hid;rw [← hX.out];unfold nameS;rw [hN.out,hT.out]
  rw [hX.out]
  obtain ⟨u,hu,HU⟩:=hl.mid o (o+N)
  have HU2:Hid (Tx u T):=by
    have h:=HU.out
    rw [List.drop_take,show o+N - o=N by omega,hT.out] at h
    exact h
  clear hl hB HU
  go_enter Tryz.func95,Tryz.ntmps95
  obtain ⟨c0,c1,c2,c3,f0,f1,f2,f3⟩:=Lxb.cells HB0.out
  go_upto_block 0 with fail
  generalize hW1:World.alloc _ _=w1 at *
  clear hW1 c0 c1 c2 c3 f0 f1 f2 f3
  have HT0:=Lib.hid hT0
  clear hT0
  go_cut [] (fun wx=>Lxb wx b s (o+N) 0 0∧Oth b w1 wx)
  case first =>
   go_wp2_with fail
   go_loopw [] (fun wx=>∃ m:Nat,Lxb wx b s (o+m) 0 0∧m≤N∧Oth b w1 wx) (fun wx=>10000 - atL b wx)
   case atStart=>exact ⟨0,HB0.out,Nat.zero_le _,Oth.refl _ _⟩
   case round =>
     obtain ⟨m,hCm,hmN,hOm⟩:=hrel
     have hsp:=lxspan_at isNmS (l.drop o) m (by rw [hN.out];exact hmN)
     rw [hN.out,List.drop_drop] at hsp
     obtain ⟨K,hK⟩:∃ K,o+m=K:=⟨_,rfl⟩
     rw [hK] at hCm hsp
     have hat:=Lxb.at_ hCm
     have HCm:=Lib.hid hCm
     have HOm:=Lib.hid hOm
     obtain ⟨c0,c1,c2,c3,f0,f1,f2,f3⟩:=Lxb.cells hCm
     clear hCm hOm
     by_cases hlt:m<N
     · obtain ⟨d,t,hd,hdp⟩:=hsp.1 hlt
       obtain ⟨h2l,h2s,h2c⟩:=HL.out.byte K d t hd
       have k1:decide ((K:Int)<(l.length:Int))=true:=decide_eq_true (by omega)
       have k2:(K:Int)<(s.size:Int):=by omega
       have k4:(K:Int)≤8000:=by omega
       rw [isNm_iff] at hdp
       have hdg:=fun w=>refDigit_any d w
       have hlg:=fun w=>refLetter_any d w
       generalize isLtS d=BL at *
       generalize isDig d=BD at *
       have h3:BL=true∨BL=false∧BD=true∨BL=false∧BD=false∧((d.toNat:Int) == 46)=true:=by
         cases BL
         · cases BD
           · right;right
             refine ⟨rfl,rfl,?_⟩
             simp at hdp
             rw [beq_iff_eq];omega
           · exact .inr (.inl ⟨rfl,rfl⟩)
         · exact .inl rfl
       clear hsp hd hdp
       rcases h3 with rfl | ⟨rfl,rfl⟩ | ⟨rfl,rfl,b46⟩
       all_goals
         go_wp2_with fail
         go_quiet (first | exact Calls.quiet_of_same (hlg _) | exact Calls.quiet_of_same (hdg _))
         generalize hW:World.drewN _ _=w3
         have HC3:Hid (Lxb w3 b s K 0 0):=by rw [← hW];exact HCm.out.drew _
         have HO3:Hid (Oth b w1 w3):=by rw [← hW];exact HOm.out.trans (Oth.nx ((Nx.refl _).dr _))
         clear hW c0 c1 c2 c3 f0 f1 f2 f3
         obtain ⟨c0,c1,c2,c3,f0,f1,f2,f3⟩:=Lxb.cells HC3.out
         go_wp2_with fail
         have ek:(K:Int)+1=((K+1:Nat):Int):=by omega
         go_roundw
         case rel =>
           rw [ek]
           refine ⟨m+1,?_,hlt,HO3.out.own⟩
           rw [show o+(m+1)=K+1 by omega]
           exact HC3.out.put1 _
         case measure =>
           rw [ek,(HC3.out.put1 (K+1)).at_,hat]
           omega
     · obtain rfl:m=N:=by omega
       have hend:=hsp.2 rfl
       have hk:decide ((K:Int)<(l.length:Int))=false∧¬ K<l.length∨∃ (hp:K<s.size) (d:UInt8),decide ((K:Int)<(l.length:Int))=true∧K<l.length∧(K:Int)<(s.size:Int)∧s[K]'hp=d∧isLtS d=false∧isDig d=false∧((d.toNat:Int) == 46)=false:=by
         rcases hend with h | ⟨d,t,h,hd⟩
         · rw [List.drop_eq_nil_iff] at h
           exact .inl ⟨decide_eq_false (by omega),by omega⟩
         · obtain ⟨h2l,h2s,h2c⟩:=HL.out.byte K d t h
           rw [isNm_iff] at hd
           simp at hd
           exact .inr ⟨h2s,d,decide_eq_true (by omega),h2l,by omega,h2c,hd.1.1,hd.1.2,by rw [beq_eq_false_iff_ne];omega⟩
       clear hend hsp hlt
       rcases hk with ⟨k1,k2⟩ | ⟨h2s,d,k1,k0,k2,k3,hbl,hbd,b46⟩
       · go_wp2_with fail
         go_quiet (fail)
         go_wp2_with fail
         go_meet
         case rel=>exact ⟨by rw [hK];exact HCm.out.drew _,HOm.out.trans (Oth.nx ((Nx.refl _).dr _))⟩
       · have hdg:=fun w=>refDigit_any d w
         have hlg:=fun w=>refLetter_any d w
         rw [hbd] at hdg
         rw [hbl] at hlg
         go_wp2_with fail
         go_quiet (first | exact Calls.quiet_of_same (hlg _) | exact Calls.quiet_of_same (hdg _))
         go_wp2_with fail
         go_meet
         case rel=>exact ⟨by rw [hK];exact HCm.out.drew _,HOm.out.trans (Oth.nx ((Nx.refl _).dr _))⟩
  case rest =>
    obtain ⟨hCn,hOn⟩:=hcut
    obtain ⟨K,hK⟩:∃ K,o+N=K:=⟨_,rfl⟩
    rw [hK] at hCn hu hNl
    have HCn:=Lib.hid hCn
    have HOn:=Lib.hid hOn
    obtain ⟨c0,c1,c2,c3,f0,f1,f2,f3⟩:=Lxb.cells hCn
    have i1:(o:Int)≤(K:Int):=by omega
    have i2:(K:Int)≤(s.size:Int):=by omega
    have i3:(K:Int)≤8000:=by omega
    have hus:(u.size:Int)=(N:Int):=by rw [HU2.out.size,hTl]
    clear hCn hOn
    go_wp2_with fail
    go_quiet (fail)
    generalize hW:World.drewN _ _=w3
    have HC3:Hid (Lxb w3 b s K 0 0):=by rw [← hW];exact HCn.out.drew _
    have HO3:Hid (Oth b w1 w3):=by rw [← hW];exact HOn.out.trans (Oth.nx ((Nx.refl _).dr _))
    have HT3:Hid (Blk w3 g g #[.int .i64 0,.string ⟨#[]⟩,.int .i64 0,.int .u64 0,.int .i64 0] 124):=HO3.out.blk HT0.out (by omega)
    have HOw:Hid (Oth b w w3):=Oth.mono HO3.out hN0
    clear hW c0 c1 c2 c3 f0 f1 f2 f3
    have hgw:w.heap.size≤g:=by omega
    by_cases h120:120<N
    · have g1:decide ((120:Int)<(N:Int))=true:=decide_eq_true (by omega)
      have HX2:Hid (X=(4,tok0,0)):=by unfold Hid;rw [HX.out,if_pos h120]
      go_wp2_with fail
      refine (lxfail_any b s K 0 0 4 o _ HC3.out).mono ?_;rintro e w4 ⟨rfl,hC4,hO4⟩
      have HT4:=hO4.blk HT3.out (by omega)
      have hOw4:=HOw.out.trans hO4
      have HC4:=Lib.hid hC4
      obtain ⟨c0,c1,c2,c3,c4,f0,f1,f2,f3,f4⟩:=cells5 HT4
      go_wp2_with fail
      refine bodyPost_ret (results_cell_row rfl _ _ g _ _ _ _ rfl HT4.put5.2 Tryz.underlying124 rfl (by kernel_rfl)) rfl ?_
      rw [HX2.out]
      exact ⟨_,_,_,_,_,rfl,K,Blk.oth5 HC4.out (by omega),fun h=>by simp at h,hOw4.put5 hgw⟩
    · have g1:decide ((120:Int)<(N:Int))=false:=decide_eq_false (by omega)
      have g1':¬ 120<N:=h120
      have HX2:Hid (X=if dotBad T then (2,tok0,0) else (0,⟨1,T,0,0,0⟩,N)):=by unfold Hid;rw [HX.out,if_neg h120]
      go_wp2_with fail
      go_loopw [5] (fun iv wx=>∃ (i:Nat) (fd:Bool),iv = .int .i64 i∧i≤N∧Lxb wx b s K (if fd then 2 else 0) (if fd then o else 0)∧Hid (dotBad T=(fd || dotBad (T.drop i)))∧Oth b w3 wx) (fun iv _=>(10000 - intOf iv).toNat)
      case atStart=>exact ⟨0,false,rfl,Nat.zero_le _,HC3.out,by unfold Hid;simp,Oth.refl _ _⟩
      case round =>
        obtain ⟨i,fd,rfl,hi,hCi,HDB,hOi⟩:=hrel
        have hst:Hid (∀ h:i<T.length,dotBad (T.drop i)=(decide (T[i].toNat=46) && ((T.drop (i+1)).isEmpty || decide ((T.drop (i+1)).head? = some 46)) || dotBad (T.drop (i+1)))):=fun h=>dotBad_step T i h
        have HCi:=Lib.hid hCi
        have HOi:=Lib.hid hOi
        have hiI:(i:Int)≤8000:=by omega
        clear hCi hOi
        by_cases hlt:i<N
        · have hiT:i<T.length:=by omega
          obtain ⟨hp,e0⟩:=HU2.out.idx i hiT
          obtain ⟨d,hd⟩:∃ d,T[i]=d:=⟨_,rfl⟩
          have hst2:=hst.out hiT
          rw [hd] at e0 hst2
          have HST:=Lib.hid hst2
          have k1:decide ((i:Int)<(N:Int))=true:=decide_eq_true (by omega)
          have k2:(i:Int)<(u.size:Int):=by omega
          clear hst hst2 hd
          have hB46:(((d.toNat:Int) == 46)=false∧decide (d.toNat=46)=false)∨(((d.toNat:Int) == 46)=true∧decide (d.toNat=46)=true):=by
            by_cases h:d.toNat=46
            · exact .inr ⟨by rw [beq_iff_eq];omega,decide_eq_true h⟩
            · exact .inl ⟨by rw [beq_eq_false_iff_ne];omega,decide_eq_false h⟩
          rcases hB46 with ⟨b46,q46⟩ | ⟨b46,q46⟩
          · have HN2:Hid (dotBad T=(fd || dotBad (T.drop (i+1)))):=by unfold Hid;rw [HDB.out,HST.out,q46];simp
            clear q46
            go_wp2_with fail
            go_roundw
            case rel=>exact ⟨i+1,fd,by go_num,hlt,HCi.out,HN2,HOi.out⟩
            case measure=>simp [intOf];omega
          ·
            have hnx:(((i:Int) == (N:Int) - 1)=true∧((T.drop (i+1)).isEmpty || decide ((T.drop (i+1)).head? = some 46))=true) ∨
                (((i:Int) == (N:Int) - 1)=false∧∃ (hp2:i+1<u.size) (d2:UInt8),(i:Int)+1<(u.size:Int)∧u[i+1]'hp2=d2∧((T.drop (i+1)).isEmpty || decide ((T.drop (i+1)).head? = some 46))=((d2.toNat:Int) == 46)):=by
              by_cases hl:i+1=N
              · left
                refine ⟨by rw [beq_iff_eq];omega,?_⟩
                rw [List.drop_eq_nil_iff.2 (by omega)];rfl
              · right
                have h2:i+1<T.length:=by omega
                obtain ⟨hp2,e2⟩:=HU2.out.idx (i+1) h2
                refine ⟨by rw [beq_eq_false_iff_ne];omega,hp2,T[i+1],by omega,e2,?_⟩
                rw [List.drop_eq_getElem_cons h2]
                simp only [List.isEmpty_cons,Bool.false_or,List.head?_cons,Option.some.injEq]
                rw [Bool.eq_iff_iff,decide_eq_true_iff,beq_iff_eq]
                constructor
                · intro h;rw [h];rfl
                · intro h;apply UInt8.toNat_inj.1;have:T[i+1].toNat=46:=by omega
                  rw [this];rfl
            obtain ⟨B,hB⟩:∃ B,((T.drop (i+1)).isEmpty || decide ((T.drop (i+1)).head? = some 46))=B:=⟨_,rfl⟩
            have HN2:Hid (dotBad T=(fd || (B || dotBad (T.drop (i+1))))):=by unfold Hid;rw [HDB.out,HST.out,q46,hB,Bool.true_and]
            rw [hB] at hnx
            have hnx2:(((i:Int) == (N:Int) - 1)=true∧B=true)∨(((i:Int) == (N:Int) - 1)=false∧∃ (hp2:i+1<u.size) (d2:UInt8),(i:Int)+1<(u.size:Int)∧u[i+1]'hp2=d2∧((d2.toNat:Int) == 46)=B):=by
              rcases hnx with h | ⟨h,hp2,d2,h1,h2,h3⟩
              · exact .inl h
              · exact .inr ⟨h,hp2,d2,h1,h2,h3.symm⟩
            clear hnx q46 hB
            rcases hnx2 with ⟨n1,rfl⟩ | ⟨n1,hp2,d2,n2,n3,n4⟩
            · go_wp2_with fail
              refine (lxfail_any b s K _ _ 2 o _ HCi.out).mono ?_;rintro e w4 ⟨rfl,hC4,hO4⟩
              have HC4:=Lib.hid hC4
              have HO4:=Lib.hid hO4
              clear hC4 hO4
              go_wp2_with fail
              go_roundw
              case rel=>exact ⟨i+1,true,by go_num,hlt,HC4.out,by unfold Hid;rw [HN2.out];simp,HOi.out.trans HO4.out⟩
              case measure=>simp [intOf];omega
            · cases B
              · go_wp2_with fail
                go_roundw
                case rel=>exact ⟨i+1,fd,by go_num,hlt,HCi.out,by unfold Hid;rw [HN2.out,Bool.false_or],HOi.out⟩
                case measure=>simp [intOf];omega
              · go_wp2_with fail
                refine (lxfail_any b s K _ _ 2 o _ HCi.out).mono ?_;rintro e w4 ⟨rfl,hC4,hO4⟩
                have HC4:=Lib.hid hC4
                have HO4:=Lib.hid hO4
                clear hC4 hO4
                go_wp2_with fail
                go_roundw
                case rel=>exact ⟨i+1,true,by go_num,hlt,HC4.out,by unfold Hid;rw [HN2.out];simp,HOi.out.trans HO4.out⟩
                case measure=>simp [intOf];omega
        · have HF:Hid (dotBad T=fd):=by
            unfold Hid;rw [HDB.out,List.drop_eq_nil_iff.2 (by omega)];simp [dotBad]
          have k1:decide ((i:Int)<(N:Int))=false:=decide_eq_false (by omega)
          have k1':¬ i<N:=hlt
          have HT5:Hid (Blk wr g g #[.int .i64 0,.string ⟨#[]⟩,.int .i64 0,.int .u64 0,.int .i64 0] 124):=HOi.out.blk HT3.out (by omega)
          have hOw5:=HOw.out.trans HOi.out
          obtain ⟨c0,c1,c2,c3,c4,f0,f1,f2,f3,f4⟩:=cells5 HT5.out
          clear hst
          go_wp2_with fail
          refine bodyPost_ret (results_cell_row rfl _ _ g _ _ _ _ rfl HT5.out.put5.2 Tryz.underlying124 rfl (by kernel_rfl)) rfl ?_
          have hx:=HX2.out
          rw [HF.out] at hx
          have hC:=HCi.out
          cases fd
          · rw [if_neg (by simp)] at hx
            rw [hx]
            refine ⟨_,_,_,_,_,rfl,K,Blk.oth5 hC (by omega),fun _=>⟨?_,hK.symm⟩,hOw5.put5 hgw⟩
            rw [HU2.out.eq];rfl
          · rw [if_pos rfl] at hx
            rw [hx]
            exact ⟨_,_,_,_,_,rfl,K,Blk.oth5 hC (by omega),fun h=>by simp at h,hOw5.put5 hgw⟩
end Go.Proofs.YtpfecpcgdfbekaaGreatDoor
namespace Go.Proofs.YtpfecpcgdfbekaaGreatDoor
open Go.RowKit
def gosR:List UInt8→Bool
 | []=>false
 | c :: _=>isLtS c || decide (c.toNat=46)
set_option maxRecDepth 100000 in
set_option maxHeartbeats 6400000 in
theorem behind_any (b:Nat) (s:ByteArray) (l:List UInt8) (o i:Nat) (k v:Int) (t:ByteArray) (d E:Nat) (w:World) (hB:Lxb w b s i 0 0) (hl:Tx s l) (hi:i≤l.length) (hs:(l.length:Int)≤8000) :
  Calls Tryz.prog 123 #[.pointer (some ⟨b,0,none⟩),.agg #[.int .i64 k,.string t,.int .i64 v,.int .u64 (d:Int),.int .i64 (o:Int)],.int .i64 (E:Int)] w fun e' w' =>
   e' = .returned (.agg #[.int .i64 k,.string t,.int .i64 v,.int .u64 (d:Int),.int .i64 (o:Int)]) ∧
   Lxb w' b s i (if E≠0 then E else if gosR (l.drop i) then 2 else 0) (if E≠0 then o else if gosR (l.drop i) then i else 0)∧Oth b w w':=by
 have hz:(s.size:Int)=(l.length:Int):=by rw [hl.size]
 have HL:=Lib.hid hl
 obtain ⟨g,hg⟩:∃ g,w.heap.size=g:=⟨_,rfl⟩
 have hbg:b<g:=by rw [← hg];exact hB.lt
 obtain ⟨G,hG⟩:∃ G,Hid (gosR (l.drop i)=G):=⟨_,rfl⟩
 rw [hG.out]
 have HB:=Lib.hid hB
 obtain ⟨c0,c1,c2,c3,f0,f1,f2,f3⟩:=Lxb.cells hB
 clear hl hB
 have hcase:(∃ (c:UInt8) (hp:i<s.size),decide ((i:Int)<(l.length:Int))=true∧i<l.length∧(i:Int)<(s.size:Int)∧s[i]'hp=c∧(isLtS c || decide (c.toNat=46))=G)∨(decide ((i:Int)<(l.length:Int))=false∧¬ i<l.length∧G=false):=by
  rcases Nat.lt_or_ge i l.length with h | h
  ·left
   obtain ⟨h1,hp,e⟩:=HL.out.byte i l[i] _ (List.drop_eq_getElem_cons h)
   refine ⟨l[i],hp,decide_eq_true (by omega),h,by omega,e,?_⟩
   rw [← hG.out,List.drop_eq_getElem_cons h];rfl
  ·right
   refine ⟨decide_eq_false (by omega),by omega,?_⟩
   have:=hG.out
   rw [List.drop_eq_nil_iff.2 h] at this
   exact this.symm
 have fin:∀ (w1 w2:World) (i2 e2 a2:Nat),Hid (Blk w1 g (g+1) #[.int .i64 0,.string ⟨#[]⟩,.int .i64 0,.int .u64 0,.int .i64 0] 124)→Hid (Lxb w1 b s i2 e2 a2)→Oth b w w1 →
   w2=(((((w1.setCell ⟨g+1,0,none⟩ (.int .i64 k)).setCell ⟨g+1,1,none⟩ (.string t)).setCell ⟨g+1,2,none⟩ (.int .i64 v)).setCell ⟨g+1,3,none⟩ (.int .u64 (d:Int))).setCell ⟨g+1,4,none⟩ (.int .i64 (o:Int))) →
   Blk w2 g (g+1) #[.int .i64 k,.string t,.int .i64 v,.int .u64 (d:Int),.int .i64 (o:Int)] 124∧Lxb w2 b s i2 e2 a2∧Oth b w w2:=by
  rintro w1 w2 i2 e2 a2 h1 h2 h3 rfl
  exact ⟨h1.out.put5,Blk.oth5 h2.out (by omega),h3.put5 (by omega)⟩
 have FIN:=Lib.hid fin
 clear fin
 by_cases hE:E=0
 ·subst hE
  rw [if_neg (show ¬ ((0:Nat)≠0) from fun h=>h rfl),if_neg (show ¬ ((0:Nat)≠0) from fun h=>h rfl)]
  have hc2:((∃ (c:UInt8) (hp:i<s.size),decide ((i:Int)<(l.length:Int))=true∧i<l.length∧(i:Int)<(s.size:Int)∧s[i]'hp=c∧(isLtS c=true∨isLtS c=false∧((c.toNat:Int) == 46)=true))∧G=true) ∨
    ((∃ (c:UInt8) (hp:i<s.size),decide ((i:Int)<(l.length:Int))=true∧i<l.length∧(i:Int)<(s.size:Int)∧s[i]'hp=c∧isLtS c=false∧((c.toNat:Int) == 46)=false)∧G=false) ∨
    (decide ((i:Int)<(l.length:Int))=false∧¬ i<l.length∧G=false):=by
   rcases hcase with ⟨c,hp,k1,k2,k3,k4,k5⟩ | h
   ·cases hL:isLtS c
    ·rw [hL,Bool.false_or] at k5
     by_cases h46:c.toNat=46
     ·rw [decide_eq_true h46] at k5
      exact .inl ⟨⟨c,hp,k1,k2,k3,k4,.inr ⟨hL,by rw [beq_iff_eq];omega⟩⟩,k5.symm⟩
     ·rw [decide_eq_false h46] at k5
      exact .inr (.inl ⟨⟨c,hp,k1,k2,k3,k4,hL,by rw [beq_eq_false_iff_ne];omega⟩,k5.symm⟩)
    ·rw [hL,Bool.true_or] at k5
     exact .inl ⟨⟨c,hp,k1,k2,k3,k4,.inl hL⟩,k5.symm⟩
   ·exact .inr (.inr h)
  clear hcase
  rcases hc2 with ⟨⟨c,hp,k1,k2,k3,k4,hb⟩,rfl⟩ | ⟨⟨c,hp,k1,k2,k3,k4,hL,b46⟩,rfl⟩ | ⟨k1,k2,rfl⟩
  ·rcases hb with hL | ⟨hL,b46⟩
   all_goals
    have hlg:=fun w=>refLetter_any c w
    rw [hL] at hlg
    go_enter Tryz.func123,Tryz.ntmps123
    go_wp2_with fail
    go_quiet (exact Calls.quiet_of_same (hlg _))
    generalize hW:World.drewN (World.alloc (World.alloc _ _) _) _=w1
    have hA:Hid (Blk w1 g g #[.int .i64 k,.string t,.int .i64 v,.int .u64 (d:Int),.int .i64 (o:Int)] 124):=by rw [← hW,← hg];exact ((Blk.new w _ _).alloc _).drew _
    have hT:Hid (Blk w1 g (g+1) #[.int .i64 0,.string ⟨#[]⟩,.int .i64 0,.int .u64 0,.int .i64 0] 124):=by
     rw [← hW,← hg,show w.heap.size+1=(w.alloc (.cells #[.int .i64 k,.string t,.int .i64 v,.int .u64 (d:Int),.int .i64 (o:Int)] 124)).heap.size from by simp]
     exact ((Blk.new (w.alloc _) _ _).less (by simp)).drew _
    have hBW:Hid (Lxb w1 b s i 0 0):=by rw [← hW];exact ((HB.out.alloc _).alloc _).drew _
    have hOW:Hid (Oth b w w1):=by rw [← hW];exact Oth.nx (Nx.dr (nxa (nx0 w _) _) _)
    clear hW c0 c1 c2 c3 f0 f1 f2 f3
    obtain ⟨c0,c1,c2,c3,f0,f1,f2,f3⟩:=Lxb.cells hBW.out
    go_wp2_with fail
    refine (lxfail_any b s i 0 0 2 i _ hBW.out).mono ?_;rintro e w2 ⟨rfl,hC2,hO2⟩
    clear c0 c1 c2 c3 f0 f1 f2 f3
    have hA2:=hO2.blk hA.out (by omega)
    have hT2:=Lib.hid (hO2.blk hT.out (by omega))
    have HC2:=Lib.hid hC2
    have HO2:=Lib.hid (hOW.out.trans hO2)
    obtain ⟨c0,c1,c2,c3,c4,-⟩:=cells5 hA2
    obtain ⟨e0,e1,e2,e3,e4,f0,f1,f2,f3,f4⟩:=cells5 hT2.out
    clear hC2 hO2 hA2
    go_wp2_with fail
    obtain ⟨r1,r2,r3⟩:=FIN.out w2 _ _ _ _ hT2 HC2 HO2.out rfl
    refine bodyPost_ret (results_cell_row rfl _ _ (g+1) _ _ _ _ rfl r1.2 Tryz.underlying124 rfl (by kernel_rfl)) rfl ?_
    exact ⟨rfl,r2,r3⟩
  ·have hlg:=fun w=>refLetter_any c w
   rw [hL] at hlg
   go_enter Tryz.func123,Tryz.ntmps123
   go_wp2_with fail
   go_quiet (exact Calls.quiet_of_same (hlg _))
   generalize hW:World.drewN (World.alloc (World.alloc _ _) _) _=w1
   have hA:Hid (Blk w1 g g #[.int .i64 k,.string t,.int .i64 v,.int .u64 (d:Int),.int .i64 (o:Int)] 124):=by rw [← hW,← hg];exact ((Blk.new w _ _).alloc _).drew _
   have hT:Hid (Blk w1 g (g+1) #[.int .i64 0,.string ⟨#[]⟩,.int .i64 0,.int .u64 0,.int .i64 0] 124):=by
    rw [← hW,← hg,show w.heap.size+1=(w.alloc (.cells #[.int .i64 k,.string t,.int .i64 v,.int .u64 (d:Int),.int .i64 (o:Int)] 124)).heap.size from by simp]
    exact ((Blk.new (w.alloc _) _ _).less (by simp)).drew _
   have hBW:Hid (Lxb w1 b s i 0 0):=by rw [← hW];exact ((HB.out.alloc _).alloc _).drew _
   have hOW:Hid (Oth b w w1):=by rw [← hW];exact Oth.nx (Nx.dr (nxa (nx0 w _) _) _)
   clear hW c0 c1 c2 c3 f0 f1 f2 f3
   obtain ⟨c0,c1,c2,c3,c4,-⟩:=cells5 hA.out
   obtain ⟨e0,e1,e2,e3,e4,f0,f1,f2,f3,f4⟩:=cells5 hT.out
   go_wp2_with fail
   obtain ⟨r1,r2,r3⟩:=FIN.out w1 _ _ _ _ hT hBW hOW.out rfl
   refine bodyPost_ret (results_cell_row rfl _ _ (g+1) _ _ _ _ rfl r1.2 Tryz.underlying124 rfl (by kernel_rfl)) rfl ?_
   exact ⟨rfl,r2,r3⟩
  ·go_enter Tryz.func123,Tryz.ntmps123
   go_wp2_with fail
   go_quiet (fail)
   generalize hW:World.drewN (World.alloc (World.alloc _ _) _) _=w1
   have hA:Hid (Blk w1 g g #[.int .i64 k,.string t,.int .i64 v,.int .u64 (d:Int),.int .i64 (o:Int)] 124):=by rw [← hW,← hg];exact ((Blk.new w _ _).alloc _).drew _
   have hT:Hid (Blk w1 g (g+1) #[.int .i64 0,.string ⟨#[]⟩,.int .i64 0,.int .u64 0,.int .i64 0] 124):=by
    rw [← hW,← hg,show w.heap.size+1=(w.alloc (.cells #[.int .i64 k,.string t,.int .i64 v,.int .u64 (d:Int),.int .i64 (o:Int)] 124)).heap.size from by simp]
    exact ((Blk.new (w.alloc _) _ _).less (by simp)).drew _
   have hBW:Hid (Lxb w1 b s i 0 0):=by rw [← hW];exact ((HB.out.alloc _).alloc _).drew _
   have hOW:Hid (Oth b w w1):=by rw [← hW];exact Oth.nx (Nx.dr (nxa (nx0 w _) _) _)
   clear hW c0 c1 c2 c3 f0 f1 f2 f3
   obtain ⟨c0,c1,c2,c3,c4,-⟩:=cells5 hA.out
   obtain ⟨e0,e1,e2,e3,e4,f0,f1,f2,f3,f4⟩:=cells5 hT.out
   go_wp2_with fail
   obtain ⟨r1,r2,r3⟩:=FIN.out w1 _ _ _ _ hT hBW hOW.out rfl
   refine bodyPost_ret (results_cell_row rfl _ _ (g+1) _ _ _ _ rfl r1.2 Tryz.underlying124 rfl (by kernel_rfl)) rfl ?_
   exact ⟨rfl,r2,r3⟩
 ·have b1:((E:Int) != 0)=true:=by simp;omega
  rw [if_pos hE,if_pos hE]
  go_enter Tryz.func123,Tryz.ntmps123
  go_wp2_with fail
  generalize hW:World.alloc (World.alloc _ _) _=w1
  have hA:Hid (Blk w1 g g #[.int .i64 k,.string t,.int .i64 v,.int .u64 (d:Int),.int .i64 (o:Int)] 124):=by rw [← hW,← hg];exact (Blk.new w _ _).alloc _
  have hT:Hid (Blk w1 g (g+1) #[.int .i64 0,.string ⟨#[]⟩,.int .i64 0,.int .u64 0,.int .i64 0] 124):=by
   rw [← hW,← hg,show w.heap.size+1=(w.alloc (.cells #[.int .i64 k,.string t,.int .i64 v,.int .u64 (d:Int),.int .i64 (o:Int)] 124)).heap.size from by simp]
   exact (Blk.new (w.alloc _) _ _).less (by simp)
  have hBW:Hid (Lxb w1 b s i 0 0):=by rw [← hW];exact (HB.out.alloc _).alloc _
  have hOW:Hid (Oth b w w1):=by rw [← hW];exact Oth.nx (nxa (nx0 w _) _)
  clear hW c0 c1 c2 c3 f0 f1 f2 f3
  refine (lxfail_any b s i 0 0 E o _ hBW.out).mono ?_;rintro e w2 ⟨rfl,hC2,hO2⟩
  have hA2:=hO2.blk hA.out (by omega)
  have hT2:=Lib.hid (hO2.blk hT.out (by omega))
  have HC2:=Lib.hid hC2
  have HO2:=Lib.hid (hOW.out.trans hO2)
  obtain ⟨c0,c1,c2,c3,c4,-⟩:=cells5 hA2
  obtain ⟨e0,e1,e2,e3,e4,f0,f1,f2,f3,f4⟩:=cells5 hT2.out
  clear hC2 hO2 hA2
  go_wp2_with fail
  obtain ⟨r1,r2,r3⟩:=FIN.out w2 _ _ _ _ hT2 HC2 HO2.out rfl
  refine bodyPost_ret (results_cell_row rfl _ _ (g+1) _ _ _ _ rfl r1.2 Tryz.underlying124 rfl (by kernel_rfl)) rfl ?_
  exact ⟨rfl,r2,r3⟩
end Go.Proofs.YtpfecpcgdfbekaaGreatDoor
namespace Go.Proofs.YtpfecpcgdfbekaaGreatDoor
open Go.RowKit
theorem hexI_of (c:UInt8):(isHexS c=true→hexI c=(hexV c:Nat)∧hexV c≤15)∧(isHexS c=false→hexI c = -1):=by
 unfold hexI
 exact ⟨fun h=>by rw [if_pos h];exact ⟨rfl,hexV_lt c h⟩,fun h=>by rw [if_neg (by rw [h];decide)]⟩
end Go.Proofs.YtpfecpcgdfbekaaGreatDoor
namespace Go.Proofs.YtpfecpcgdfbekaaGreatDoor
open Go.RowKit
end Go.Proofs.YtpfecpcgdfbekaaGreatDoor
namespace Go.Proofs.YtpfecpcgdfbekaaGreatDoor
open Go.RowKit
end Go.Proofs.YtpfecpcgdfbekaaGreatDoor
namespace Go.Proofs.YtpfecpcgdfbekaaGreatDoor
open Go.RowKit
end Go.Proofs.YtpfecpcgdfbekaaGreatDoor
namespace Go.Proofs.YtpfecpcgdfbekaaGreatDoor
open Go.RowKit
def uv (x:UInt32):Value:=.int .u32 (x.toNat:Int)
def val:List UInt32→Nat
 | []=>0
 | x :: l=>x.toNat+4294967296 * val l
theorem val_cons (x:UInt32) (l:List UInt32):val (x :: l)=x.toNat+4294967296 * val l:=rfl
theorem val_lt (l:List UInt32):val l<4294967296 ^ l.length:=by
 induction l with
 | nil=>simp [val]
 | cons x l ih =>
  have hx:x.toNat<4294967296:=x.toNat_lt
  rw [val_cons,List.length_cons,Nat.pow_succ]
  generalize 4294967296 ^ l.length=P at *
  omega
theorem val_entry (l:List UInt32) (i:Nat):(l.getD i 0).toNat=val l / 4294967296 ^ i % 4294967296:=by
 induction l generalizing i with
 | nil=>simp [val]
 | cons x l ih =>
  have hx:x.toNat<4294967296:=x.toNat_lt
  cases i with
  | zero=>rw [val_cons];simp
  | succ i =>
   rw [val_cons,Nat.pow_succ,Nat.mul_comm (4294967296 ^ i),← Nat.div_div_eq_div_mul]
   have:(x.toNat+4294967296 * val l) / 4294967296=val l:=by omega
   rw [this,← ih];rfl
def Canon (l:List UInt32):Prop:=∀ h:l≠[],l.getLast h≠0
theorem canon_nil:Canon []:=fun h=>absurd rfl h
def limbsF:Nat→Nat→List UInt32
 | 0,_=>[]
 | f+1,n=>if n=0 then [] else UInt32.ofNat n :: limbsF f (n / 4294967296)
def limbs (n:Nat):List UInt32:=limbsF n n
theorem limbsF_spec (f n:Nat) (h:n≤f):val (limbsF f n)=n∧Canon (limbsF f n):=by
 induction f generalizing n with
 | zero =>
   obtain rfl:n=0:=by omega
   exact ⟨rfl,canon_nil⟩
 | succ f ih =>
  unfold limbsF
  by_cases h0:n=0
  ·rw [if_pos h0];exact ⟨h0.symm,canon_nil⟩
  ·rw [if_neg h0]
   obtain ⟨h1,h2⟩:=ih (n / 4294967296) (by omega)
   have hn:(UInt32.ofNat n).toNat=n % 4294967296:=UInt32.toNat_ofNat'
   refine ⟨by rw [val_cons,h1,hn];omega,fun hne=>?_⟩
   by_cases hl:limbsF f (n / 4294967296)=[]
   ·simp only [hl,List.getLast_singleton]
    rw [hl] at h1
    have h1':n / 4294967296=0:=h1.symm
    intro e
    have:=congrArg UInt32.toNat e
    rw [hn] at this
    have:n % 4294967296=0:=this
    omega
   ·rw [List.getLast_cons hl];exact h2 hl
theorem val_limbs (n:Nat):val (limbs n)=n:=(limbsF_spec n n (Nat.le_refl _)).1
theorem canon_limbs (n:Nat):Canon (limbs n):=(limbsF_spec n n (Nat.le_refl _)).2
theorem limbs_len (n k:Nat) (h:n<4294967296 ^ k):(limbs n).length≤k:=by
 rcases Nat.lt_or_ge k (limbs n).length with hlt | hge
 ·exfalso
  have hne:limbs n≠[]:=by intro e;rw [e] at hlt;simp at hlt
  have hc:=canon_limbs n hne
  have he:=val_entry (limbs n) ((limbs n).length - 1)
  rw [val_limbs,List.getD,List.getElem?_eq_getElem (by omega)] at he
  have hp:n / 4294967296 ^ ((limbs n).length - 1)=0:=Nat.div_eq_of_lt (Nat.lt_of_lt_of_le h (Nat.pow_le_pow_right (by decide) (by omega)))
  rw [hp] at he
  apply hc
  rw [List.getLast_eq_getElem]
  have he':((limbs n)[(limbs n).length - 1]'(by omega)).toNat=0:=he
  exact UInt32.toNat_inj.1 he'
 ·exact hge
end Go.Proofs.YtpfecpcgdfbekaaGreatDoor
namespace Go.Proofs.YtpfecpcgdfbekaaGreatDoor
open Go.RowKit
def ent (l:List UInt32) (i:Nat):Nat:=(l.getD i 0).toNat
end Go.Proofs.YtpfecpcgdfbekaaGreatDoor
namespace Go.Proofs.YtpfecpcgdfbekaaGreatDoor
open Go.RowKit
def IsNum (w:World) (v:Value) (n:Nat):Prop:=∃ A c ys,v = .slice A ys.length c∧Rd uv w A ys∧ys.length≤c∧c≤maxLen∧Hid (ys=limbs n)
theorem IsNum.below {w w':World} {v:Value} {n:Nat} (h:IsNum w v n) (hb:Below w.heap.size w w'):IsNum w' v n:=by
 obtain ⟨A,c,ys,h1,h2,h3⟩:=h
 exact ⟨A,c,ys,h1,h2.below hb,h3⟩
theorem IsNum.zero (w:World):IsNum w (.slice none 0 0) 0:=⟨none,0,[],rfl,Rd.nil,Nat.le_refl _,Nat.zero_le _,rfl⟩
theorem IsNum.open_ {w:World} {v:Value} {n:Nat} (h:IsNum w v n) (k:Nat) (hk:n<4294967296 ^ k):∃ A c ys,v = .slice A ys.length c∧Rd uv w A ys∧ys.length≤c∧c≤maxLen∧ys.length≤k∧Hid (ys=limbs n)∧Hid (val ys=n):=by
 obtain ⟨A,c,ys,h1,h2,h3,h4,h5⟩:=h
 refine ⟨A,c,ys,h1,h2,h3,h4,?_,h5,?_⟩
 ·rw [h5.out];exact limbs_len _ _ hk
 ·unfold Hid;rw [h5.out,val_limbs]
def Num (w:World) (v:Value) (n K:Nat):Prop:=∃ A c ys,v = .slice A ys.length c∧Rd uv w A ys∧ys.length≤c∧c≤maxLen∧ys.length≤K∧val ys=n
theorem Num.below {w w':World} {v:Value} {n K:Nat} (h:Num w v n K) (hb:Below w.heap.size w w'):Num w' v n K:=by
 obtain ⟨A,c,ys,h1,h2,h3⟩:=h
 exact ⟨A,c,ys,h1,h2.below hb,h3⟩
theorem IsNum.num {w:World} {v:Value} {n K:Nat} (h:IsNum w v n) (hk:n<4294967296 ^ K):Num w v n K:=by
 obtain ⟨A,c,ys,h1,h2,h3,h4,h5,h6,h7⟩:=h.open_ K hk
 exact ⟨A,c,ys,h1,h2,h3,h4,h5,h7⟩
theorem Num.of {w:World} {A:Option Addr} {xs:List UInt32} {c K:Nat} (hr:Rd uv w A xs) (hc:xs.length≤c) (hm:c≤maxLen) (hl:xs.length≤K):Num w (.slice A xs.length c) (val xs) K:=⟨A,c,xs,rfl,hr,hc,hm,hl,rfl⟩
theorem Num.lt {w:World} {v:Value} {n K:Nat} (h:Num w v n K):n<4294967296 ^ K:=by
 obtain ⟨A,c,ys,h1,h2,h3,h4,h5,rfl⟩:=h
 exact Nat.lt_of_lt_of_le (val_lt ys) (Nat.pow_le_pow_right (by decide) h5)
theorem b8 {n K:Nat} (k:Nat) (h:n<4294967296 ^ k) (hk:k≤K):n<4294967296 ^ K:=Nat.lt_of_lt_of_le h (Nat.pow_le_pow_right (by decide) hk)
end Go.Proofs.YtpfecpcgdfbekaaGreatDoor
namespace Go.Proofs.YtpfecpcgdfbekaaGreatDoor
open Go.RowKit
end Go.Proofs.YtpfecpcgdfbekaaGreatDoor
namespace Go.Proofs.YtpfecpcgdfbekaaGreatDoor
open Go.RowKit
structure Row (w:World) (B g off cap:Nat) (xs:List UInt32):Prop where
 hB:B≤g
 hg:g<w.heap.size
 hn:xs.length≤cap
 hm:cap≤maxLen
 hs:∀ j,j<cap→(w.cell? ⟨g,off+j,none⟩).isSome=true∧w.frozen? ⟨g,off+j,none⟩=false
 hc:∀ j (h:j<xs.length),w.cell? ⟨g,off+j,none⟩=some (uv xs[j])
theorem Row.rd {w:World} {B g off cap:Nat} {xs:List UInt32} (h:Row w B g off cap xs):Rd uv w (some ⟨g,off,none⟩) xs:=fun _=>⟨g,off,rfl,h.hg,h.hc⟩
theorem Row.gen {w:World} {B g off cap:Nat} {xs:List UInt32} (h:Row w B g off cap xs):OwnG uv w B (.slice (some ⟨g,off,none⟩) xs.length cap) xs:=.inr ⟨g,off,cap,rfl,h.hB,h.hg,h.hn,h.hm,h.hs,h.hc⟩
theorem Row.of_gen {w:World} {B g off cap n:Nat} {xs:List UInt32} (h:OwnG uv w B (.slice (some ⟨g,off,none⟩) n cap) xs):Row w B g off cap xs:=by
 rcases h with ⟨h,_⟩ | ⟨g',off',cap',h1,h2,h3,h4,h5,h6,h7⟩
 ·cases h
 ·injection h1 with e1 e2 e3;injection e1 with e1;injection e1 with e4 e5;subst e4 e5 e3;exact ⟨h2,h3,h4,h5,h6,h7⟩
theorem Row.below {w w':World} {B g off cap:Nat} {xs:List UInt32} (h:Row w B g off cap xs) (hb:Below w.heap.size w w'):Row w' B g off cap xs:=Row.of_gen (h.gen.below hb)
theorem Row.less {w:World} {B B' g off cap:Nat} {xs:List UInt32} (h:Row w B g off cap xs) (hB:B'≤B):Row w B' g off cap xs:={ h with hB:=Nat.le_trans hB h.hB }
theorem Row.set_ {w:World} {B g off cap i:Nat} {xs:List UInt32} {y:UInt32} (h:Row w B g off cap xs) (hi:i<xs.length):Row (w.setCell ⟨g,off+i,none⟩ (uv y)) B g off cap (xs.set i y) :=
 Row.of_gen (h.gen.set_ hi)
theorem Row.drew {w:World} {B g off cap:Nat} {xs:List UInt32} (h:Row w B g off cap xs):Row w.drew B g off cap xs:=⟨h.hB,h.hg,h.hn,h.hm,h.hs,h.hc⟩
theorem Row.cell {w:World} {B g off cap:Nat} {xs:List UInt32} (h:Row w B g off cap xs) {i a:Nat} (hi:i<xs.length) (ha:Hid (ent xs i=a)):w.cell? ⟨g,off+i,none⟩=some (.int .u32 (a:Int)):=by
 rw [h.hc i hi,← ha.out,uv,ent,List.getD,List.getElem?_eq_getElem hi];rfl
theorem Row.free {w:World} {B g off cap:Nat} {xs:List UInt32} (h:Row w B g off cap xs) {i:Nat} (hi:i<xs.length):w.frozen? ⟨g,off+i,none⟩=false:=(h.hs i (Nat.lt_of_lt_of_le hi h.hn)).2
theorem Row.put {w:World} {B g off cap i:Nat} {xs:List UInt32} (h:Row w B g off cap xs) (hi:i<xs.length) (n:Nat):Row (w.setCell ⟨g,off+i,none⟩ (uv (UInt32.ofNat n))) B g off cap (xs.set i (UInt32.ofNat n)):=h.set_ hi
section
variable {P:Program} (w:World) {ops:Array Oper} {rest:List Oper} {o:Oper} {a:Act} {Q:Exit→Act→World→Prop}
end
end Go.Proofs.YtpfecpcgdfbekaaGreatDoor
namespace Go.Proofs.YtpfecpcgdfbekaaGreatDoor
open Go.RowKit
end Go.Proofs.YtpfecpcgdfbekaaGreatDoor
namespace Go.Proofs.YtpfecpcgdfbekaaGreatDoor
open Go.RowKit
end Go.Proofs.YtpfecpcgdfbekaaGreatDoor
namespace Go.Proofs.YtpfecpcgdfbekaaGreatDoor
open Go.RowKit
end Go.Proofs.YtpfecpcgdfbekaaGreatDoor
namespace Go.Proofs.YtpfecpcgdfbekaaGreatDoor
open Go.RowKit
structure Only (g lo hi:Nat) (w w':World):Prop where
 os:w'.os=w.os
 tape:w'.tape=w.tape
 output:w'.output=w.output
 size:w.heap.size≤w'.heap.size
 block:∀ k,k≠g→k<w.heap.size→w'.heap[k]? = w.heap[k]?
 cell:∀ j,j<lo∨hi≤j→w'.cell? ⟨g,j,none⟩=w.cell? ⟨g,j,none⟩
 isSome:∀ j,(w.cell? ⟨g,j,none⟩).isSome=true→(w'.cell? ⟨g,j,none⟩).isSome=true
 frozen:∀ j,w'.frozen? ⟨g,j,none⟩=w.frozen? ⟨g,j,none⟩
theorem Only.refl (g lo hi:Nat) (w:World):Only g lo hi w w:=⟨rfl,rfl,rfl,Nat.le_refl _,fun _ _ _=>rfl,fun _ _=>rfl,fun _ h=>h,fun _=>rfl⟩
theorem Only.trans {g lo hi:Nat} {a b c:World} (h:Only g lo hi a b) (k:Only g lo hi b c):Only g lo hi a c :=
 ⟨k.os.trans h.os,k.tape.trans h.tape,k.output.trans h.output,Nat.le_trans h.size k.size,fun i h1 h2=>(k.block i h1 (Nat.lt_of_lt_of_le h2 h.size)).trans (h.block i h1 h2),fun j hj=>(k.cell j hj).trans (h.cell j hj),fun j hj=>k.isSome j (h.isSome j hj),fun j=>(k.frozen j).trans (h.frozen j)⟩
theorem Only.nx {g lo hi:Nat} {a b c:World} (h:Only g lo hi a b) (hg:g<b.heap.size) (k:Below b.heap.size b c):Only g lo hi a c :=
 h.trans ⟨k.os,k.tape,k.output,k.size,fun i _ h2=>k.block i h2,fun j _=>k.cell (p:=⟨g,j,none⟩) hg,fun j hj=>by rw [k.cell (p:=⟨g,j,none⟩) hg];exact hj,fun j=>k.frozen (p:=⟨g,j,none⟩) hg⟩
theorem Only.setCell {g lo hi i:Nat} {a b:World} (h:Only g lo hi a b) (h1:lo≤i) (h2:i<hi) (v:Value):Only g lo hi a (b.setCell ⟨g,i,none⟩ v):=by
 refine h.trans ⟨rfl,rfl,rfl,by simp [World.setCell],fun k hk _=>Below.heap_setCell _ _ _ _ hk,fun j hj=>?_,fun j hj=>?_,fun j=>World.frozen?_setCell ..⟩
 ·exact World.cell?_setCell_other _ _ _ _ (by simp only [ne_eq,Addr.mk.injEq];omega)
 ·by_cases hji:j=i
  ·subst hji
   obtain ⟨u,hu⟩:=Option.isSome_iff_exists.1 hj
   rw [World.cell?_setCell_same _ _ _ hu];rfl
  ·rw [World.cell?_setCell_other _ _ _ _ (by simp only [ne_eq,Addr.mk.injEq];omega)];exact hj
theorem Only.below {g lo hi B:Nat} {w w':World} (h:Only g lo hi w w') (hB:B≤g) (hs:B≤w.heap.size):Below B w w' :=
 ⟨h.os,h.tape,h.output,h.size,fun k hk=>h.block k (by omega) (by omega)⟩
theorem Only.other {g lo hi:Nat} {w w':World} (h:Only g lo hi w w') {p:Addr} (hp:p.block≠g) (hs:p.block<w.heap.size):w'.cell? p=w.cell? p :=
 World.cell?_of_block (w:=w) (h.block p.block hp hs)
theorem Only.otherF {g lo hi:Nat} {w w':World} (h:Only g lo hi w w') {p:Addr} (hp:p.block≠g) (hs:p.block<w.heap.size):w'.frozen? p=w.frozen? p :=
 World.frozen?_of_block (w:=w) (h.block p.block hp hs)
theorem Row.only {w w':World} {B g off cap g' lo hi:Nat} {xs:List UInt32} (h:Row w B g off cap xs) (ho:Only g' lo hi w w') (hne:g≠g'):Row w' B g off cap xs :=
 ⟨h.hB,Nat.lt_of_lt_of_le h.hg ho.size,h.hn,h.hm,fun j hj=>by rw [ho.other (p:=⟨g,off+j,none⟩) hne h.hg,ho.otherF (p:=⟨g,off+j,none⟩) hne h.hg];exact h.hs j hj,fun j hj=>by rw [ho.other (p:=⟨g,off+j,none⟩) hne h.hg];exact h.hc j hj⟩
def Rdx (g:Nat) (w:World) (A:Option Addr) (xs:List UInt32):Prop :=
 0<xs.length→∃ b off,A=some ⟨b,off,none⟩∧b≠g∧b<w.heap.size∧∀ j (h:j<xs.length),w.cell? ⟨b,off+j,none⟩=some (uv xs[j])
theorem Rdx.rd {g:Nat} {w:World} {A:Option Addr} {xs:List UInt32} (h:Rdx g w A xs):Rd uv w A xs:=fun hn=>by
 obtain ⟨b,off,h1,_,h2,h3⟩:=h hn
 exact ⟨b,off,h1,h2,h3⟩
theorem Rdx.only {g lo hi:Nat} {w w':World} {A:Option Addr} {xs:List UInt32} (h:Rdx g w A xs) (ho:Only g lo hi w w'):Rdx g w' A xs:=fun hn=>by
 obtain ⟨b,off,h1,h0,h2,h3⟩:=h hn
 exact ⟨b,off,h1,h0,Nat.lt_of_lt_of_le h2 ho.size,fun j hj=>by rw [ho.other (p:=⟨b,off+j,none⟩) h0 h2];exact h3 j hj⟩
end Go.Proofs.YtpfecpcgdfbekaaGreatDoor
namespace Go.Proofs.YtpfecpcgdfbekaaGreatDoor
open Go.RowKit
end Go.Proofs.YtpfecpcgdfbekaaGreatDoor
namespace Go.Proofs.YtpfecpcgdfbekaaGreatDoor
open Go.RowKit
section
variable {P:Program} (w:World) {ops:Array Oper} {rest:List Oper} {o:Oper} {a:Act} {Q:Exit→Act→World→Prop}
end
end Go.Proofs.YtpfecpcgdfbekaaGreatDoor
namespace Go.Proofs.YtpfecpcgdfbekaaGreatDoor
open Go.RowKit
theorem Row.cut {w:World} {B g off cap l m:Nat} {xs:List UInt32} (h:Row w B g off cap xs) (h1:l+m≤xs.length) (h2:l≤cap):Row w B g (off+l) (cap - l) ((xs.take (l+m)).drop l):=by
 have hl:((xs.take (l+m)).drop l).length=m:=by rw [List.length_drop,List.length_take];omega
 have:=h.hn
 refine ⟨h.hB,h.hg,by omega,by have:=h.hm;omega,fun j hj=>?_,fun j hj=>?_⟩
 ·rw [Nat.add_assoc];exact h.hs (l+j) (by omega)
 ·rw [List.getElem_drop,List.getElem_take,Nat.add_assoc];exact h.hc (l+j) (by omega)
end Go.Proofs.YtpfecpcgdfbekaaGreatDoor
