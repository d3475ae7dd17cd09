/- The contract of the document's lexer: digits in tens, with a sign. The contract of the document's lexer: a name. The contracts of the document's lexer: what stands behind a number, digits in sixteens. -/
import Derived.Test.YtbblfkdmkpkmcaaGreatDoorR00
import Derived.Test.YtbblfkdmkpkmcaaGreatDoorG19
import Derived.Laws.Rows
import Derived.Deep.DeepCutAuto
set_option linter.unusedVariables false
set_option linter.unusedSimpArgs false
set_option linter.unnecessarySimpa false
namespace Go.Proofs.YtbblfkdmkpkmcaaGreatDoor
open Go.RowKit
set_option maxRecDepth 100000 in
set_option maxHeartbeats 6400000 in
theorem refTen10_any (s:ByteArray) (l:List UInt8) (w:World) (hl:Tx s l) (h0:l≠[]) (hd:∀ c ∈ l.drop (sgnN l),isDig c=true) (hs:(l.length:Int)≤100000) :
    Calls Tryz.prog 130 #[.string s] w fun e w'=>(∃ n,e = .returned (.tuple #[.int .i64 n,.int .i64 ((wholeS l).2:Nat)])∧((wholeS l).2=0→n=(wholeS l).1))∧w'=w:=by
  obtain ⟨c,r,rfl⟩:∃ c r,l=c :: r:=by cases l with
    | nil=>exact absurd rfl h0
    | cons c r=>exact ⟨c,r,rfl⟩
  obtain ⟨hp,t0,e0,e1,ht,e2,e3⟩:=hl.cons
  have HL:=Lib.hid hl
  obtain ⟨neg,hneg⟩:∃ neg,((c.toNat:Int) == 45)=neg:=⟨_,rfl⟩
  obtain ⟨pos,hpos⟩:∃ pos,((c.toNat:Int) == 43)=pos:=⟨_,rfl⟩
  have hsg:sgnN (c :: r)=if neg || pos then 1 else 0:=by
    unfold sgnN;dsimp only
    rw [← hneg,← hpos]
    by_cases h1:c.toNat=45
    · simp [h1]
    · by_cases h2:c.toNat=43
      · simp [h2]
      · rw [if_neg (by omega),if_neg]
        simp;omega
  obtain ⟨ds,hds⟩:∃ ds,(c :: r).drop (sgnN (c :: r))=ds:=⟨_,rfl⟩
  rw [hds] at hd
  have hdl:(ds.length:Int)≤100000:=by
    have:ds.length≤(c :: r).length:=by rw [← hds];simp
    omega
  obtain ⟨u,HU,hu⟩:∃ u:ByteArray,Hid (Tx u ds)∧((neg || pos)=true→u=t0)∧((neg || pos)=false→u=s):=by
    cases hb:(neg || pos)
    · rw [hb] at hsg
      rw [hsg] at hds
      refine ⟨s,?_,fun h=>by simp at h,fun _=>rfl⟩
      subst hds;exact hl
    · rw [hb] at hsg
      rw [hsg] at hds
      refine ⟨t0,?_,fun _=>rfl,fun h=>by simp at h⟩
      subst hds;exact ht
  obtain ⟨T,hT⟩:∃ T,Hid (natB 10 ds=T):=⟨_,rfl⟩
  have HX:Hid (wholeS (c :: r)=if 60<ds.length then (0,4) else if (if neg then 9223372036854775808 else 9223372036854775807)<T then (0,5) else ((if neg then -(T:Int) else (T:Int)),0)):=by
    have hn:negB (c :: r)=neg:=by
      unfold negB;dsimp only;rw [← hneg,Bool.eq_iff_iff];simp;omega
    unfold Hid wholeS;dsimp only;rw [hds,hT.out,hn]
  have HD:=Lib.hid hd
  have HMo:Hid (∀ n,natB 10 (ds.take n)≤T):=by
    intro n
    rw [← hT.out]
    have:=natB_mono 10 (by decide) (ds.take n) (ds.drop n)
    rwa [List.take_append_drop] at this
  obtain ⟨X,hX⟩:∃ X,Hid (wholeS (c :: r)=X):=⟨_,rfl⟩
  rw [hX.out] at HX ⊢
  obtain ⟨xv,xe⟩:=X
  dsimp only
  have hus:(u.size:Int)=(ds.length:Int):=by rw [HU.out.size]
  have HUe:=Lib.hid hu
  clear hl hd ht hds hsg h0 hu
  have hnp:neg=true∨neg=false∧pos=true∨neg=false∧pos=false:=by cases neg <;> cases pos <;> simp
  have b45:=hneg
  have b43:=hpos
  clear hneg hpos
  rcases hnp with rfl | ⟨rfl,rfl⟩ | ⟨rfl,rfl⟩
  all_goals
    first
      | (obtain rfl:u=t0:=HUe.out.1 rfl)
      | (obtain rfl:u=s:=HUe.out.2 rfl
         clear e1 e2 e3)
    clear HUe
    by_cases h60:60<ds.length
    · have g1:decide ((60:Int)<(ds.length:Int))=true:=decide_eq_true (by omega)
      have HX2:Hid ((xv,xe)=((0:Int),4)):=by unfold Hid;rw [HX.out,if_pos h60]
      go_enter Tryz.func130,Tryz.ntmps130
      go_wp2_with fail
      go_ret2
      have hx:=HX2.out
      simp only [Prod.mk.injEq] at hx
      obtain ⟨rfl,rfl⟩:=hx
      exact ⟨⟨0,rfl,fun h=>by simp at h⟩,rfl⟩
    · have g1:decide ((60:Int)<(ds.length:Int))=false:=decide_eq_false (by omega)
      go_enter Tryz.func130,Tryz.ntmps130
      go_wp2_with fail
      go_loopw [5,6] (fun v i wr=>∃ (n V:Nat),v = .int .u64 (V:Int)∧i = .int .i64 n∧n≤ds.length∧Hid (natB 10 (ds.take n)=V)∧(V:Int)≤9223372036854775808∧wr=w) (fun _ i _=>(100000 - intOf i).toNat)
      case atStart=>exact ⟨0,0,rfl,rfl,Nat.zero_le _,by unfold Hid;simp [natB],by omega,rfl⟩
      case round =>
        obtain ⟨n,V,rfl,rfl,hn,HV,hVL,rfl⟩:=hrel
        by_cases hlt:n<ds.length
        · obtain ⟨hp2,e4⟩:=HU.out.idx n hlt
          obtain ⟨d,hdd⟩:∃ d,ds[n]=d:=⟨_,rfl⟩
          rw [hdd] at e4
          have hdig:=(isDig_iff d).1 (HD.out d (by rw [← hdd];exact List.getElem_mem hlt))
          obtain ⟨D,hD⟩:∃ D:Nat,(d.toNat:Int) - 48=(D:Int):=⟨d.toNat - 48,by omega⟩
          have hDv:hexV d=D:=by unfold hexV;rw [if_neg (by omega),if_neg (by omega)];omega
          have j1:(48:Int)≤(d.toNat:Int):=by omega
          have j2:(d.toNat:Int)≤57:=by omega
          have hD9:(D:Int)≤9:=by omega
          obtain ⟨R,hR⟩:∃ R:Nat,(9223372036854775808:Int) - (D:Int)=(R:Int):=⟨9223372036854775808 - D,by omega⟩
          have hR2:(R:Int)≤9223372036854775808:=by omega
          obtain ⟨Q,hQ⟩:∃ Q:Nat,R / 10=Q:=⟨_,rfl⟩
          have hQ2:(Q:Int)≤9223372036854775808:=by omega
          have fQ:(R:Int) / 10=(Q:Int):=by omega
          obtain ⟨P,hP⟩:∃ P:Nat,V * 10=P:=⟨_,rfl⟩
          have fP:(V:Int) * 10=(P:Int):=by omega
          have hVQ:V≤Q↔P+D≤9223372036854775808:=by omega
          have hNX:natB 10 (ds.take (n+1))=P+D:=by rw [natB_take 10 ds n hlt,HV.out,hdd,hDv];omega
          have hT1:P+D≤T:=by rw [← hNX];exact HMo.out _
          have k1:decide ((n:Int)<(ds.length:Int))=true:=decide_eq_true (by omega)
          have HNX:=Lib.hid hNX
          have HVQ:=Lib.hid hVQ
          have HT1:=Lib.hid hT1
          clear hdd hdig hDv hQ hP hNX hVQ hT1
          by_cases hle:V≤Q
          · have g2:decide ((Q:Int)<(V:Int))=false:=decide_eq_false (by omega)
            have g3:¬ Q<V:=by omega
            have hPD:(P:Int)+(D:Int)≤9223372036854775808:=by have:=HVQ.out.1 hle;omega
            clear hle
            go_wp2_with fail
            go_roundw
            case rel=>exact ⟨n+1,P+D,by go_num,by go_num,hlt,HNX,by omega,by first | rfl | trivial⟩
            case measure=>simp [intOf];omega
          · have g2:decide ((Q:Int)<(V:Int))=true:=decide_eq_true (by omega)
            have g3:Q<V:=by omega
            have HR:Hid (9223372036854775808<T):=by unfold Hid;have:=HVQ.out;have:=HT1.out;omega
            clear hle
            go_wp2_with fail
            go_ret2
            have hx:=HX.out
            rw [if_neg h60,if_pos (by split <;> (have:=HR.out;omega))] at hx
            simp only [Prod.mk.injEq] at hx
            obtain ⟨rfl,rfl⟩:=hx
            exact ⟨⟨0,rfl,fun h=>by simp at h⟩,rfl⟩
        · have k1:decide ((n:Int)<(ds.length:Int))=false:=decide_eq_false (by omega)
          have HTV:Hid (T=V):=by unfold Hid;rw [← HV.out,List.take_of_length_le (by omega)];exact hT.out.symm
          have hx:=HX.out
          rw [if_neg h60,HTV.out] at hx
          have HX3:=Lib.hid hx
          obtain ⟨VI,hVI⟩:∃ VI:Int,(V:Int)=VI:=⟨_,rfl⟩
          have hV0:0≤VI:=by omega
          rw [hVI] at hVL ⊢
          have HVI:=Lib.hid hVI
          obtain ⟨Z,Y,X1,h1,h2,h3,h4⟩:∃ Z Y X1,IntKind.u64.wrap (VI - 1)=Z∧IntKind.i64.wrap Z=Y∧IntKind.i64.wrap (-Y)=X1∧IntKind.i64.wrap (X1 - 1) = -VI:=by
            refine ⟨_,_,_,rfl,rfl,rfl,?_⟩
            rw [IntKind.wrap_u64,IntKind.wrap_i64,IntKind.wrap_i64,IntKind.wrap_i64]
            omega
          clear hx h60 hVI
          first
            | (have HF:Hid (xv = -VI∧xe=0):=by
                have hx:=HX3.out
                have hv:=HVI.out
                rw [if_neg (by simp;omega)] at hx
                simp only [Prod.mk.injEq,if_true,hv] at hx
                exact hx
               go_wp2_with fail
               go_ret2
               obtain ⟨rfl,rfl⟩:=HF.out
               exact ⟨⟨_,rfl,fun _=>rfl⟩,rfl⟩)
            | (by_cases hbig:(9223372036854775807:Int)<VI
               · have q1:decide ((9223372036854775807:Int)<VI)=true:=decide_eq_true hbig
                 have HF:Hid (xv=0∧xe=5):=by
                   have hx:=HX3.out
                   have hv:=HVI.out
                   rw [if_pos (by simp;omega)] at hx
                   simp only [Prod.mk.injEq] at hx
                   exact hx
                 go_wp2_with fail
                 go_ret2
                 obtain ⟨rfl,rfl⟩:=HF.out
                 exact ⟨⟨0,rfl,fun h=>by simp at h⟩,rfl⟩
               · have q1:decide ((9223372036854775807:Int)<VI)=false:=decide_eq_false hbig
                 have hV2:VI≤9223372036854775807:=by omega
                 have HF:Hid (xv=VI∧xe=0):=by
                   have hx:=HX3.out
                   have hv:=HVI.out
                   rw [if_neg (by simp;omega)] at hx
                   simp only [Prod.mk.injEq] at hx
                   exact ⟨by rw [← hv];simpa using hx.1,hx.2⟩
                 clear hbig h1 h2 h3 h4
                 go_wp2_with fail
                 go_ret2
                 obtain ⟨rfl,rfl⟩:=HF.out
                 exact ⟨⟨_,rfl,fun _=>rfl⟩,rfl⟩)
end Go.Proofs.YtbblfkdmkpkmcaaGreatDoor
namespace Go.Proofs.YtbblfkdmkpkmcaaGreatDoor
open Go.RowKit
def WordR (e':Ending) (b:Nat) (s:ByteArray) (o:Nat) (W:Nat×Nat×TokV×Nat) (w w':World):Prop :=
 ∃ k t v d p,e' = .returned (.agg #[.int .i64 k,.string t,.int .i64 v,.int .u64 d,.int .i64 p]) ∧
  ∃ i',Lxb w' b s i' W.1 (if W.1=0 then 0 else o+W.2.1)∧(W.1=0→#[.int .i64 k,.string t,.int .i64 v,.int .u64 d,.int .i64 p]=tokC { W.2.2.1 with p:=o }∧i'=o+W.2.2.2)∧Oth b w w'
theorem dotBad_step (l:List UInt8) (i:Nat) (hi:i<l.length):dotBad (l.drop i)=(decide (l[i].toNat=46) && ((l.drop (i+1)).isEmpty || decide ((l.drop (i+1)).head? = some 46)) || dotBad (l.drop (i+1))):=by
 rw [List.drop_eq_getElem_cons hi]
 rfl
theorem Blk.oth5 {w:World} {B g k:Nat} {cs:Array Value} {T:TypeId} {v0 v1 v2 v3 v4:Value} (h:Blk w B g cs T) (hk:k≠g) :
  Blk (((((w.setCell ⟨k,0,none⟩ v0).setCell ⟨k,1,none⟩ v1).setCell ⟨k,2,none⟩ v2).setCell ⟨k,3,none⟩ v3).setCell ⟨k,4,none⟩ v4) B g cs T :=
 ((((h.other hk _ _).other hk _ _).other hk _ _).other hk _ _).other hk _ _
set_option maxRecDepth 100000 in
set_option maxHeartbeats 12800000 in
theorem refName_any (b:Nat) (s:ByteArray) (l:List UInt8) (o:Nat) (w:World) (hB:Lxb w b s o 0 0) (hl:Tx s l) (ho:o≤l.length) (hs:(l.length:Int)≤8000) :
    Calls Tryz.prog 89 #[.pointer (some ⟨b,0,none⟩)] w fun e' w'=>WordR e' b s o ((nameS (l.drop o)).1,0,(nameS (l.drop o)).2) w w':=by
  have hz:(s.size:Int)=(l.length:Int):=by rw [hl.size]
  obtain ⟨g,hg⟩:∃ g,w.heap.size=g:=⟨_,rfl⟩
  have hbg:b<g:=by rw [← hg];exact hB.lt
  have hT0:=Blk.new w #[.int .i64 0,.string ⟨#[]⟩,.int .i64 0,.int .u64 0,.int .i64 0] 68
  rw [hg] at hT0
  have hN0:Nx w (w.alloc (Obj.cells #[.int .i64 0,.string ⟨#[]⟩,.int .i64 0,.int .u64 0,.int .i64 0] 68)):=nx0 _ _
  have HL:=Lib.hid hl
  have HB0:Hid (Lxb (w.alloc (Obj.cells #[.int .i64 0,.string ⟨#[]⟩,.int .i64 0,.int .u64 0,.int .i64 0] 68)) b s o 0 0):=hB.below hN0
  obtain ⟨N,hN⟩:∃ N,Hid (spanN isNmS (l.drop o)=N):=⟨_,rfl⟩
  have hNl:o+N≤l.length:=by
    have:=spanN_le isNmS (l.drop o)
    rw [hN.out,List.length_drop] at this;omega
  obtain ⟨T,hT⟩:∃ T,Hid ((l.drop o).take N=T):=⟨_,rfl⟩
  have hTl:T.length=N:=by rw [← hT.out];simp;omega
  obtain ⟨X,hX⟩:∃ X,Hid (nameS (l.drop o)=X):=⟨_,rfl⟩
  have HX:Hid (X=if 120<N then (4,tok0,0) else if dotBad T then (2,tok0,0) else (0,⟨1,T,0,0,0⟩,N)):=by
    unfold Hid;rw [← hX.out];unfold nameS;rw [hN.out,hT.out]
  rw [hX.out]
  obtain ⟨u,hu,HU⟩:=hl.mid o (o+N)
  have HU2:Hid (Tx u T):=by
    have h:=HU.out
    rw [List.drop_take,show o+N - o=N by omega,hT.out] at h
    exact h
  clear hl hB HU
  go_enter Tryz.func89,Tryz.ntmps89
  obtain ⟨c0,c1,c2,c3,f0,f1,f2,f3⟩:=Lxb.cells HB0.out
  go_upto_block 0 with fail
  generalize hW1:World.alloc _ _=w1 at *
  clear hW1 c0 c1 c2 c3 f0 f1 f2 f3
  have HT0:=Lib.hid hT0
  clear hT0
  go_cut [] (fun wx=>Lxb wx b s (o+N) 0 0∧Oth b w1 wx)
  case first =>
   go_wp2_with fail
   go_loopw [] (fun wx=>∃ m:Nat,Lxb wx b s (o+m) 0 0∧m≤N∧Oth b w1 wx) (fun wx=>10000 - atL b wx)
   case atStart=>exact ⟨0,HB0.out,Nat.zero_le _,Oth.refl _ _⟩
   case round =>
     obtain ⟨m,hCm,hmN,hOm⟩:=hrel
     have hsp:=lxspan_at isNmS (l.drop o) m (by rw [hN.out];exact hmN)
     rw [hN.out,List.drop_drop] at hsp
     obtain ⟨K,hK⟩:∃ K,o+m=K:=⟨_,rfl⟩
     rw [hK] at hCm hsp
     have hat:=Lxb.at_ hCm
     have HCm:=Lib.hid hCm
     have HOm:=Lib.hid hOm
     obtain ⟨c0,c1,c2,c3,f0,f1,f2,f3⟩:=Lxb.cells hCm
     clear hCm hOm
     by_cases hlt:m<N
     · obtain ⟨d,t,hd,hdp⟩:=hsp.1 hlt
       obtain ⟨h2l,h2s,h2c⟩:=HL.out.byte K d t hd
       have k1:decide ((K:Int)<(l.length:Int))=true:=decide_eq_true (by omega)
       have k2:(K:Int)<(s.size:Int):=by omega
       have k4:(K:Int)≤8000:=by omega
       rw [isNm_iff] at hdp
       have hdg:=fun w=>refDigit_any d w
       have hlg:=fun w=>refLetter_any d w
       generalize isLtS d=BL at *
       generalize isDig d=BD at *
       have h3:BL=true∨BL=false∧BD=true∨BL=false∧BD=false∧((d.toNat:Int) == 46)=true:=by
         cases BL
         · cases BD
           · right;right
             refine ⟨rfl,rfl,?_⟩
             simp at hdp
             rw [beq_iff_eq];omega
           · exact .inr (.inl ⟨rfl,rfl⟩)
         · exact .inl rfl
       clear hsp hd hdp
       rcases h3 with rfl | ⟨rfl,rfl⟩ | ⟨rfl,rfl,b46⟩
       all_goals
         go_wp2_with fail
         go_quiet (first | exact Calls.quiet_of_same (hlg _) | exact Calls.quiet_of_same (hdg _))
         generalize hW:World.drewN _ _=w3
         have HC3:Hid (Lxb w3 b s K 0 0):=by rw [← hW];exact HCm.out.drew _
         have HO3:Hid (Oth b w1 w3):=by rw [← hW];exact HOm.out.trans (Oth.nx ((Nx.refl _).dr _))
         clear hW c0 c1 c2 c3 f0 f1 f2 f3
         obtain ⟨c0,c1,c2,c3,f0,f1,f2,f3⟩:=Lxb.cells HC3.out
         go_wp2_with fail
         have ek:(K:Int)+1=((K+1:Nat):Int):=by omega
         go_roundw
         case rel =>
           rw [ek]
           refine ⟨m+1,?_,hlt,HO3.out.own⟩
           rw [show o+(m+1)=K+1 by omega]
           exact HC3.out.put1 _
         case measure =>
           rw [ek,(HC3.out.put1 (K+1)).at_,hat]
           omega
     · obtain rfl:m=N:=by omega
       have hend:=hsp.2 rfl
       have hk:decide ((K:Int)<(l.length:Int))=false∧¬ K<l.length∨∃ (hp:K<s.size) (d:UInt8),decide ((K:Int)<(l.length:Int))=true∧K<l.length∧(K:Int)<(s.size:Int)∧s[K]'hp=d∧isLtS d=false∧isDig d=false∧((d.toNat:Int) == 46)=false:=by
         rcases hend with h | ⟨d,t,h,hd⟩
         · rw [List.drop_eq_nil_iff] at h
           exact .inl ⟨decide_eq_false (by omega),by omega⟩
         · obtain ⟨h2l,h2s,h2c⟩:=HL.out.byte K d t h
           rw [isNm_iff] at hd
           simp at hd
           exact .inr ⟨h2s,d,decide_eq_true (by omega),h2l,by omega,h2c,hd.1.1,hd.1.2,by rw [beq_eq_false_iff_ne];omega⟩
       clear hend hsp hlt
       rcases hk with ⟨k1,k2⟩ | ⟨h2s,d,k1,k0,k2,k3,hbl,hbd,b46⟩
       · go_wp2_with fail
         go_quiet (fail)
         go_wp2_with fail
         go_meet
         case rel=>exact ⟨by rw [hK];exact HCm.out.drew _,HOm.out.trans (Oth.nx ((Nx.refl _).dr _))⟩
       · have hdg:=fun w=>refDigit_any d w
         have hlg:=fun w=>refLetter_any d w
         rw [hbd] at hdg
         rw [hbl] at hlg
         go_wp2_with fail
         go_quiet (first | exact Calls.quiet_of_same (hlg _) | exact Calls.quiet_of_same (hdg _))
         go_wp2_with fail
         go_meet
         case rel=>exact ⟨by rw [hK];exact HCm.out.drew _,HOm.out.trans (Oth.nx ((Nx.refl _).dr _))⟩
  case rest =>
    obtain ⟨hCn,hOn⟩:=hcut
    obtain ⟨K,hK⟩:∃ K,o+N=K:=⟨_,rfl⟩
    rw [hK] at hCn hu hNl
    have HCn:=Lib.hid hCn
    have HOn:=Lib.hid hOn
    obtain ⟨c0,c1,c2,c3,f0,f1,f2,f3⟩:=Lxb.cells hCn
    have i1:(o:Int)≤(K:Int):=by omega
    have i2:(K:Int)≤(s.size:Int):=by omega
    have i3:(K:Int)≤8000:=by omega
    have hus:(u.size:Int)=(N:Int):=by rw [HU2.out.size,hTl]
    clear hCn hOn
    go_wp2_with fail
    go_quiet (fail)
    generalize hW:World.drewN _ _=w3
    have HC3:Hid (Lxb w3 b s K 0 0):=by rw [← hW];exact HCn.out.drew _
    have HO3:Hid (Oth b w1 w3):=by rw [← hW];exact HOn.out.trans (Oth.nx ((Nx.refl _).dr _))
    have HT3:Hid (Blk w3 g g #[.int .i64 0,.string ⟨#[]⟩,.int .i64 0,.int .u64 0,.int .i64 0] 68):=HO3.out.blk HT0.out (by omega)
    have HOw:Hid (Oth b w w3):=Oth.mono HO3.out hN0
    clear hW c0 c1 c2 c3 f0 f1 f2 f3
    have hgw:w.heap.size≤g:=by omega
    by_cases h120:120<N
    · have g1:decide ((120:Int)<(N:Int))=true:=decide_eq_true (by omega)
      have HX2:Hid (X=(4,tok0,0)):=by unfold Hid;rw [HX.out,if_pos h120]
      go_wp2_with fail
      refine (lxfail_any b s K 0 0 4 o _ HC3.out).mono ?_;rintro e w4 ⟨rfl,hC4,hO4⟩
      have HT4:=hO4.blk HT3.out (by omega)
      have hOw4:=HOw.out.trans hO4
      have HC4:=Lib.hid hC4
      obtain ⟨c0,c1,c2,c3,c4,f0,f1,f2,f3,f4⟩:=cells5 HT4
      go_wp2_with fail
      refine bodyPost_ret (results_cell_row rfl _ _ g _ _ _ _ rfl HT4.put5.2 Tryz.underlying68 rfl (by kernel_rfl)) rfl ?_
      rw [HX2.out]
      exact ⟨_,_,_,_,_,rfl,K,Blk.oth5 HC4.out (by omega),fun h=>by simp at h,hOw4.put5 hgw⟩
    · have g1:decide ((120:Int)<(N:Int))=false:=decide_eq_false (by omega)
      have g1':¬ 120<N:=h120
      have HX2:Hid (X=if dotBad T then (2,tok0,0) else (0,⟨1,T,0,0,0⟩,N)):=by unfold Hid;rw [HX.out,if_neg h120]
      go_wp2_with fail
      go_loopw [5] (fun iv wx=>∃ (i:Nat) (fd:Bool),iv = .int .i64 i∧i≤N∧Lxb wx b s K (if fd then 2 else 0) (if fd then o else 0)∧Hid (dotBad T=(fd || dotBad (T.drop i)))∧Oth b w3 wx) (fun iv _=>(10000 - intOf iv).toNat)
      case atStart=>exact ⟨0,false,rfl,Nat.zero_le _,HC3.out,by unfold Hid;simp,Oth.refl _ _⟩
      case round =>
        obtain ⟨i,fd,rfl,hi,hCi,HDB,hOi⟩:=hrel
        have hst:Hid (∀ h:i<T.length,dotBad (T.drop i)=(decide (T[i].toNat=46) && ((T.drop (i+1)).isEmpty || decide ((T.drop (i+1)).head? = some 46)) || dotBad (T.drop (i+1)))):=fun h=>dotBad_step T i h
        have HCi:=Lib.hid hCi
        have HOi:=Lib.hid hOi
        have hiI:(i:Int)≤8000:=by omega
        clear hCi hOi
        by_cases hlt:i<N
        · have hiT:i<T.length:=by omega
          obtain ⟨hp,e0⟩:=HU2.out.idx i hiT
          obtain ⟨d,hd⟩:∃ d,T[i]=d:=⟨_,rfl⟩
          have hst2:=hst.out hiT
          rw [hd] at e0 hst2
          have HST:=Lib.hid hst2
          have k1:decide ((i:Int)<(N:Int))=true:=decide_eq_true (by omega)
          have k2:(i:Int)<(u.size:Int):=by omega
          clear hst hst2 hd
          have hB46:(((d.toNat:Int) == 46)=false∧decide (d.toNat=46)=false)∨(((d.toNat:Int) == 46)=true∧decide (d.toNat=46)=true):=by
            by_cases h:d.toNat=46
            · exact .inr ⟨by rw [beq_iff_eq];omega,decide_eq_true h⟩
            · exact .inl ⟨by rw [beq_eq_false_iff_ne];omega,decide_eq_false h⟩
          rcases hB46 with ⟨b46,q46⟩ | ⟨b46,q46⟩
          · have HN2:Hid (dotBad T=(fd || dotBad (T.drop (i+1)))):=by unfold Hid;rw [HDB.out,HST.out,q46];simp
            clear q46
            go_wp2_with fail
            go_roundw
            case rel=>exact ⟨i+1,fd,by go_num,hlt,HCi.out,HN2,HOi.out⟩
            case measure=>simp [intOf];omega
          ·
            have hnx:(((i:Int) == (N:Int) - 1)=true∧((T.drop (i+1)).isEmpty || decide ((T.drop (i+1)).head? = some 46))=true) ∨
                (((i:Int) == (N:Int) - 1)=false∧∃ (hp2:i+1<u.size) (d2:UInt8),(i:Int)+1<(u.size:Int)∧u[i+1]'hp2=d2∧((T.drop (i+1)).isEmpty || decide ((T.drop (i+1)).head? = some 46))=((d2.toNat:Int) == 46)):=by
              by_cases hl:i+1=N
              · left
                refine ⟨by rw [beq_iff_eq];omega,?_⟩
                rw [List.drop_eq_nil_iff.2 (by omega)];rfl
              · right
                have h2:i+1<T.length:=by omega
                obtain ⟨hp2,e2⟩:=HU2.out.idx (i+1) h2
                refine ⟨by rw [beq_eq_false_iff_ne];omega,hp2,T[i+1],by omega,e2,?_⟩
                rw [List.drop_eq_getElem_cons h2]
                simp only [List.isEmpty_cons,Bool.false_or,List.head?_cons,Option.some.injEq]
                rw [Bool.eq_iff_iff,decide_eq_true_iff,beq_iff_eq]
                constructor
                · intro h;rw [h];rfl
                · intro h;apply UInt8.toNat_inj.1;have:T[i+1].toNat=46:=by omega
                  rw [this];rfl
            obtain ⟨B,hB⟩:∃ B,((T.drop (i+1)).isEmpty || decide ((T.drop (i+1)).head? = some 46))=B:=⟨_,rfl⟩
            have HN2:Hid (dotBad T=(fd || (B || dotBad (T.drop (i+1))))):=by unfold Hid;rw [HDB.out,HST.out,q46,hB,Bool.true_and]
            rw [hB] at hnx
            have hnx2:(((i:Int) == (N:Int) - 1)=true∧B=true)∨(((i:Int) == (N:Int) - 1)=false∧∃ (hp2:i+1<u.size) (d2:UInt8),(i:Int)+1<(u.size:Int)∧u[i+1]'hp2=d2∧((d2.toNat:Int) == 46)=B):=by
              rcases hnx with h | ⟨h,hp2,d2,h1,h2,h3⟩
              · exact .inl h
              · exact .inr ⟨h,hp2,d2,h1,h2,h3.symm⟩
            clear hnx q46 hB
            rcases hnx2 with ⟨n1,rfl⟩ | ⟨n1,hp2,d2,n2,n3,n4⟩
            · go_wp2_with fail
              refine (lxfail_any b s K _ _ 2 o _ HCi.out).mono ?_;rintro e w4 ⟨rfl,hC4,hO4⟩
              have HC4:=Lib.hid hC4
              have HO4:=Lib.hid hO4
              clear hC4 hO4
              go_wp2_with fail
              go_roundw
              case rel=>exact ⟨i+1,true,by go_num,hlt,HC4.out,by unfold Hid;rw [HN2.out];simp,HOi.out.trans HO4.out⟩
              case measure=>simp [intOf];omega
            · cases B
              · go_wp2_with fail
                go_roundw
                case rel=>exact ⟨i+1,fd,by go_num,hlt,HCi.out,by unfold Hid;rw [HN2.out,Bool.false_or],HOi.out⟩
                case measure=>simp [intOf];omega
              · go_wp2_with fail
                refine (lxfail_any b s K _ _ 2 o _ HCi.out).mono ?_;rintro e w4 ⟨rfl,hC4,hO4⟩
                have HC4:=Lib.hid hC4
                have HO4:=Lib.hid hO4
                clear hC4 hO4
                go_wp2_with fail
                go_roundw
                case rel=>exact ⟨i+1,true,by go_num,hlt,HC4.out,by unfold Hid;rw [HN2.out];simp,HOi.out.trans HO4.out⟩
                case measure=>simp [intOf];omega
        · have HF:Hid (dotBad T=fd):=by
            unfold Hid;rw [HDB.out,List.drop_eq_nil_iff.2 (by omega)];simp [dotBad]
          have k1:decide ((i:Int)<(N:Int))=false:=decide_eq_false (by omega)
          have k1':¬ i<N:=hlt
          have HT5:Hid (Blk wr g g #[.int .i64 0,.string ⟨#[]⟩,.int .i64 0,.int .u64 0,.int .i64 0] 68):=HOi.out.blk HT3.out (by omega)
          have hOw5:=HOw.out.trans HOi.out
          obtain ⟨c0,c1,c2,c3,c4,f0,f1,f2,f3,f4⟩:=cells5 HT5.out
          clear hst
          go_wp2_with fail
          refine bodyPost_ret (results_cell_row rfl _ _ g _ _ _ _ rfl HT5.out.put5.2 Tryz.underlying68 rfl (by kernel_rfl)) rfl ?_
          have hx:=HX2.out
          rw [HF.out] at hx
          have hC:=HCi.out
          cases fd
          · rw [if_neg (by simp)] at hx
            rw [hx]
            refine ⟨_,_,_,_,_,rfl,K,Blk.oth5 hC (by omega),fun _=>⟨?_,hK.symm⟩,hOw5.put5 hgw⟩
            rw [HU2.out.eq];rfl
          · rw [if_pos rfl] at hx
            rw [hx]
            exact ⟨_,_,_,_,_,rfl,K,Blk.oth5 hC (by omega),fun h=>by simp at h,hOw5.put5 hgw⟩
end Go.Proofs.YtbblfkdmkpkmcaaGreatDoor
namespace Go.Proofs.YtbblfkdmkpkmcaaGreatDoor
open Go.RowKit
def gosR:List UInt8→Bool
 | []=>false
 | c :: _=>isLtS c || decide (c.toNat=46)
set_option maxRecDepth 100000 in
set_option maxHeartbeats 6400000 in
theorem behind_any (b:Nat) (s:ByteArray) (l:List UInt8) (o i:Nat) (k v:Int) (t:ByteArray) (d E:Nat) (w:World) (hB:Lxb w b s i 0 0) (hl:Tx s l) (hi:i≤l.length) (hs:(l.length:Int)≤8000) :
  Calls Tryz.prog 132 #[.pointer (some ⟨b,0,none⟩),.agg #[.int .i64 k,.string t,.int .i64 v,.int .u64 (d:Int),.int .i64 (o:Int)],.int .i64 (E:Int)] w fun e' w' =>
   e' = .returned (.agg #[.int .i64 k,.string t,.int .i64 v,.int .u64 (d:Int),.int .i64 (o:Int)]) ∧
   Lxb w' b s i (if E≠0 then E else if gosR (l.drop i) then 2 else 0) (if E≠0 then o else if gosR (l.drop i) then i else 0)∧Oth b w w':=by
 have hz:(s.size:Int)=(l.length:Int):=by rw [hl.size]
 have HL:=Lib.hid hl
 obtain ⟨g,hg⟩:∃ g,w.heap.size=g:=⟨_,rfl⟩
 have hbg:b<g:=by rw [← hg];exact hB.lt
 obtain ⟨G,hG⟩:∃ G,Hid (gosR (l.drop i)=G):=⟨_,rfl⟩
 rw [hG.out]
 have HB:=Lib.hid hB
 obtain ⟨c0,c1,c2,c3,f0,f1,f2,f3⟩:=Lxb.cells hB
 clear hl hB
 have hcase:(∃ (c:UInt8) (hp:i<s.size),decide ((i:Int)<(l.length:Int))=true∧i<l.length∧(i:Int)<(s.size:Int)∧s[i]'hp=c∧(isLtS c || decide (c.toNat=46))=G)∨(decide ((i:Int)<(l.length:Int))=false∧¬ i<l.length∧G=false):=by
  rcases Nat.lt_or_ge i l.length with h | h
  ·left
   obtain ⟨h1,hp,e⟩:=HL.out.byte i l[i] _ (List.drop_eq_getElem_cons h)
   refine ⟨l[i],hp,decide_eq_true (by omega),h,by omega,e,?_⟩
   rw [← hG.out,List.drop_eq_getElem_cons h];rfl
  ·right
   refine ⟨decide_eq_false (by omega),by omega,?_⟩
   have:=hG.out
   rw [List.drop_eq_nil_iff.2 h] at this
   exact this.symm
 have fin:∀ (w1 w2:World) (i2 e2 a2:Nat),Hid (Blk w1 g (g+1) #[.int .i64 0,.string ⟨#[]⟩,.int .i64 0,.int .u64 0,.int .i64 0] 68)→Hid (Lxb w1 b s i2 e2 a2)→Oth b w w1 →
   w2=(((((w1.setCell ⟨g+1,0,none⟩ (.int .i64 k)).setCell ⟨g+1,1,none⟩ (.string t)).setCell ⟨g+1,2,none⟩ (.int .i64 v)).setCell ⟨g+1,3,none⟩ (.int .u64 (d:Int))).setCell ⟨g+1,4,none⟩ (.int .i64 (o:Int))) →
   Blk w2 g (g+1) #[.int .i64 k,.string t,.int .i64 v,.int .u64 (d:Int),.int .i64 (o:Int)] 68∧Lxb w2 b s i2 e2 a2∧Oth b w w2:=by
  rintro w1 w2 i2 e2 a2 h1 h2 h3 rfl
  exact ⟨h1.out.put5,Blk.oth5 h2.out (by omega),h3.put5 (by omega)⟩
 have FIN:=Lib.hid fin
 clear fin
 by_cases hE:E=0
 ·subst hE
  rw [if_neg (show ¬ ((0:Nat)≠0) from fun h=>h rfl),if_neg (show ¬ ((0:Nat)≠0) from fun h=>h rfl)]
  have hc2:((∃ (c:UInt8) (hp:i<s.size),decide ((i:Int)<(l.length:Int))=true∧i<l.length∧(i:Int)<(s.size:Int)∧s[i]'hp=c∧(isLtS c=true∨isLtS c=false∧((c.toNat:Int) == 46)=true))∧G=true) ∨
    ((∃ (c:UInt8) (hp:i<s.size),decide ((i:Int)<(l.length:Int))=true∧i<l.length∧(i:Int)<(s.size:Int)∧s[i]'hp=c∧isLtS c=false∧((c.toNat:Int) == 46)=false)∧G=false) ∨
    (decide ((i:Int)<(l.length:Int))=false∧¬ i<l.length∧G=false):=by
   rcases hcase with ⟨c,hp,k1,k2,k3,k4,k5⟩ | h
   ·cases hL:isLtS c
    ·rw [hL,Bool.false_or] at k5
     by_cases h46:c.toNat=46
     ·rw [decide_eq_true h46] at k5
      exact .inl ⟨⟨c,hp,k1,k2,k3,k4,.inr ⟨hL,by rw [beq_iff_eq];omega⟩⟩,k5.symm⟩
     ·rw [decide_eq_false h46] at k5
      exact .inr (.inl ⟨⟨c,hp,k1,k2,k3,k4,hL,by rw [beq_eq_false_iff_ne];omega⟩,k5.symm⟩)
    ·rw [hL,Bool.true_or] at k5
     exact .inl ⟨⟨c,hp,k1,k2,k3,k4,.inl hL⟩,k5.symm⟩
   ·exact .inr (.inr h)
  clear hcase
  rcases hc2 with ⟨⟨c,hp,k1,k2,k3,k4,hb⟩,rfl⟩ | ⟨⟨c,hp,k1,k2,k3,k4,hL,b46⟩,rfl⟩ | ⟨k1,k2,rfl⟩
  ·rcases hb with hL | ⟨hL,b46⟩
   all_goals
    have hlg:=fun w=>refLetter_any c w
    rw [hL] at hlg
    go_enter Tryz.func132,Tryz.ntmps132
    go_wp2_with fail
    go_quiet (exact Calls.quiet_of_same (hlg _))
    generalize hW:World.drewN (World.alloc (World.alloc _ _) _) _=w1
    have hA:Hid (Blk w1 g g #[.int .i64 k,.string t,.int .i64 v,.int .u64 (d:Int),.int .i64 (o:Int)] 68):=by rw [← hW,← hg];exact ((Blk.new w _ _).alloc _).drew _
    have hT:Hid (Blk w1 g (g+1) #[.int .i64 0,.string ⟨#[]⟩,.int .i64 0,.int .u64 0,.int .i64 0] 68):=by
     rw [← hW,← hg,show w.heap.size+1=(w.alloc (.cells #[.int .i64 k,.string t,.int .i64 v,.int .u64 (d:Int),.int .i64 (o:Int)] 68)).heap.size from by simp]
     exact ((Blk.new (w.alloc _) _ _).less (by simp)).drew _
    have hBW:Hid (Lxb w1 b s i 0 0):=by rw [← hW];exact ((HB.out.alloc _).alloc _).drew _
    have hOW:Hid (Oth b w w1):=by rw [← hW];exact Oth.nx (Nx.dr (nxa (nx0 w _) _) _)
    clear hW c0 c1 c2 c3 f0 f1 f2 f3
    obtain ⟨c0,c1,c2,c3,f0,f1,f2,f3⟩:=Lxb.cells hBW.out
    go_wp2_with fail
    refine (lxfail_any b s i 0 0 2 i _ hBW.out).mono ?_;rintro e w2 ⟨rfl,hC2,hO2⟩
    clear c0 c1 c2 c3 f0 f1 f2 f3
    have hA2:=hO2.blk hA.out (by omega)
    have hT2:=Lib.hid (hO2.blk hT.out (by omega))
    have HC2:=Lib.hid hC2
    have HO2:=Lib.hid (hOW.out.trans hO2)
    obtain ⟨c0,c1,c2,c3,c4,-⟩:=cells5 hA2
    obtain ⟨e0,e1,e2,e3,e4,f0,f1,f2,f3,f4⟩:=cells5 hT2.out
    clear hC2 hO2 hA2
    go_wp2_with fail
    obtain ⟨r1,r2,r3⟩:=FIN.out w2 _ _ _ _ hT2 HC2 HO2.out rfl
    refine bodyPost_ret (results_cell_row rfl _ _ (g+1) _ _ _ _ rfl r1.2 Tryz.underlying68 rfl (by kernel_rfl)) rfl ?_
    exact ⟨rfl,r2,r3⟩
  ·have hlg:=fun w=>refLetter_any c w
   rw [hL] at hlg
   go_enter Tryz.func132,Tryz.ntmps132
   go_wp2_with fail
   go_quiet (exact Calls.quiet_of_same (hlg _))
   generalize hW:World.drewN (World.alloc (World.alloc _ _) _) _=w1
   have hA:Hid (Blk w1 g g #[.int .i64 k,.string t,.int .i64 v,.int .u64 (d:Int),.int .i64 (o:Int)] 68):=by rw [← hW,← hg];exact ((Blk.new w _ _).alloc _).drew _
   have hT:Hid (Blk w1 g (g+1) #[.int .i64 0,.string ⟨#[]⟩,.int .i64 0,.int .u64 0,.int .i64 0] 68):=by
    rw [← hW,← hg,show w.heap.size+1=(w.alloc (.cells #[.int .i64 k,.string t,.int .i64 v,.int .u64 (d:Int),.int .i64 (o:Int)] 68)).heap.size from by simp]
    exact ((Blk.new (w.alloc _) _ _).less (by simp)).drew _
   have hBW:Hid (Lxb w1 b s i 0 0):=by rw [← hW];exact ((HB.out.alloc _).alloc _).drew _
   have hOW:Hid (Oth b w w1):=by rw [← hW];exact Oth.nx (Nx.dr (nxa (nx0 w _) _) _)
   clear hW c0 c1 c2 c3 f0 f1 f2 f3
   obtain ⟨c0,c1,c2,c3,c4,-⟩:=cells5 hA.out
   obtain ⟨e0,e1,e2,e3,e4,f0,f1,f2,f3,f4⟩:=cells5 hT.out
   go_wp2_with fail
   obtain ⟨r1,r2,r3⟩:=FIN.out w1 _ _ _ _ hT hBW hOW.out rfl
   refine bodyPost_ret (results_cell_row rfl _ _ (g+1) _ _ _ _ rfl r1.2 Tryz.underlying68 rfl (by kernel_rfl)) rfl ?_
   exact ⟨rfl,r2,r3⟩
  ·go_enter Tryz.func132,Tryz.ntmps132
   go_wp2_with fail
   go_quiet (fail)
   generalize hW:World.drewN (World.alloc (World.alloc _ _) _) _=w1
   have hA:Hid (Blk w1 g g #[.int .i64 k,.string t,.int .i64 v,.int .u64 (d:Int),.int .i64 (o:Int)] 68):=by rw [← hW,← hg];exact ((Blk.new w _ _).alloc _).drew _
   have hT:Hid (Blk w1 g (g+1) #[.int .i64 0,.string ⟨#[]⟩,.int .i64 0,.int .u64 0,.int .i64 0] 68):=by
    rw [← hW,← hg,show w.heap.size+1=(w.alloc (.cells #[.int .i64 k,.string t,.int .i64 v,.int .u64 (d:Int),.int .i64 (o:Int)] 68)).heap.size from by simp]
    exact ((Blk.new (w.alloc _) _ _).less (by simp)).drew _
   have hBW:Hid (Lxb w1 b s i 0 0):=by rw [← hW];exact ((HB.out.alloc _).alloc _).drew _
   have hOW:Hid (Oth b w w1):=by rw [← hW];exact Oth.nx (Nx.dr (nxa (nx0 w _) _) _)
   clear hW c0 c1 c2 c3 f0 f1 f2 f3
   obtain ⟨c0,c1,c2,c3,c4,-⟩:=cells5 hA.out
   obtain ⟨e0,e1,e2,e3,e4,f0,f1,f2,f3,f4⟩:=cells5 hT.out
   go_wp2_with fail
   obtain ⟨r1,r2,r3⟩:=FIN.out w1 _ _ _ _ hT hBW hOW.out rfl
   refine bodyPost_ret (results_cell_row rfl _ _ (g+1) _ _ _ _ rfl r1.2 Tryz.underlying68 rfl (by kernel_rfl)) rfl ?_
   exact ⟨rfl,r2,r3⟩
 ·have b1:((E:Int) != 0)=true:=by simp;omega
  rw [if_pos hE,if_pos hE]
  go_enter Tryz.func132,Tryz.ntmps132
  go_wp2_with fail
  generalize hW:World.alloc (World.alloc _ _) _=w1
  have hA:Hid (Blk w1 g g #[.int .i64 k,.string t,.int .i64 v,.int .u64 (d:Int),.int .i64 (o:Int)] 68):=by rw [← hW,← hg];exact (Blk.new w _ _).alloc _
  have hT:Hid (Blk w1 g (g+1) #[.int .i64 0,.string ⟨#[]⟩,.int .i64 0,.int .u64 0,.int .i64 0] 68):=by
   rw [← hW,← hg,show w.heap.size+1=(w.alloc (.cells #[.int .i64 k,.string t,.int .i64 v,.int .u64 (d:Int),.int .i64 (o:Int)] 68)).heap.size from by simp]
   exact (Blk.new (w.alloc _) _ _).less (by simp)
  have hBW:Hid (Lxb w1 b s i 0 0):=by rw [← hW];exact (HB.out.alloc _).alloc _
  have hOW:Hid (Oth b w w1):=by rw [← hW];exact Oth.nx (nxa (nx0 w _) _)
  clear hW c0 c1 c2 c3 f0 f1 f2 f3
  refine (lxfail_any b s i 0 0 E o _ hBW.out).mono ?_;rintro e w2 ⟨rfl,hC2,hO2⟩
  have hA2:=hO2.blk hA.out (by omega)
  have hT2:=Lib.hid (hO2.blk hT.out (by omega))
  have HC2:=Lib.hid hC2
  have HO2:=Lib.hid (hOW.out.trans hO2)
  obtain ⟨c0,c1,c2,c3,c4,-⟩:=cells5 hA2
  obtain ⟨e0,e1,e2,e3,e4,f0,f1,f2,f3,f4⟩:=cells5 hT2.out
  clear hC2 hO2 hA2
  go_wp2_with fail
  obtain ⟨r1,r2,r3⟩:=FIN.out w2 _ _ _ _ hT2 HC2 HO2.out rfl
  refine bodyPost_ret (results_cell_row rfl _ _ (g+1) _ _ _ _ rfl r1.2 Tryz.underlying68 rfl (by kernel_rfl)) rfl ?_
  exact ⟨rfl,r2,r3⟩
end Go.Proofs.YtbblfkdmkpkmcaaGreatDoor
