/- The contract of the document's lexer: a number in sixteens. The longest number ahead, in the document's steps. Plain lemmas. What the document's lexer sees in a number. Plain lemmas. -/
import Derived.Test.YtbblfkdmkpkmcaaGreatDoorR01
import Derived.Test.YtbblfkdmkpkmcaaGreatDoorG27
set_option linter.unusedVariables false
set_option linter.unusedSimpArgs false
set_option linter.unnecessarySimpa false
namespace Go.Proofs.YtbblfkdmkpkmcaaGreatDoor
open Go.RowKit
theorem natB16_lt (l:List UInt8) (h:∀ c ∈ l,isHexS c=true):natB 16 l<16 ^ l.length:=by
 suffices hh:∀ n,n≤l.length→natB 16 (l.take n)<16 ^ n by
  have:=hh l.length (Nat.le_refl _);rwa [List.take_length] at this
 intro n
 induction n with
 | zero=>intro _;simp [natB]
 | succ n ih =>
  intro hn
  rw [natB_take 16 l n hn,Nat.pow_succ]
  have h1:=ih (by omega)
  have h2:=hexV_lt l[n] (h _ (List.getElem_mem hn))
  omega
theorem shl_or (V H:Nat) (hV:V<18446744073709551616) (hH:H<16):bits .or .u64 (IntKind.u64.wrap ((V:Int) * 16)) (H:Int)=(((V * 16+H) % 18446744073709551616:Nat):Int):=by
 have h1:IntKind.u64.wrap ((V:Int) * 16)=(((V * 16) % 18446744073709551616:Nat):Int):=by rw [IntKind.wrap_u64];omega
 rw [h1,bits_or_u64_nat _ _ (by omega) (by omega)]
 congr 1
 have h2:(V * 16) % 18446744073709551616=((V * 16) % 18446744073709551616 / 16) * 2 ^ 4:=by omega
 have h3:(V * 16+H) % 18446744073709551616=((V * 16) % 18446744073709551616 / 16) * 2 ^ 4+H:=by omega
 rw [h3,h2]
 have h4:=Nat.two_pow_add_eq_or_of_lt (i:=4) (b:=H) (by omega) ((V * 16) % 18446744073709551616 / 16)
 rw [Nat.mul_comm] at h4
 rw [Nat.mul_comm ((V * 16) % 18446744073709551616 / 16)] at *
 omega
theorem hexI_of (c:UInt8):(isHexS c=true→hexI c=(hexV c:Nat)∧hexV c≤15)∧(isHexS c=false→hexI c = -1):=by
 unfold hexI
 exact ⟨fun h=>by rw [if_pos h];exact ⟨rfl,hexV_lt c h⟩,fun h=>by rw [if_neg (by rw [h];decide)]⟩
def sixW (ds:List UInt8) (go:Bool):Nat×Nat×TokV×Nat :=
 if (hexS ds).2≠0 then ((hexS ds).2,0,tok0,0) else if go then (2,2+ds.length,tok0,0) else (0,0,⟨2,[],(hexS ds).1,0,0⟩,2+ds.length)
set_option maxRecDepth 100000 in
set_option maxHeartbeats 12800000 in
theorem sixteen_any (b:Nat) (s:ByteArray) (l:List UInt8) (o:Nat) (w:World) (hB:Lxb w b s o 0 0) (hl:Tx s l) (ho:o+2≤l.length) (hs:(l.length:Int)≤8000) :
    Calls Tryz.prog 127 #[.pointer (some ⟨b,0,none⟩)] w fun e' w' =>
      WordR e' b s o (sixW ((l.drop (o+2)).take (spanN isHexS (l.drop (o+2)))) (gosR (l.drop (o+2+spanN isHexS (l.drop (o+2)))))) w w':=by
  have hz:(s.size:Int)=(l.length:Int):=by rw [hl.size]
  have HL:=Lib.hid hl
  obtain ⟨g,hg⟩:∃ g,w.heap.size=g:=⟨_,rfl⟩
  have hbg:b<g:=by rw [← hg];exact hB.lt
  obtain ⟨M,hM⟩:∃ M,Hid (spanN isHexS (l.drop (o+2))=M):=⟨_,rfl⟩
  have hMl:o+2+M≤l.length:=by
    have:=spanN_le isHexS (l.drop (o+2))
    rw [hM.out,List.length_drop] at this;omega
  rw [hM.out]
  obtain ⟨ds,hds⟩:∃ ds,Hid ((l.drop (o+2)).take M=ds):=⟨_,rfl⟩
  have hdl:ds.length=M:=by rw [← hds.out];simp;omega
  have hdx:Hid (∀ c ∈ ds,isHexS c=true):=by
    intro c hc
    rw [← hds.out,← hM.out] at hc
    exact spanN_take isHexS _ c hc
  rw [hds.out]
  obtain ⟨go,hgo⟩:∃ go,Hid (gosR (l.drop (o+2+M))=go):=⟨_,rfl⟩
  rw [hgo.out]
  obtain ⟨X,hX⟩:∃ X,Hid (sixW ds go=X):=⟨_,rfl⟩
  rw [hX.out]
  have HB:=Lib.hid hB
  obtain ⟨c0,c1,c2,c3,f0,f1,f2,f3⟩:=Lxb.cells hB
  have ho8:(o:Int)+2≤8000:=by omega
  clear hl hB
  go_enter Tryz.func127,Tryz.ntmps127
  go_upto_block 0 with fail
  generalize hW:World.alloc (World.alloc _ _) _=w1
  have hsz:(w.setCell ⟨b,1,none⟩ (.int .i64 ((o:Int)+2))).heap.size=g:=by simp [World.setCell,hg]
  have hR1:Hid (Blk w1 g g #[.int .i64 0,.string ⟨#[]⟩,.int .i64 0,.int .u64 0,.int .i64 0] 68):=by
    have h:=Blk.new (w.setCell ⟨b,1,none⟩ (.int .i64 ((o:Int)+2))) #[.int .i64 0,.string ⟨#[]⟩,.int .i64 0,.int .u64 0,.int .i64 0] 68
    rw [hsz] at h
    rw [← hW]
    exact h.alloc _
  have hT1:Hid (Blk w1 g (g+1) #[.int .i64 2,.string ⟨#[]⟩,.int .i64 0,.int .u64 0,.int .i64 (o:Int)] 68):=by
    have h:=Blk.new ((w.setCell ⟨b,1,none⟩ (.int .i64 ((o:Int)+2))).alloc (.cells #[.int .i64 0,.string ⟨#[]⟩,.int .i64 0,.int .u64 0,.int .i64 0] 68)) #[.int .i64 2,.string ⟨#[]⟩,.int .i64 0,.int .u64 0,.int .i64 (o:Int)] 68
    rw [show ((w.setCell ⟨b,1,none⟩ (.int .i64 ((o:Int)+2))).alloc (.cells #[.int .i64 0,.string ⟨#[]⟩,.int .i64 0,.int .u64 0,.int .i64 0] 68)).heap.size=g+1 from by rw [← hsz];simp] at h
    rw [← hW]
    exact h.less (by omega)
  clear hsz
  have hB1:Hid (Lxb w1 b s (o+2) 0 0):=by
    rw [← hW]
    have e:(o:Int)+2=((o+2:Nat):Int):=by omega
    rw [e]
    exact ((HB.out.put1 (o+2)).alloc _).alloc _
  have hO1:Hid (Oth b w w1):=by rw [← hW];exact (Oth.set _ _ _ _).trans (Oth.nx (nxa (nx0 _ _) _))
  clear hW c0 c1 c2 c3 f0 f1 f2 f3
  go_cut [5] (fun vv wx=>∃ V:Nat,vv = .int .u64 (V:Int)∧Lxb wx b s (o+2+M) 0 0∧Hid (V=natB 16 ds % 18446744073709551616)∧Oth b w1 wx)
  case first =>
    go_wp2_with fail
    go_loopw [5] (fun vv wx=>∃ m V:Nat,vv = .int .u64 (V:Int)∧Lxb wx b s (o+2+m) 0 0∧m≤M∧Hid (V=natB 16 (ds.take m) % 18446744073709551616)∧Oth b w1 wx) (fun _ wx=>10000 - atL b wx)
    case atStart=>exact ⟨0,0,rfl,hB1.out,Nat.zero_le _,by unfold Hid;simp [natB],Oth.refl _ _⟩
    case round =>
      obtain ⟨m,V,rfl,hCm,hmM,HV,hOm⟩:=hrel
      have hVb:V<18446744073709551616:=by rw [HV.out];exact Nat.mod_lt _ (by decide)
      have hVI:(V:Int)≤18446744073709551615:=by omega
      have hsp:=lxspan_at isHexS (l.drop (o+2)) m (by rw [hM.out];exact hmM)
      rw [hM.out,List.drop_drop] at hsp
      obtain ⟨K,hK⟩:∃ K,o+2+m=K:=⟨_,rfl⟩
      rw [hK] at hCm hsp
      have hat:=Lxb.at_ hCm
      have HCm:=Lib.hid hCm
      have HOm:=Lib.hid hOm
      obtain ⟨c0,c1,c2,c3,f0,f1,f2,f3⟩:=Lxb.cells hCm
      clear hCm hOm
      by_cases hlt:m<M
      · obtain ⟨d,t,hd,hdp⟩:=hsp.1 hlt
        obtain ⟨h2l,h2s,h2c⟩:=HL.out.byte K d t hd
        have k1:decide ((K:Int)<(l.length:Int))=true:=decide_eq_true (by omega)
        have k2:(K:Int)<(s.size:Int):=by omega
        have k4:(K:Int)≤8000:=by omega
        obtain ⟨hx1,hx2⟩:=(hexI_of d).1 hdp
        obtain ⟨H,hH⟩:∃ H,hexV d=H:=⟨_,rfl⟩
        rw [hH] at hx1 hx2
        have hxg:=fun w=>refHex_any d w
        rw [hx1] at hxg
        have hHI:(H:Int)≤15:=by omega
        have k5:decide ((0:Int)≤(H:Int))=true:=decide_eq_true (by omega)
        have hso:=shl_or V H hVb (by omega)
        have HSO:=Lib.hid hso
        have HV2:Hid ((V * 16+H) % 18446744073709551616=natB 16 (ds.take (m+1)) % 18446744073709551616):=by
          have hmd:m<ds.length:=by omega
          have hdm:ds[m]=d:=by
            have e1:(l.drop (o+2)).drop m=d :: t:=by rw [List.drop_drop,hK];exact hd
            have e2:ds[m]? = some d:=by
              rw [← hds.out,List.getElem?_take,if_pos hlt]
              have:=congrArg List.head? e1
              rw [List.head?_drop] at this
              simpa using this
            rw [List.getElem?_eq_getElem hmd] at e2
            exact Option.some.inj e2
          unfold Hid
          rw [natB_take 16 ds m hmd,hdm,hH,HV.out]
          omega
        clear hsp hd hdp hx1 hx2 hH hso hVb
        go_wp2_with fail
        go_quiet (exact Calls.quiet_of_same (hxg _))
        generalize hW:World.drewN _ _=w3
        have HC3:Hid (Lxb w3 b s K 0 0):=by rw [← hW];exact HCm.out.drew _
        have HO3:Hid (Oth b w1 w3):=by rw [← hW];exact HOm.out.trans (Oth.nx ((Nx.refl _).dr _))
        clear hW c0 c1 c2 c3 f0 f1 f2 f3
        obtain ⟨c0,c1,c2,c3,f0,f1,f2,f3⟩:=Lxb.cells HC3.out
        go_wp2_with fail
        go_quiet (exact Calls.quiet_of_same (hxg _))
        generalize hW:World.drewN _ _=w4
        have HC4:Hid (Lxb w4 b s K 0 0):=by rw [← hW];exact HC3.out.drew _
        have HO4:Hid (Oth b w1 w4):=by rw [← hW];exact HO3.out.trans (Oth.nx ((Nx.refl _).dr _))
        clear hW c0 c1 c2 c3 f0 f1 f2 f3
        obtain ⟨c0,c1,c2,c3,f0,f1,f2,f3⟩:=Lxb.cells HC4.out
        go_wp2_with fail
        have ek:(K:Int)+1=((K+1:Nat):Int):=by omega
        go_roundw
        case rel =>
          rw [ek]
          refine ⟨m+1,(V * 16+H) % 18446744073709551616,?_,?_,hlt,HV2,HO4.out.own⟩
          · exact congrArg (Value.int .u64) HSO.out
          · rw [show o+2+(m+1)=K+1 by omega]
            exact HC4.out.put1 _
        case measure =>
          rw [ek,(HC4.out.put1 (K+1)).at_,hat]
          omega
      · obtain rfl:m=M:=by omega
        have HVE:Hid (V=natB 16 ds % 18446744073709551616):=by
          unfold Hid;rw [HV.out,List.take_of_length_le (by omega)]
        have hend:=hsp.2 rfl
        have hk:decide ((K:Int)<(l.length:Int))=false∧¬ K<l.length∨∃ (hp:K<s.size) (d:UInt8),decide ((K:Int)<(l.length:Int))=true∧K<l.length∧(K:Int)<(s.size:Int)∧s[K]'hp=d∧isHexS d=false:=by
          rcases hend with h | ⟨d,t,h,hd⟩
          · rw [List.drop_eq_nil_iff] at h
            exact .inl ⟨decide_eq_false (by omega),by omega⟩
          · obtain ⟨h2l,h2s,h2c⟩:=HL.out.byte K d t h
            exact .inr ⟨h2s,d,decide_eq_true (by omega),h2l,by omega,h2c,hd⟩
        clear hend hsp hlt hVb
        rcases hk with ⟨k1,k2⟩ | ⟨h2s,d,k1,k0,k2,k3,hdp⟩
        · go_wp2_with fail
          go_quiet (fail)
          go_wp2_with fail
          go_meet
          case rel=>exact ⟨V,rfl,by rw [hK];exact HCm.out.drew _,HVE,HOm.out.trans (Oth.nx ((Nx.refl _).dr _))⟩
        · have hxg:=fun w=>refHex_any d w
          rw [(hexI_of d).2 hdp] at hxg
          go_wp2_with fail
          go_quiet (exact Calls.quiet_of_same (hxg _))
          go_wp2_with fail
          go_meet
          case rel=>exact ⟨V,rfl,by rw [hK];exact HCm.out.drew _,HVE,HOm.out.trans (Oth.nx ((Nx.refl _).dr _))⟩
  case rest =>
    obtain ⟨V,rfl,hCm,HV,hOm⟩:=hcut
    have HCm:=Lib.hid hCm
    have HOm:=Lib.hid hOm
    obtain ⟨c0,c1,c2,c3,f0,f1,f2,f3⟩:=Lxb.cells hCm
    clear hCm hOm
    obtain ⟨K,hK⟩:∃ K,o+2+M=K:=⟨_,rfl⟩
    rw [hK] at HCm hMl hgo
    have hgo2:=hgo
    obtain ⟨c0,c1,c2,c3,f0,f1,f2,f3⟩:=Lxb.cells HCm.out
    have hT2:Hid (Blk wc g (g+1) #[.int .i64 2,.string ⟨#[]⟩,.int .i64 0,.int .u64 0,.int .i64 (o:Int)] 68):=HOm.out.blk hT1.out (by omega)
    have hR2:Hid (Blk wc g g #[.int .i64 0,.string ⟨#[]⟩,.int .i64 0,.int .u64 0,.int .i64 0] 68):=HOm.out.blk hR1.out (by omega)
    have hO2:Hid (Oth b w wc):=hO1.out.trans HOm.out
    obtain ⟨t0,t1,t2,t3,t4,z0,z1,z2,z3,z4⟩:=cells5 hT2.out
    have hKM:(K:Int) - ((o:Int)+2)=(M:Int):=by omega
    have hK8:(K:Int)≤8000:=by omega
    have hgw:w.heap.size≤g:=by omega
    obtain ⟨VI,hVI⟩:∃ VI:Int,(V:Int)=VI:=⟨_,rfl⟩
    have hVb:V<18446744073709551616:=by rw [HV.out];exact Nat.mod_lt _ (by decide)
    have hV0:0≤VI:=by omega
    have hV1:VI≤18446744073709551615:=by omega
    obtain ⟨N,hN⟩:∃ N,IntKind.i64.wrap VI=N:=⟨_,rfl⟩
    have HVI:=Lib.hid hVI
    rw [hVI]
    clear hVb hVI
    have hE:∃ E:Nat,(16<M∧E=4∨¬ 16<M∧(9223372036854775807:Int)<VI∧E=5∨¬ 16<M∧¬ (9223372036854775807:Int)<VI∧E=0)∧(hexS ds).2=E∧(E=0→(hexS ds).1=N):=by
      have hx:hexS ds=if 16<ds.length then (0,4) else if 9223372036854775807<natB 16 ds then (0,5) else ((natB 16 ds:Int),0):=rfl
      rw [hdl] at hx
      by_cases h1:16<M
      · rw [if_pos h1] at hx
        exact ⟨4,.inl ⟨h1,rfl⟩,by rw [hx],fun h=>by cases h⟩
      · rw [if_neg h1] at hx
        have hlt:=natB16_lt ds hdx.out
        have hle:(16:Nat) ^ ds.length≤16 ^ 16:=Nat.pow_le_pow_right (by decide) (by omega)
        have hVe:V=natB 16 ds:=by
          rw [HV.out]
          have e:(16:Nat) ^ 16=18446744073709551616:=by decide
          exact Nat.mod_eq_of_lt (by omega)
        have hVI:=HVI.out
        by_cases h2:(9223372036854775807:Int)<VI
        · rw [if_pos (by omega)] at hx
          exact ⟨5,.inr (.inl ⟨h1,h2,rfl⟩),by rw [hx],fun h=>by cases h⟩
        · rw [if_neg (by omega)] at hx
          refine ⟨0,.inr (.inr ⟨h1,h2,rfl⟩),by rw [hx],fun _=>?_⟩
          rw [hx,← hN,IntKind.wrap_i64]
          dsimp only
          omega
    obtain ⟨E,hcase,hE1,hE2⟩:=hE
    have HE1:=Lib.hid hE1
    have HE2:=Lib.hid hE2
    clear hE1 hE2
    have hcase2:(decide ((16:Int)<(M:Int))=true∧16<M∧E=4)∨(decide ((16:Int)<(M:Int))=false∧¬ 16<M∧decide ((9223372036854775807:Int)<VI)=true∧E=5)∨(decide ((16:Int)<(M:Int))=false∧¬ 16<M∧decide ((9223372036854775807:Int)<VI)=false∧E=0):=by
      rcases hcase with ⟨h1,h2⟩ | ⟨h1,h2,h3⟩ | ⟨h1,h2,h3⟩
      · exact .inl ⟨decide_eq_true (by omega),h1,h2⟩
      · exact .inr (.inl ⟨decide_eq_false (by omega),h1,decide_eq_true h2,h3⟩)
      · exact .inr (.inr ⟨decide_eq_false (by omega),h1,decide_eq_false h2,h3⟩)
    clear hcase
    rcases hcase2 with ⟨q1,q1',rfl⟩ | ⟨q1,q1',q2,rfl⟩ | ⟨q1,q1',q2,rfl⟩
    all_goals
      go_wp2_with fail
      generalize hW:World.setCell _ _ _=w5
      have hT5:Hid (Blk w5 g (g+1) #[.int .i64 2,.string ⟨#[]⟩,.int .i64 N,.int .u64 0,.int .i64 (o:Int)] 68):=by rw [← hW];exact hT2.out.put 2 (.int .i64 N)
      have hR5:Hid (Blk w5 g g #[.int .i64 0,.string ⟨#[]⟩,.int .i64 0,.int .u64 0,.int .i64 0] 68):=by rw [← hW];exact hR2.out.other (by omega) _ _
      have hB5:Hid (Lxb w5 b s K 0 0):=by rw [← hW];exact HCm.out.other (by omega) _ _
      have hO5:Hid (Oth b w w5):=by rw [← hW];exact hO2.out.put (by omega) _ _
      clear hW c0 c1 c2 c3 f0 f1 f2 f3 t0 t1 t2 t3 t4 z0 z1 z2 z3 z4
      refine (behind_any b s l o K 2 N ⟨#[]⟩ 0 _ w5 hB5.out HL.out hMl hs).mono ?_;rintro e w6 ⟨rfl,hC6,hO6⟩
      have HC6:=Lib.hid hC6
      have HO6:=Lib.hid (hO5.out.trans hO6)
      have hR6:=hO6.blk hR5.out (by omega)
      obtain ⟨t0,t1,t2,t3,t4,z0,z1,z2,z3,z4⟩:=cells5 hR6
      clear hC6 hO6
      go_wp2_with fail
      refine bodyPost_ret (results_cell_row rfl _ _ g _ _ _ _ rfl hR6.put5.2 Tryz.underlying68 rfl (by kernel_rfl)) rfl ?_
      have hx:=hX.out
      unfold sixW at hx
      rw [HE1.out] at hx
      have h6:=HC6.out
      rw [hgo2.out] at h6
      first
        | (rw [if_pos (by decide)] at hx
           rw [if_pos (by decide),if_pos (by decide)] at h6
           rw [← hx]
           exact ⟨_,_,_,_,_,rfl,K,Blk.oth5 h6 (by omega),fun h=>by simp at h,HO6.out.put5 hgw⟩)
        | (have hn:=HE2.out (by first | rfl | trivial)
           rw [if_neg (show ¬ ((0:Nat)≠0) from fun h=>h rfl)] at hx
           rw [if_neg (show ¬ ((0:Nat)≠0) from fun h=>h rfl),if_neg (show ¬ ((0:Nat)≠0) from fun h=>h rfl)] at h6
           cases go
           · rw [if_neg (show ¬ (false=true) by decide)] at hx
             rw [if_neg (show ¬ (false=true) by decide),if_neg (show ¬ (false=true) by decide)] at h6
             rw [← hx]
             refine ⟨_,_,_,_,_,rfl,K,Blk.oth5 h6 (by omega),fun _=>⟨?_,by dsimp only;omega⟩,HO6.out.put5 hgw⟩
             rw [hn];rfl
           · rw [if_pos (show true=true from rfl)] at hx
             rw [if_pos (show true=true from rfl),if_pos (show true=true from rfl)] at h6
             rw [← hx]
             refine ⟨_,_,_,_,_,rfl,K,?_,fun h=>by simp at h,HO6.out.put5 hgw⟩
             have e:(if ((2:Nat),2+ds.length,tok0,0).1=0 then 0 else o+((2:Nat),2+ds.length,tok0,0).2.1)=K:=by simp;omega
             rw [e]
             exact Blk.oth5 h6 (by omega))
end Go.Proofs.YtbblfkdmkpkmcaaGreatDoor
namespace Go.Proofs.YtbblfkdmkpkmcaaGreatDoor
open Go.RowKit
theorem sgnN_take (l:List UInt8) (n:Nat) (h:1≤n):sgnN (l.take n)=sgnN l:=by
 cases l with
 | nil=>simp
 | cons c r=>cases n with
  | zero=>omega
  | succ n=>rfl
theorem digN_cut (l:List UInt8) (n:Nat):digN (l.take n)=min (digN l) n:=spanN_cut isDig l n
structure Parts (l:List UInt8) (S D F X:Nat):Prop where
 s:sgnN l=S
 d:digN (l.drop S)=D
 f:fracN (l.drop (S+D))=F
 x:expN (l.drop (S+(D+F)))=X
 pos:D+F≠0
theorem Parts.len {l:List UInt8} {S D F X:Nat} (h:Parts l S D F X):decN l=S+(D+F)+X∧S+(D+F)+X≤l.length:=by
 have e:decN l=S+(D+F)+X:=by
  unfold decN
  dsimp only
  rw [h.s,h.d,h.f,if_neg h.pos,h.x]
 refine ⟨e,?_⟩
 rw [← e];exact decN_le l
theorem parts_of (l:List UInt8) (h:decN l≠0):∃ S D F X,Parts l S D F X:=by
 refine ⟨_,_,_,_,rfl,rfl,rfl,rfl,fun h0=>h ?_⟩
 unfold decN
 dsimp only
 rw [if_pos h0]
theorem Parts.whole {l:List UInt8} {S D F X:Nat} (h:Parts l S D F X):wholeB (l.take (decN l))=(decide (F=0) && decide (X=0)):=by
 obtain ⟨e,hl⟩:=h.len
 have hp:=h.pos
 have hD:=h.d
 unfold wholeB
 rw [e,sgnN_take l _ (by omega),h.s,List.drop_take,digN_cut,hD,List.length_take,Bool.eq_iff_iff]
 simp
 omega
def numW (l:List UInt8):Nat×Nat×TokV×Nat :=
 if (numberS l).1≠0 then ((numberS l).1,0,tok0,0) else if gosR (l.drop (numberS l).2.2) then (2,(numberS l).2.2,tok0,0) else (0,0,(numberS l).2.1,(numberS l).2.2)
theorem numW_hex (l:List UInt8) (h:hexN l≠0):numW l=sixW ((l.drop 2).take (spanN isHexS (l.drop 2))) (gosR (l.drop (2+spanN isHexS (l.drop 2)))):=by
 have hx:hexN l=2+spanN isHexS (l.drop 2):=by
  cases l with
  | nil=>exact absurd rfl h
  | cons c r=>cases r with
   | nil=>exact absurd rfl h
   | cons d r =>
    unfold hexN at h ⊢
    dsimp only at h ⊢
    split at h
    ·rename_i h1;rw [if_pos h1];rfl
    ·exact absurd rfl h
 have hl:=(hexN_le l).1
 have e1:(l.take (hexN l)).drop 2=(l.drop 2).take (spanN isHexS (l.drop 2)):=by
  rw [List.drop_take,hx];congr 1;omega
 have hlen:((l.drop 2).take (spanN isHexS (l.drop 2))).length=spanN isHexS (l.drop 2):=by
  simp;omega
 unfold numW sixW numberS
 rw [if_pos h]
 dsimp only
 rw [e1,hlen,hx]
theorem numW_dec (l:List UInt8) (h:hexN l=0) (hd:decN l≠0):numW l =
    (if (if wholeB (l.take (decN l)) then (wholeS (l.take (decN l))).2 else (parseS (l.take (decN l))).2)≠0 then ((if wholeB (l.take (decN l)) then (wholeS (l.take (decN l))).2 else (parseS (l.take (decN l))).2),0,tok0,0)
     else if gosR (l.drop (decN l)) then (2,decN l,tok0,0) else (0,0,(if wholeB (l.take (decN l)) then ⟨2,[],(wholeS (l.take (decN l))).1,0,0⟩ else ⟨3,[],0,(parseS (l.take (decN l))).1,0⟩),decN l)):=by
  have e:numberS l=if wholeB (l.take (decN l)) then ((wholeS (l.take (decN l))).2,⟨2,[],(wholeS (l.take (decN l))).1,0,0⟩,decN l)
      else ((parseS (l.take (decN l))).2,⟨3,[],0,(parseS (l.take (decN l))).1,0⟩,decN l):=by
    unfold numberS
    rw [if_neg (show ¬ hexN l≠0 by simpa using h),if_neg hd]
  unfold numW
  rw [e]
  cases wholeB (l.take (decN l)) <;> rfl
theorem expN_parts (c:UInt8) (r:List UInt8):expN (c :: r)=if (c.toNat=101∨c.toNat=69)∧hasD (r.drop (sgnN r))=true then 1+sgnN r+digN (r.drop (sgnN r)) else 0:=by
 unfold expN
 dsimp only
 rw [hasD_iff]
 simp
theorem fracN_parts (c:UInt8) (r:List UInt8):fracN (c :: r)=if c.toNat=46∧hasD r=true then 1+digN r else 0:=by
 unfold fracN
 dsimp only
 rw [hasD_iff]
 simp [Nat.add_comm]
theorem has_sign (r:List UInt8):(hasD r=true→sgnN r=0):=by
 cases r with
 | nil=>intro _;rfl
 | cons c t =>
  intro h
  have:=(isDig_iff c).1 h
  unfold sgnN;dsimp only
  rw [if_neg (by omega)]
end Go.Proofs.YtbblfkdmkpkmcaaGreatDoor
namespace Go.Proofs.YtbblfkdmkpkmcaaGreatDoor
open Go.RowKit
theorem hex_starts (l:List UInt8):(hexN l≠0)↔((l.head? = some 48∧(l.drop 1).head? = some 120)∧∃ c t,l.drop 2=c :: t∧isHexS c=true):=by
 match l with
 | []=>simp [hexN]
 | [x]=>simp [hexN]
 | [x,y]=>simp [hexN,spanN]
 | x :: y :: c :: t =>
  unfold hexN
  dsimp only
  have hs:spanN isHexS (c :: t)≠0↔isHexS c=true:=by
   unfold spanN
   cases isHexS c <;> simp
  by_cases h:x=48∧y=120∧spanN isHexS (c :: t)≠0
  ·rw [if_pos h]
   obtain ⟨rfl,rfl,h3⟩:=h
   simp [hs.1 h3]
  ·rw [if_neg h]
   simp only [ne_eq,not_true_eq_false,false_iff]
   rintro ⟨⟨h1,h2⟩,c',t',h3,h4⟩
   simp at h1 h2 h3
   obtain ⟨rfl,rfl⟩:=h3
   exact h ⟨h1,h2,hs.2 h4⟩
theorem hexN_two (l:List UInt8) (h:hexN l≠0):2≤hexN l:=by
 unfold hexN at h ⊢
 split at h
 ·split at h
  ·rename_i h1;rw [if_pos h1];omega
  ·exact absurd rfl h
 ·exact absurd rfl h
theorem sign_case (c:UInt8) (r:List UInt8):(c.toNat=43∧sgnN (c :: r)=1)∨(c.toNat≠43∧c.toNat=45∧sgnN (c :: r)=1)∨(c.toNat≠43∧c.toNat≠45∧sgnN (c :: r)=0):=by
 unfold sgnN
 by_cases h1:c.toNat=43
 ·exact .inl ⟨h1,by simp [h1]⟩
 ·by_cases h2:c.toNat=45
  ·exact .inr (.inl ⟨h1,h2,by simp [h2]⟩)
  ·exact .inr (.inr ⟨h1,h2,by simp [h1,h2]⟩)
theorem hex_case (s:ByteArray) (l:List UInt8) (o:Nat) (hl:Tx s l) (ho:(o:Int)≤7000) :
    (decide ((l.drop o).head? = some 48∧((l.drop o).drop 1).head? = some 120)=false∧decide (hexN (l.drop o)≠0)=false) ∨
    (decide ((l.drop o).head? = some 48∧((l.drop o).drop 1).head? = some 120)=true ∧
      ((decide ((o:Int)+2<(l.length:Int))=false∧¬ o+2<l.length∧decide (hexN (l.drop o)≠0)=false) ∨
       (∃ (c:UInt8) (K:Nat) (hp:K<s.size),o+2=K∧decide ((o:Int)+2<(l.length:Int))=true∧o+2<l.length∧(o:Int)+2=(K:Int)∧(K:Int)<(s.size:Int)∧IntKind.i64.wrap (K:Int)=(K:Int)∧K<l.length∧s[K]'hp=c∧decide (hexN (l.drop o)≠0)=isHexS c))):=by
  have hx:=hex_starts (l.drop o)
  by_cases h:(l.drop o).head? = some 48∧((l.drop o).drop 1).head? = some 120
  · right
    refine ⟨decide_eq_true h,?_⟩
    by_cases h2:o+2<l.length
    · right
      have hd:=List.drop_eq_getElem_cons h2
      have hdd:(l.drop o).drop 2=l[o+2] :: l.drop (o+2+1):=by rw [List.drop_drop];exact hd
      obtain ⟨h1,hp,e⟩:=hl.byte (o+2) l[o+2] _ hd
      have hz:s.size=l.length:=hl.size
      refine ⟨l[o+2],o+2,hp,rfl,decide_eq_true (by omega),h2,by omega,by omega,?_,h2,e,?_⟩
      · rw [IntKind.wrap_i64];omega
      · rw [Bool.eq_iff_iff,decide_eq_true_iff,hx]
        constructor
        · rintro ⟨-,c,t,h3,h4⟩
          rw [hdd] at h3
          injection h3 with h3 _
          rw [h3];exact h4
        · intro h4
          exact ⟨h,_,_,hdd,h4⟩
    · left
      refine ⟨decide_eq_false (by omega),h2,?_⟩
      rw [decide_eq_false_iff_not,hx]
      rintro ⟨-,c,t,h3,-⟩
      rw [List.drop_drop,List.drop_eq_nil_iff.2 (by omega)] at h3
      cases h3
  · left
    refine ⟨decide_eq_false h,?_⟩
    rw [decide_eq_false_iff_not,hx]
    exact fun h'=>h h'.1
theorem frac_case (s:ByteArray) (l:List UInt8) (A:Nat) (hl:Tx s l) (hA:A≤l.length) :
  (decide ((A:Int)<(l.length:Int))=false∧¬ A<l.length∧fracN (l.drop A)=0) ∨
  (∃ (c:UInt8) (hp:A<s.size),decide ((A:Int)<(l.length:Int))=true∧A<l.length∧(A:Int)<(s.size:Int)∧s[A]'hp=c ∧
   ((((c.toNat:Int) == 46)=false∧fracN (l.drop A)=0)∨(((c.toNat:Int) == 46)=true∧((hasD (l.drop (A+1))=false∧fracN (l.drop A)=0)∨(hasD (l.drop (A+1))=true∧fracN (l.drop A)=1+digN (l.drop (A+1))))))):=by
 have hz:s.size=l.length:=hl.size
 by_cases h:A<l.length
 ·right
  have hd:=List.drop_eq_getElem_cons h
  obtain ⟨h1,hp,e⟩:=hl.byte A l[A] _ hd
  refine ⟨l[A],hp,decide_eq_true (by omega),h,by omega,e,?_⟩
  rw [hd,fracN_parts]
  by_cases h46:l[A].toNat=46
  ·right
   refine ⟨by rw [beq_iff_eq];omega,?_⟩
   cases hh:hasD (l.drop (A+1))
   ·exact .inl ⟨rfl,by rw [if_neg (by simp)]⟩
   ·exact .inr ⟨rfl,by rw [if_pos ⟨h46,rfl⟩]⟩
  ·left
   exact ⟨by rw [beq_eq_false_iff_ne];omega,by rw [if_neg (fun h=>h46 h.1)]⟩
 ·left
  refine ⟨decide_eq_false (by omega),h,?_⟩
  rw [List.drop_eq_nil_iff.2 (by omega)];rfl
def isE:List UInt8→Bool
 | []=>false
 | c :: _=>decide (c.toNat=101) || decide (c.toNat=69)
theorem expN_isE (l:List UInt8) (A:Nat):(isE (l.drop A)=false→expN (l.drop A)=0) ∧
  (isE (l.drop A)=true→A<l.length∧expN (l.drop A)=if hasD ((l.drop (A+1)).drop (sgnN (l.drop (A+1))))=true then 1+sgnN (l.drop (A+1))+digN ((l.drop (A+1)).drop (sgnN (l.drop (A+1)))) else 0):=by
 by_cases h:A<l.length
 ·rw [List.drop_eq_getElem_cons h,expN_parts]
  unfold isE
  dsimp only
  constructor
  ·intro h1
   rw [if_neg]
   simp at h1
   rintro ⟨h2 | h2,-⟩
   ·exact h1.1 h2
   ·exact h1.2 h2
  ·intro h1
   refine ⟨h,?_⟩
   simp at h1
   cases hasD ((l.drop (A+1)).drop (sgnN (l.drop (A+1)))) <;> simp [h1]
 ·rw [List.drop_eq_nil_iff.2 (by omega)]
  exact ⟨fun _=>rfl,fun h=>by cases h⟩
theorem exp_case (s:ByteArray) (l:List UInt8) (A:Nat) (hl:Tx s l) (hA:A≤l.length) :
  (decide ((A:Int)<(l.length:Int))=false∧¬ A<l.length∧isE (l.drop A)=false) ∨
  (∃ (c:UInt8) (hp:A<s.size),decide ((A:Int)<(l.length:Int))=true∧A<l.length∧(A:Int)<(s.size:Int)∧s[A]'hp=c ∧
   ((((c.toNat:Int) == 101)=false∧((c.toNat:Int) == 69)=false∧isE (l.drop A)=false)∨(((c.toNat:Int) == 101)=true∧isE (l.drop A)=true)∨(((c.toNat:Int) == 101)=false∧((c.toNat:Int) == 69)=true∧isE (l.drop A)=true))):=by
 have hz:s.size=l.length:=hl.size
 by_cases h:A<l.length
 ·right
  have hd:=List.drop_eq_getElem_cons h
  obtain ⟨h1,hp,e⟩:=hl.byte A l[A] _ hd
  refine ⟨l[A],hp,decide_eq_true (by omega),h,by omega,e,?_⟩
  rw [hd]
  unfold isE
  dsimp only
  by_cases h1:l[A].toNat=101
  ·right;left
   exact ⟨by rw [beq_iff_eq];omega,by simp [h1]⟩
  ·by_cases h2:l[A].toNat=69
   ·right;right
    exact ⟨by rw [beq_eq_false_iff_ne];omega,by rw [beq_iff_eq];omega,by simp [h2]⟩
   ·left
    exact ⟨by rw [beq_eq_false_iff_ne];omega,by rw [beq_eq_false_iff_ne];omega,by simp [h1,h2]⟩
 ·left
  refine ⟨decide_eq_false (by omega),h,?_⟩
  rw [List.drop_eq_nil_iff.2 (by omega)];rfl
theorem sgn_at (s:ByteArray) (l:List UInt8) (A:Nat) (hl:Tx s l) (hA:A<l.length) (h7:(A:Int)≤7000) :
  (decide ((A:Int)+1<(l.length:Int))=false∧¬ A+1<l.length∧decide (sgnN (l.drop (A+1))=1)=false) ∨
  (∃ (c:UInt8) (K:Nat) (hp:K<s.size),A+1=K∧decide ((A:Int)+1<(l.length:Int))=true∧A+1<l.length∧(A:Int)+1=(K:Int)∧(K:Int)<(s.size:Int)∧IntKind.i64.wrap (K:Int)=(K:Int)∧K<l.length∧s[K]'hp=c ∧
   ((((c.toNat:Int) == 43)=false∧((c.toNat:Int) == 45)=false∧decide (sgnN (l.drop (A+1))=1)=false)∨(((c.toNat:Int) == 43)=true∧decide (sgnN (l.drop (A+1))=1)=true)∨(((c.toNat:Int) == 43)=false∧((c.toNat:Int) == 45)=true∧decide (sgnN (l.drop (A+1))=1)=true))):=by
 have hz:s.size=l.length:=hl.size
 by_cases h:A+1<l.length
 ·right
  have hd:=List.drop_eq_getElem_cons h
  obtain ⟨h1,hp,e⟩:=hl.byte (A+1) l[A+1] _ hd
  refine ⟨l[A+1],A+1,hp,rfl,decide_eq_true (by omega),h,by omega,by omega,by rw [IntKind.wrap_i64];omega,h,e,?_⟩
  rw [hd]
  rcases sign_case l[A+1] (l.drop (A+1+1)) with ⟨h1,h2⟩ | ⟨h1,h2,h3⟩ | ⟨h1,h2,h3⟩
  ·right;left
   exact ⟨by rw [beq_iff_eq];omega,by rw [h2];rfl⟩
  ·right;right
   exact ⟨by rw [beq_eq_false_iff_ne];omega,by rw [beq_iff_eq];omega,by rw [h3];rfl⟩
  ·left
   exact ⟨by rw [beq_eq_false_iff_ne];omega,by rw [beq_eq_false_iff_ne];omega,by rw [h3];rfl⟩
 ·left
  refine ⟨decide_eq_false (by omega),h,?_⟩
  rw [List.drop_eq_nil_iff.2 (by omega)];rfl
theorem sgnN_or (r:List UInt8):sgnN r=0∨sgnN r=1:=by
 cases r with
 | nil=>exact .inl rfl
 | cons c t =>
   rcases sign_case c t with ⟨_,h⟩ | ⟨_,_,h⟩ | ⟨_,_,h⟩
   ·exact .inr h
   ·exact .inr h
   ·exact .inl h
theorem numW_fin {W:Nat×Nat×TokV×Nat} {E0 K A o:Nat} {V0:TokV} {G:Bool} (hW:W=if E0≠0 then (E0,0,tok0,0) else if G then (2,K,tok0,0) else (0,0,V0,K)) (hA:A=o+K) :
  (if E0≠0 then E0 else if G then 2 else 0)=W.1∧(if E0≠0 then o else if G then A else 0)=(if W.1=0 then 0 else o+W.2.1)∧(W.1=0→E0=0∧W.2.2.1=V0∧W.2.2.2=K):=by
 subst hW
 subst hA
 by_cases h:E0=0
 ·subst h
  cases G
  ·exact ⟨rfl,rfl,fun _=>⟨rfl,rfl,rfl⟩⟩
  ·exact ⟨rfl,rfl,fun h=>by cases h⟩
 ·rw [if_pos h,if_pos h,if_pos h]
  refine ⟨rfl,?_,fun h'=>absurd h' h⟩
  dsimp only
  rw [if_neg h,Nat.add_zero]
def decE (T:List UInt8):Nat:=if wholeB T then (wholeS T).2 else (parseS T).2
def decV (T:List UInt8):TokV:=if wholeB T then ⟨2,[],(wholeS T).1,0,0⟩ else ⟨3,[],0,(parseS T).1,0⟩
theorem numW_tens (l:List UInt8) (h:hexN l=0) (hd:decN l≠0) (K:Nat) (hK:decN l=K) (T:List UInt8) (hT:l.take K=T) :
  numW l=if decE T≠0 then (decE T,0,tok0,0) else if gosR (l.drop K) then (2,K,tok0,0) else (0,0,decV T,K):=by
 subst hK;subst hT
 exact numW_dec l h hd
theorem tokC_dec (T:List UInt8) (o:Nat) (k n:Int) (d:Nat) (h:k=((decV T).k:Nat)∧n=(decV T).n∧d=(decV T).d) :
  #[.int .i64 k,.string ⟨#[]⟩,.int .i64 n,.int .u64 ((d:Nat):Int),.int .i64 (o:Int)]=tokC { decV T with p:=o }:=by
 obtain ⟨rfl,rfl,rfl⟩:=h
 unfold tokC decV
 cases wholeB T <;> rfl
theorem whole_digits (l:List UInt8) (h:wholeB l=true):∀ c ∈ l.drop (sgnN l),isDig c=true:=by
 unfold wholeB at h
 have h:=of_decide_eq_true h
 have:=spanN_take isDig (l.drop (sgnN l))
 rw [List.take_of_length_le] at this
 ·exact this
 ·rw [List.length_drop]
  unfold digN at h
  omega
end Go.Proofs.YtbblfkdmkpkmcaaGreatDoor
