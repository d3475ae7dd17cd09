/- KinS KinF KinB KinC -/
import Derived.Test.YtpfecpcgdfbekaaGreatDoorR01
import Derived.Test.YtpfecpcgdfbekaaGreatDoorG09
import Derived.Test.YtpfecpcgdfbekaaGreatDoorR00
import Derived.DeepKeys4
import Derived.Maps.Keyed
import Derived.Maps.Own
import Derived.Test.YtpfecpcgdfbekaaGreatDoorG08
set_option linter.unusedVariables false
set_option linter.unusedSimpArgs false
set_option linter.unnecessarySimpa false
set_option linter.unusedSectionVars false
namespace Go.Proofs.YtpfecpcgdfbekaaGreatDoor
open Go.RowKit
theorem plcIn:(145 : TypeId) < Tryz.prog.types.size:=of_decide_eq_true (by kernel_rfl)
theorem plcLaw:Maps.Keyed Tryz.prog 145:=Maps.Keyed.of_law (deep_law_laid laidOutK (m:=2) (by omega) plcIn (by kernel_rfl) (by rw [Tryz.underlying145]))
theorem plc_keys:∀ k ∈ List.range 17,∀ n ∈ List.range 4,(keyOf Tryz.prog 145 (plc k n)).isSome=true:=by decide +kernel
theorem plc_key {k n:Nat} (hk:k<17) (hn:n<4):∃ l,keyOf Tryz.prog 145 (plc k n)=some l :=
 Option.isSome_iff_exists.1 (plc_keys k (List.mem_range.2 hk) n (List.mem_range.2 hn))
theorem GoodE.keys {es:Array MapEntry} (h:GoodE es):∀ e ∈ es.toList,∃ l,keyOf Tryz.prog 145 e.key=some l:=by
 intro e he
 obtain ⟨k,n,v,h1,h2,-⟩:=h e he
 rw [h2]
 exact plc_key (signV_lt h1).1 (signV_lt h1).2
theorem look_sign {w:World} {g:Nat} (h:Sg w g) (k n:Nat) (hk:k<17) (hn:n<4) :
  (Instr.lookup 133 (.map (some g)) (plc k n) true).run Tryz.prog w = .ok (.tuple #[.int .u8 (((signV k n).getD 0:Nat):Int),.bool (signV k n).isSome]) w:=by
 obtain ⟨es,c,hg,hE,hall⟩:=h
 obtain ⟨kl,hkey⟩:=plc_key hk hn
 rcases plcLaw.find w hkey es.toList hE.keys with ⟨h1,h2⟩ | ⟨j,e,h1,h2,h3⟩
 ·have hs:signV k n=none:=by
   cases hv:signV k n with
   | none=>rfl
   | some v =>
    obtain ⟨e,he,hek⟩:=hall k n v hv
    exact absurd hek (h2 e he)
  simp [Instr.lookup,run_underlying Tryz.underlying133,MapKept.run_getObj_map hg,plcLaw.check w es.isEmpty hkey,h1,zero_u8,hs,Result.andThen]
 ·obtain ⟨k',n',v,hv,hk',hval⟩:=hE e (List.mem_of_getElem? h2)
  obtain ⟨rfl,rfl⟩:=plc_inj (h3.symm.trans hk')
  simp [Instr.lookup,run_underlying Tryz.underlying133,MapKept.run_getObj_map hg,plcLaw.check w es.isEmpty hkey,h1,hval,hv,Result.andThen]
theorem put_sign {w:World} {g:Nat} {es:Array MapEntry} {c:Nat} (hg:w.heap[g]? = some (.map es c)) (hE:GoodE es) (k n v:Nat) (hv:signV k n=some v) :
  ∃ es' c',(Instr.mapUpdate 133 (.map (some g)) (plc k n) (.int .u8 (v:Int))).run Tryz.prog w = .ok () (ChangeMaps.setBlock w g (.map es' c'))∧GoodE es' ∧
   (∃ e ∈ es'.toList,e.key=plc k n)∧∀ x ∈ es.toList,∃ y ∈ es'.toList,y.key=x.key:=by
 obtain ⟨kl,hkey⟩:=plc_key (signV_lt hv).1 (signV_lt hv).2
 rcases plcLaw.find w hkey es.toList hE.keys with ⟨h1,h2⟩ | ⟨j,e,h1,h2,h3⟩
 ·refine ⟨es.push ⟨plc k n,.int .u8 (v:Int),c⟩,c+1,?_,?_,⟨⟨plc k n,.int .u8 (v:Int),c⟩,by simp,rfl⟩,fun x hx=>⟨x,by simp at hx ⊢;exact .inl hx,rfl⟩⟩
  ·simp [Instr.mapUpdate,run_underlying Tryz.underlying133,MapKept.run_getObj_map hg,plcLaw.check w false hkey,h1,MapKept.run_setObj_map _ hg,Result.andThen,ChangeMaps.setBlock]
  ·intro e he
   simp only [Array.toList_push,List.mem_append,List.mem_singleton] at he
   rcases he with he | rfl
   ·exact hE e he
   ·exact ⟨k,n,v,hv,rfl,rfl⟩
 ·have hj:es[j]? = some e:=by simpa using h2
  have hlist:(es.modify j (fun e'=>{ e' with key:=plc k n,val:=.int .u8 (v:Int) })).toList=es.toList.set j { e with key:=plc k n,val:=.int .u8 (v:Int) }:=by rw [Array.toList_modify,ChangeMaps.modify_eq_set _ _ _ _ h2]
  refine ⟨es.modify j (fun e'=>{ e' with key:=plc k n,val:=.int .u8 (v:Int) }),c,?_,?_,?_,?_⟩
  ·simp [Instr.mapUpdate,run_underlying Tryz.underlying133,MapKept.run_getObj_map hg,plcLaw.check w false hkey,h1,hj,h3,plcLaw.stays w hkey,MapKept.run_setObj_map _ hg,Result.andThen,ChangeMaps.setBlock]
  ·intro x hx
   rw [hlist] at hx
   rcases List.mem_or_eq_of_mem_set hx with hx | rfl
   ·exact hE x hx
   ·exact ⟨k,n,v,hv,rfl,rfl⟩
  ·have hjl:j<es.toList.length:=(List.getElem?_eq_some_iff.1 h2).1
   exact ⟨_,by rw [hlist];exact List.mem_set hjl _,rfl⟩
  ·intro x hx
   obtain ⟨i,hi⟩:=List.getElem?_of_mem hx
   by_cases hij:j=i
   ·subst hij
    rw [h2] at hi
    cases hi
    have hjl:j<es.toList.length:=(List.getElem?_eq_some_iff.1 h2).1
    exact ⟨_,by rw [hlist];exact List.mem_set hjl _,h3.symm⟩
   ·refine ⟨x,?_,rfl⟩
    rw [hlist]
    exact List.mem_of_getElem? (by rw [List.getElem?_set_ne hij];exact hi)
theorem put_step {W w:World} {ls:Array Bool} {i:Nat} (hS:SgS W ls w) (h0:SgM W w) (hi:i≠0) (k n v:Nat) (hv:signV k n=some v) (vi:Int) (hvi:(v:Int)=vi) :
  ∃ w',(Instr.mapUpdate 133 (.map (some W.heap.size)) (plc k n) (.int .u8 vi)).run Tryz.prog w = .ok () w'∧SgV W k n w'∧SgS W (ls.setIfInBounds i true) w'∧SgR W w w':=by
 subst hvi
 obtain ⟨hN,h | ⟨h1,es,c,hg,hE⟩⟩:=hS
 ·obtain ⟨es,c,h2⟩:=h0
  rw [← h.2,Array.getElem?_eq_none (Nat.le_refl _)] at h2;cases h2
 ·obtain ⟨es',c',hrun,hE',hhas,hold⟩:=put_sign hg hE k n v hv
  have hlt:W.heap.size<w.heap.size:=(Array.getElem?_eq_some_iff.1 hg).1
  have hnew:(ChangeMaps.setBlock w W.heap.size (.map es' c')).heap[W.heap.size]? = some (.map es' c'):=by
   simp [ChangeMaps.setBlock,hlt]
  refine ⟨_,hrun,⟨es',c',hnew,hhas⟩,⟨⟨hN.os,hN.tape,hN.output,by simp [ChangeMaps.setBlock];exact hN.size,fun b hb=>?_⟩,.inr ⟨?_,es',c',hnew,hE'⟩⟩,fun es2 c2 h2=>?_⟩
  ·simp only [ChangeMaps.setBlock]
   rw [Array.getElem?_setIfInBounds_ne (by omega)]
   exact hN.block b hb
  ·rw [getD_set_ne false hi];exact h1
  ·rw [hg] at h2
   cases h2
   exact ⟨es',c',hnew,hold⟩
set_option maxRecDepth 100000 in
set_option maxHeartbeats 1600000 in
theorem signs_any (w:World) :
  Calls Tryz.prog 60 #[] w fun e w'=>e = .returned (.map (some w.heap.size))∧Sg w' w.heap.size∧Nx w w':=by
 go_enter Tryz.func60,Tryz.ntmps60
 go_wp2_with fail
 have hmm:=@run_makeMap Tryz.prog
 refine RI.wp_region_N (RI.Vof [fun v x=>v = .map (some w.heap.size)∧SgM w x,fun v _=>v=plc 15 0,fun _ x=>SgV w 15 0 x,fun v _=>v=plc 15 1,fun _ x=>SgV w 15 1 x,fun v _=>v=plc 14 0,fun _ x=>SgV w 14 0 x,
  fun v _=>v=plc 14 1,fun _ x=>SgV w 14 1 x,fun v _=>v=plc 13 0,fun _ x=>SgV w 13 0 x,fun v _=>v=plc 13 1,fun _ x=>SgV w 13 1 x,fun v _=>v=plc 13 2,fun _ x=>SgV w 13 2 x,
  fun v _=>v = .map (some w.heap.size),fun v _=>v = .map (some w.heap.size)]) (SgS w) (SgR w) (by kernel_rfl) (by kernel_rfl) (by kernel_rfl) ?_ ?_ ?_ ?_
 ·refine RI.Vof.keeps ?_
  intro p hp v w1 w2 h1 h2
  simp only [List.mem_cons,List.not_mem_nil,or_false] at hp
  rcases hp with rfl | rfl | rfl | rfl | rfl | rfl | rfl | rfl | rfl | rfl | rfl | rfl | rfl | rfl | rfl | rfl | rfl <;> first | exact h1 | exact SgV.keep h1 h2 | exact ⟨h1.1,h1.2.keep h2⟩
 ·exact ⟨Nx.drawn w,.inl ⟨rfl,rfl⟩⟩
 ·refine ⟨?_,?_,?_,?_,?_,?_,?_,?_,?_,?_,?_,?_,?_,?_,?_,?_,?_,trivial⟩
  ·intro a x ls w1 hS hsz hl hin hout hd K hK
   obtain ⟨hw,hn⟩:=hS.first (by rw [hsz];decide) hl
   have h1:=hK (w1.alloc (.map #[] 0)) (.map (some w.heap.size)) ⟨rfl,_,_,by rw [← hw];exact heap_alloc_new w1 _⟩ (SgS.made (by rw [hsz];decide) hw hn) (SgR.made hw)
   clear hK hS hl hd hin hout hsz
   go_simp
   exact h1
  ·intro a x ls w1 hS hsz hl hin hout hd K hK
   have h1:=hK w1 (plc 15 0) rfl (hS.set _ (by decide)) (SgR.refl _ _)
   clear hK hS hl hd hin hout hsz
   go_simp
   exact h1
  ·intro a x ls w1 hS hsz hl hin hout hd K hK
   have hv0:=hd ⟨0,.data⟩ (by simp) rfl
   have e1:a.tmps.getD 1 undef = .map (some w.heap.size):=(hin 1 0 (by decide) (by show 1<10;decide)).trans hv0.1
   have e2:a.tmps.getD 2 undef=plc 15 0:=(hin 2 1 (by decide) (by show 2<10;decide)).trans (hd ⟨1,.data⟩ (by simp) rfl)
   obtain ⟨w2,hrun,hv,hS',hR⟩:=put_step (i:=2) hS hv0.2 (by decide) 15 0 60 rfl 60 rfl
   have h1:=hK w2 undef hv hS' hR
   clear hK hS hl hd hin hout hsz hv hS' hR hv0
   go_simp
   exact h1
  ·intro a x ls w1 hS hsz hl hin hout hd K hK
   have h1:=hK w1 (plc 15 1) rfl (hS.set _ (by decide)) (SgR.refl _ _)
   clear hK hS hl hd hin hout hsz
   go_simp
   exact h1
  ·intro a x ls w1 hS hsz hl hin hout hd K hK
   have hv0:=hd ⟨0,.data⟩ (by simp) rfl
   have e1:a.tmps.getD 1 undef = .map (some w.heap.size):=(hin 1 0 (by decide) (by show 1<10;decide)).trans hv0.1
   have e2:a.tmps.getD 3 undef=plc 15 1:=(hin 3 3 (by decide) (by show 3<10;decide)).trans (hd ⟨3,.data⟩ (by simp) rfl)
   obtain ⟨w2,hrun,hv,hS',hR⟩:=put_step (i:=4) hS hv0.2 (by decide) 15 1 62 rfl 62 rfl
   have h1:=hK w2 undef hv hS' hR
   clear hK hS hl hd hin hout hsz hv hS' hR hv0
   go_simp
   exact h1
  ·intro a x ls w1 hS hsz hl hin hout hd K hK
   have h1:=hK w1 (plc 14 0) rfl (hS.set _ (by decide)) (SgR.refl _ _)
   clear hK hS hl hd hin hout hsz
   go_simp
   exact h1
  ·intro a x ls w1 hS hsz hl hin hout hd K hK
   have hv0:=hd ⟨0,.data⟩ (by simp) rfl
   have e1:a.tmps.getD 1 undef = .map (some w.heap.size):=(hin 1 0 (by decide) (by show 1<10;decide)).trans hv0.1
   have e2:a.tmps.getD 4 undef=plc 14 0:=(hin 4 5 (by decide) (by show 4<10;decide)).trans (hd ⟨5,.data⟩ (by simp) rfl)
   obtain ⟨w2,hrun,hv,hS',hR⟩:=put_step (i:=6) hS hv0.2 (by decide) 14 0 60 rfl 60 rfl
   have h1:=hK w2 undef hv hS' hR
   clear hK hS hl hd hin hout hsz hv hS' hR hv0
   go_simp
   exact h1
  ·intro a x ls w1 hS hsz hl hin hout hd K hK
   have h1:=hK w1 (plc 14 1) rfl (hS.set _ (by decide)) (SgR.refl _ _)
   clear hK hS hl hd hin hout hsz
   go_simp
   exact h1
  ·intro a x ls w1 hS hsz hl hin hout hd K hK
   have hv0:=hd ⟨0,.data⟩ (by simp) rfl
   have e1:a.tmps.getD 1 undef = .map (some w.heap.size):=(hin 1 0 (by decide) (by show 1<10;decide)).trans hv0.1
   have e2:a.tmps.getD 5 undef=plc 14 1:=(hin 5 7 (by decide) (by show 5<10;decide)).trans (hd ⟨7,.data⟩ (by simp) rfl)
   obtain ⟨w2,hrun,hv,hS',hR⟩:=put_step (i:=8) hS hv0.2 (by decide) 14 1 62 rfl 62 rfl
   have h1:=hK w2 undef hv hS' hR
   clear hK hS hl hd hin hout hsz hv hS' hR hv0
   go_simp
   exact h1
  ·intro a x ls w1 hS hsz hl hin hout hd K hK
   have h1:=hK w1 (plc 13 0) rfl (hS.set _ (by decide)) (SgR.refl _ _)
   clear hK hS hl hd hin hout hsz
   go_simp
   exact h1
  ·intro a x ls w1 hS hsz hl hin hout hd K hK
   have hv0:=hd ⟨0,.data⟩ (by simp) rfl
   have e1:a.tmps.getD 1 undef = .map (some w.heap.size):=(hin 1 0 (by decide) (by show 1<10;decide)).trans hv0.1
   have e2:a.tmps.getD 6 undef=plc 13 0:=(hin 6 9 (by decide) (by show 6<10;decide)).trans (hd ⟨9,.data⟩ (by simp) rfl)
   obtain ⟨w2,hrun,hv,hS',hR⟩:=put_step (i:=10) hS hv0.2 (by decide) 13 0 60 rfl 60 rfl
   have h1:=hK w2 undef hv hS' hR
   clear hK hS hl hd hin hout hsz hv hS' hR hv0
   go_simp
   exact h1
  ·intro a x ls w1 hS hsz hl hin hout hd K hK
   have h1:=hK w1 (plc 13 1) rfl (hS.set _ (by decide)) (SgR.refl _ _)
   clear hK hS hl hd hin hout hsz
   go_simp
   exact h1
  ·intro a x ls w1 hS hsz hl hin hout hd K hK
   have hv0:=hd ⟨0,.data⟩ (by simp) rfl
   have e1:a.tmps.getD 1 undef = .map (some w.heap.size):=(hin 1 0 (by decide) (by show 1<10;decide)).trans hv0.1
   have e2:a.tmps.getD 7 undef=plc 13 1:=(hin 7 11 (by decide) (by show 7<10;decide)).trans (hd ⟨11,.data⟩ (by simp) rfl)
   obtain ⟨w2,hrun,hv,hS',hR⟩:=put_step (i:=12) hS hv0.2 (by decide) 13 1 44 rfl 44 rfl
   have h1:=hK w2 undef hv hS' hR
   clear hK hS hl hd hin hout hsz hv hS' hR hv0
   go_simp
   exact h1
  ·intro a x ls w1 hS hsz hl hin hout hd K hK
   have h1:=hK w1 (plc 13 2) rfl (hS.set _ (by decide)) (SgR.refl _ _)
   clear hK hS hl hd hin hout hsz
   go_simp
   exact h1
  ·intro a x ls w1 hS hsz hl hin hout hd K hK
   have hv0:=hd ⟨0,.data⟩ (by simp) rfl
   have e1:a.tmps.getD 1 undef = .map (some w.heap.size):=(hin 1 0 (by decide) (by show 1<10;decide)).trans hv0.1
   have e2:a.tmps.getD 8 undef=plc 13 2:=(hin 8 13 (by decide) (by show 8<10;decide)).trans (hd ⟨13,.data⟩ (by simp) rfl)
   obtain ⟨w2,hrun,hv,hS',hR⟩:=put_step (i:=14) hS hv0.2 (by decide) 13 2 62 rfl 62 rfl
   have h1:=hK w2 undef hv hS' hR
   clear hK hS hl hd hin hout hsz hv hS' hR hv0
   go_simp
   exact h1
  ·intro a x ls w1 hS hsz hl hin hout hd K hK
   have hv0:=hd ⟨0,.data⟩ (by simp) rfl
   have e1:a.tmps.getD 1 undef = .map (some w.heap.size):=(hin 1 0 (by decide) (by show 1<10;decide)).trans hv0.1
   have h1:=hK w1 (.map (some w.heap.size)) rfl (hS.set _ (by decide)) (SgR.refl _ _)
   clear hK hS hl hd hin hout hsz hv0
   go_simp
   exact h1
  ·intro a x ls w1 hS hsz hl hin hout hd K hK
   have e1:a.tmps.getD 9 undef = .map (some w.heap.size):=(hin 9 15 (by decide) (by show 9<10;decide)).trans (hd ⟨15,.data⟩ (by simp) rfl)
   have h1:=hK w1 (.map (some w.heap.size)) rfl (hS.set _ (by decide)) (SgR.refl _ _)
   clear hK hS hl hd hin hout hsz
   go_simp
   exact h1
 ·intro A x ls w1 hS hall hin hout hV HA
  have e0:A.tmps.getD 0 undef = .map (some w.heap.size):=(hin 0 16 (by decide) (by show 0<10;decide)).trans (hV 16 (by decide))
  have hN:=hS.1
  have hSg:Sg w1 w.heap.size:=by
   obtain ⟨-,h | ⟨-,es,c,hg,hE⟩⟩:=hS
   ·have:=hall 0 (by decide)
    rw [this] at h;cases h.1
   ·refine ⟨es,c,hg,hE,?_⟩
    have key:∀ {k n:Nat},SgV w k n w1→∃ e ∈ es.toList,e.key=plc k n:=by
     intro k n ⟨es',c',hg',h⟩
     rw [hg] at hg'
     cases hg'
     exact h
    intro k n v hv
    unfold signV at hv
    have k0:=key (hV 2 (by decide))
    have k1:=key (hV 4 (by decide))
    have k2:=key (hV 6 (by decide))
    have k3:=key (hV 8 (by decide))
    have k4:=key (hV 10 (by decide))
    have k5:=key (hV 12 (by decide))
    have k6:=key (hV 14 (by decide))
    split at hv
    ·rename_i h
     obtain ⟨h | h | h,rfl⟩:=h <;> subst h <;> assumption
    ·split at hv
     ·rename_i h
      obtain ⟨rfl,rfl⟩:=h
      assumption
     ·split at hv
      ·rename_i h
       obtain ⟨h | h,rfl⟩ | ⟨rfl,rfl⟩:=h
       ·subst h;assumption
       ·subst h;assumption
       ·assumption
      ·cases hv
  have hdf:A.defers=[]:=by rw [HA.out]
  clear hV hall hin hout HA hS
  go_wp2_with fail
  exact bodyPost_ret (v:=.map (some w.heap.size)) (by simp [results,Tryz.results60,go_sem,← e0]) hdf ⟨rfl,hSg,hN⟩
end Go.Proofs.YtpfecpcgdfbekaaGreatDoor
namespace Go.Proofs.YtpfecpcgdfbekaaGreatDoor
open Go.RowKit
theorem Fr.tab {b:Nat} {v v':Value} {w w':World} (h:Fr b v w v' w') (k:TabK w) (hb:0≠b) (hv:v.ownBlock≠some 0):TabK w':=by
 obtain ⟨t,fr,hg⟩:=k
 refine ⟨t,fr,?_⟩
 rw [h.block _ ?_ hb hv]
 ·exact hg
 ·exact (Array.getElem?_eq_some_iff.1 hg).1
def CurK (w:World) (b:Nat) (s:ByteArray) (at_ d dp:Int) (v:Value) (sb:Nat):Prop :=
 Blk w 0 b #[.string s,.int .i64 at_,.int .i64 d,.int .i64 dp,v,.map (some sb)] 135
end Go.Proofs.YtpfecpcgdfbekaaGreatDoor
namespace Go.Proofs.YtpfecpcgdfbekaaGreatDoor
open Go.RowKit
theorem CurK.at_ {w:World} {b:Nat} {s:ByteArray} {o:Nat} {d dp:Int} {v:Value} {sb:Nat} (h:CurK w b s (o:Int) d dp v sb):atK b w=o:=by
 unfold atK
 rw [show w.cell? ⟨b,1,none⟩=some (.int .i64 (o:Int)) from h.cell 1]
 simp
theorem CurK.drew {w:World} {b:Nat} {s:ByteArray} {o d dp:Int} {v:Value} {sb:Nat} (h:CurK w b s o d dp v sb) (n:Nat):CurK (w.drewN n) b s o d dp v sb:=Blk.drew h n
theorem CurK.put1 {w:World} {b:Nat} {s:ByteArray} {o d dp:Int} {v:Value} {sb:Nat} (h:CurK w b s o d dp v sb) (o':Int):CurK (w.setCell ⟨b,1,none⟩ (.int .i64 o')) b s o' d dp v sb:=Blk.put h 1 _
theorem CurK.put2 {w:World} {b:Nat} {s:ByteArray} {o d dp:Int} {v:Value} {sb:Nat} (h:CurK w b s o d dp v sb) (d':Int):CurK (w.setCell ⟨b,2,none⟩ (.int .i64 d')) b s o d' dp v sb:=Blk.put h 2 _
theorem CurK.put3 {w:World} {b:Nat} {s:ByteArray} {o d dp:Int} {v:Value} {sb:Nat} (h:CurK w b s o d dp v sb) (dp':Int):CurK (w.setCell ⟨b,3,none⟩ (.int .i64 dp')) b s o d dp' v sb:=Blk.put h 3 _
theorem CurK.put4 {w:World} {b:Nat} {s:ByteArray} {o d dp:Int} {v:Value} {sb:Nat} (h:CurK w b s o d dp v sb) (v':Value):CurK (w.setCell ⟨b,4,none⟩ v') b s o d dp v' sb:=Blk.put h 4 _
set_option maxRecDepth 100000 in
set_option maxHeartbeats 1600000 in
theorem word_any (b:Nat) (s:ByteArray) (l:List UInt8) (o:Nat) (d dp:Int) (v:Value) (sb:Nat) (w:World) (hC:CurK w b s (o:Int) d dp v sb) (hl:Tx s l) (ho:o≤l.length) (hs:(l.length:Int)≤8000) :
  Calls Tryz.prog 103 #[.pointer (some ⟨b,0,none⟩)] w fun e w'=>∃ u,e = .returned (.string u)∧Hid (Tx u ((l.drop o).take (spanN isNmS (l.drop o))))∧CurK w' b s ((o+spanN isNmS (l.drop o):Nat):Int) d dp v sb∧Oth b w w':=by
 have HL:=Lib.hid hl
 have HC:=Lib.hid hC
 obtain ⟨N,hN⟩:∃ N,Hid (spanN isNmS (l.drop o)=N):=⟨_,rfl⟩
 rw [hN.out]
 have hNl:o+N≤l.length:=by have:=spanN_le isNmS (l.drop o);rw [hN.out] at this;simp at this;omega
 have c1:w.cell? ⟨b,1,none⟩=some (.int .i64 (o:Int)):=hC.cell 1
 clear hl hC
 go_enter Tryz.func103,Tryz.ntmps103
 go_wp2_with fail
 clear c1
 go_loopw [] (fun wr=>∃ i:Nat,CurK wr b s (i:Int) d dp v sb∧o≤i∧i≤l.length∧Hid (N+o=spanN isNmS (l.drop i)+i)∧Oth b w wr) (fun wr=>10000 - atK b wr)
 case atStart=>exact ⟨o,HC.out,Nat.le_refl _,ho,by unfold Hid;rw [hN.out],Oth.refl _ _⟩
 case round =>
  obtain ⟨i,hC,hoi,hi,HS,hO⟩:=hrel
  have hat:=hC.at_
  have c0:wr.cell? ⟨b,0,none⟩=some (.string s):=hC.cell 0
  have c1:wr.cell? ⟨b,1,none⟩=some (.int .i64 (i:Int)):=hC.cell 1
  have f1:wr.frozen? ⟨b,1,none⟩=false:=hC.free 1
  have HAT:=Lib.hid hat
  have HC1:=Lib.hid hC
  have HO:=Lib.hid hO
  have hz:(s.size:Int)=(l.length:Int):=by rw [HL.out.size]
  have HZ:=Lib.hid hz
  clear hat hC hO hz
  obtain ⟨l1,hl1⟩:∃ l1,Hid (l.drop i=l1):=⟨_,rfl⟩
  have hl1n:l1.length+i=l.length:=by rw [← hl1.out];simp;omega
  rw [hl1.out] at HS
  cases l1 with
  | nil =>
   have hNi:N+o=i:=by have:=HS.out;rw [show spanN isNmS []=0 from rfl] at this;omega
   have hi1:(i:Int)≤(s.size:Int):=by rw [HZ.out];omega
   have hoiI:(o:Int)≤(i:Int):=by omega
   have g1:decide ((i:Int)<(s.size:Int))=false:=decide_eq_false (by rw [HZ.out];simp at hl1n;omega)
   have g2:¬ i<s.size:=by have:=HZ.out;simp at hl1n;omega
   have HNI:=Lib.hid hNi
   obtain ⟨u,hu,HU⟩:=HL.out.mid o i
   clear hNi
   go_wp2_with fail
   go_quiet (fail)
   go_wp2_with fail
   go_quiet (fail)
   go_wp2_with fail
   go_ret
   have h1:=HNI.out
   refine ⟨u,rfl,?_,?_,(HO.out.trans (Oth.nx (((Nx.refl _).dr _).dr _)))⟩
   ·unfold Hid
    rw [List.take_drop,show o+N=i by omega]
    exact HU.out
   ·rw [show o+N=i by omega]
    exact (HC1.out.drew _).drew _
  | cons c r =>
   obtain ⟨hil,hp,hxc⟩:=HL.out.byteK i c r hl1.out
   have hi8:(i:Int)≤8000:=by omega
   have g1:decide ((i:Int)<(s.size:Int))=true:=decide_eq_true (by omega)
   have hsp:spanN isNmS (c :: r)=if isNmS c then spanN isNmS r+1 else 0:=rfl
   obtain ⟨B,HB⟩:∃ B,Hid (isNmS c=B):=⟨_,rfl⟩
   have hcall:∀ w,Calls Tryz.prog 126 #[.int .u8 (c.toNat:Int)] w fun e w'=>e = .returned (.bool B)∧w'=w:=by
    intro w;have:=kisOfName_any c w;rw [HB.out] at this;exact this
   rw [HB.out] at hsp
   have HSP:=Lib.hid hsp
   have hi1:(i:Int)≤(s.size:Int):=by rw [HZ.out];omega
   have hoiI:(o:Int)≤(i:Int):=by omega
   obtain ⟨u,hu,HU⟩:=HL.out.mid o i
   clear hsp
   go_wp2_with fail
   go_quiet (exact Calls.quiet_of_same (hcall _))
   clear g1 hxc hp hcall
   generalize hW:World.drewN wr _=w1
   have hC1:CurK w1 b s (i:Int) d dp v sb:=by rw [← hW];exact HC1.out.drew _
   have hO1:Oth b w w1:=by rw [← hW];exact HO.out.trans (Oth.nx ((Nx.refl _).dr _))
   clear hW c0 c1 f1
   have c0:w1.cell? ⟨b,0,none⟩=some (.string s):=hC1.cell 0
   have c1:w1.cell? ⟨b,1,none⟩=some (.int .i64 (i:Int)):=hC1.cell 1
   have f1:w1.frozen? ⟨b,1,none⟩=false:=hC1.free 1
   have HC2:=Lib.hid hC1
   have HO2:=Lib.hid hO1
   clear hC1 hO1
   cases B
   ·go_wp2_with fail
    go_quiet (fail)
    go_wp2_with fail
    go_ret
    have h1:N+o=i:=by have:=HS.out;rw [HSP.out] at this;simpa using this
    refine ⟨u,rfl,?_,?_,(HO2.out.trans (Oth.nx ((Nx.refl _).dr _)))⟩
    ·unfold Hid
     rw [List.take_drop,show o+N=i by omega]
     exact HU.out
    ·rw [show o+N=i by omega]
     exact HC2.out.drew _
   ·go_wp2_with fail
    go_roundw
    case rel =>
     refine ⟨i+1,?_,by omega,by omega,?_,HO2.out.own⟩
     ·exact HC2.out.put1 _
     ·unfold Hid
      rw [HS.out,HSP.out,drop_cons hl1.out]
      simp
      omega
    case measure =>
     have h1:CurK (w1.setCell ⟨b,1,none⟩ (.int .i64 ((i:Int)+1))) b s ((i+1:Nat):Int) d dp v sb:=HC2.out.put1 _
     rw [h1.at_,HAT.out]
     omega
set_option maxRecDepth 100000 in
set_option maxHeartbeats 1600000 in
theorem take_any (b:Nat) (s:ByteArray) (l:List UInt8) (o:Nat) (d dp:Int) (v:Value) (sb:Nat) (x:UInt8) (w:World) (hC:CurK w b s (o:Int) d dp v sb) (hl:Tx s l) (ho:o≤l.length) (hs:(l.length:Int)≤8000) :
  Calls Tryz.prog 145 #[.pointer (some ⟨b,0,none⟩),.int .u8 (x.toNat:Int)] w fun e w'=>e = .returned (.bool (decide ((l.drop o).head? = some x))) ∧
   CurK w' b s ((o+(if (l.drop o).head? = some x then 1 else 0):Nat):Int) d dp v sb∧Oth b w w':=by
 have HL:=Lib.hid hl
 have HC:=Lib.hid hC
 have c0:w.cell? ⟨b,0,none⟩=some (.string s):=hC.cell 0
 have c1:w.cell? ⟨b,1,none⟩=some (.int .i64 (o:Int)):=hC.cell 1
 have f1:w.frozen? ⟨b,1,none⟩=false:=hC.free 1
 have hz:(s.size:Int)=(l.length:Int):=by rw [hl.size]
 have HZ:=Lib.hid hz
 obtain ⟨l1,hl1⟩:∃ l1,Hid (l.drop o=l1):=⟨_,rfl⟩
 have hl1n:l1.length+o=l.length:=by rw [← hl1.out];simp;omega
 rw [hl1.out]
 clear hl hC hz
 cases l1 with
 | nil =>
  have g1:((o:Int) == (s.size:Int))=true:=by rw [beq_iff_eq,HZ.out];simp at hl1n;omega
  go_enter Tryz.func145,Tryz.ntmps145
  go_wp2_with fail
  go_quiet (fail)
  go_wp2_with fail
  go_ret
  exact ⟨rfl,HC.out.drew _,Oth.nx ((Nx.refl _).dr _)⟩
 | cons c r =>
  obtain ⟨hol,hp,hxc⟩:=HL.out.byteK o c r hl1.out
  have g1:((o:Int) == (s.size:Int))=false:=by rw [beq_eq_false_iff_ne];omega
  have g2:(o:Int)<(s.size:Int):=by omega
  have ho8:(o:Int)≤8000:=by omega
  by_cases hx:c=x
  ·have g3:((c.toNat:Int) != (x.toNat:Int))=false:=by subst hx;simp
   have HX:=Lib.hid hx
   have e1:decide ((c :: r).head? = some x)=true:=by rw [hx];simp
   have e2:(c :: r).head? = some x:=by rw [hx];rfl
   rw [e1,if_pos e2]
   clear hx e1 e2
   go_enter Tryz.func145,Tryz.ntmps145
   go_wp2_with fail
   go_quiet (fail)
   go_wp2_with fail
   go_ret
   exact ⟨rfl,(HC.out.drew _).put1 _,(Oth.nx ((Nx.refl _).dr _)).own⟩
  ·have g3:((c.toNat:Int) != (x.toNat:Int))=true:=by
    rw [bne_iff_ne]
    intro h
    exact hx (UInt8.toNat_inj.1 (by omega))
   have e1:decide ((c :: r).head? = some x)=false:=decide_eq_false (by simpa using hx)
   have e2:¬ (c :: r).head? = some x:=by simpa using hx
   rw [e1,if_neg e2]
   clear hx e1 e2
   go_enter Tryz.func145,Tryz.ntmps145
   go_wp2_with fail
   go_quiet (fail)
   go_wp2_with fail
   go_ret
   exact ⟨rfl,HC.out.drew _,Oth.nx ((Nx.refl _).dr _)⟩
end Go.Proofs.YtpfecpcgdfbekaaGreatDoor
namespace Go.Proofs.YtpfecpcgdfbekaaGreatDoor
open Go.RowKit
structure Pre (w:World) (b:Nat) (s:ByteArray) (l:List UInt8) (o D DP sb B:Nat) (v:Value) (ns:List ByteArray):Prop where
 cur:CurK w b s (o:Int) (D:Int) (DP:Int) v sb
 tx:Tx s l
 ho:o≤l.length
 hs:(l.length:Int)≤8000
 own:OwnN w B v ns
 nsl:ns.length≤o
 sg:Sg w sb
 sbB:sb<B
 sbb:sb≠b
 tab:TabK w
 maxc:MaxC w
 gb0:0≠b
 gb1:1≠b
 gB0:0 < B
 gB1:1 < B
 bB:b<B
 le:D≤DP
 dp:DP≤12
 bz:B≤w.heap.size
theorem Pre.ne {w:World} {b:Nat} {s:ByteArray} {l:List UInt8} {o D DP sb B:Nat} {v:Value} {ns:List ByteArray} (h:Pre w b s l o D DP sb B v ns) (g:Nat) (hg:g<B):v.ownBlock≠some g:=fun e=>by
 have:=(h.own.own g e).1
 omega
theorem Pre.fr {w w':World} {b:Nat} {s:ByteArray} {l:List UInt8} {o D DP sb B o' D' DP':Nat} {v v':Value} {ns ns':List ByteArray} (h:Pre w b s l o D DP sb B v ns) (hF:Fr b v w v' w')
  (hc:CurK w' b s (o':Int) (D':Int) (DP':Int) v' sb) (ho:o'≤l.length) (hown:OwnN w' B v' ns') (hn:ns'.length≤o') (hle:D'≤DP') (hdp:DP'≤12):Pre w' b s l o' D' DP' sb B v' ns' :=
 {cur:=hc,tx:=h.tx,ho:=ho,hs:=h.hs,own:=hown,nsl:=hn,sg:=hF.sg h.sg h.sbb (h.ne _ h.sbB),sbB:=h.sbB,sbb:=h.sbb,
  tab:=hF.tab h.tab h.gb0 (h.ne _ h.gB0),maxc:=hF.maxC h.maxc h.gb1 (h.ne _ h.gB1),gb0:=h.gb0,gb1:=h.gb1,gB0:=h.gB0,gB1:=h.gB1,bB:=h.bB,le:=hle,dp:=hdp,bz:=Nat.le_trans h.bz hF.size }
theorem Pre.ownFr {w w':World} {b:Nat} {s:ByteArray} {l:List UInt8} {o D DP sb B:Nat} {v:Value} {ns:List ByteArray} (h:Pre w b s l o D DP sb B v ns) (hO:Oth b w w'):OwnN w' B v ns :=
 h.own.keep fun k e=>hO.block k (h.own.own k e).2 (fun e'=>by have:=(h.own.own k e).1;have:=h.bB;omega)
theorem Pre.oth {w w':World} {b:Nat} {s:ByteArray} {l:List UInt8} {o D DP sb B o' D' DP':Nat} {v:Value} {ns:List ByteArray} (h:Pre w b s l o D DP sb B v ns) (hO:Oth b w w')
  (hc:CurK w' b s (o':Int) (D':Int) (DP':Int) v sb) (h1:o≤o') (ho:o'≤l.length) (hle:D'≤DP') (hdp:DP'≤12):Pre w' b s l o' D' DP' sb B v ns :=
 h.fr (Fr.oth hO v) hc ho (h.ownFr hO) (Nat.le_trans h.nsl h1) hle hdp
theorem Pre.nx {w w':World} {b:Nat} {s:ByteArray} {l:List UInt8} {o D DP sb B:Nat} {v:Value} {ns:List ByteArray} (h:Pre w b s l o D DP sb B v ns) (hN:Nx w w'):Pre w' b s l o D DP sb B v ns :=
 h.oth (Oth.nx hN) (Blk.below h.cur hN) (Nat.le_refl _) h.ho h.le h.dp
def Aft (b:Nat) (s:ByteArray) (o Dc D DP sb B:Nat) (v:Value) (ns:List ByteArray) (w w':World) (P:Nat×Ty×Nat):Prop :=
 ∃ (o' dp':Int) (v':Value),CurK w' b s o' (Dc:Int) dp' v' sb∧Fr b v w v' w' ∧
  (P.1=0→o'=((o+P.2.2:Nat):Int)∧dp'=((max DP (D+depthT P.2.1):Nat):Int)∧OwnN w' B v' (ns++nmB P.2.1))
def NextR (b:Nat) (s:ByteArray) (o D DP sb B:Nat) (v:Value) (ns:List ByteArray) (w:World) (P:Nat×Ty×Nat) (e:Ending) (w':World):Prop :=
 ∃ (K:Int) (N A C:ByteArray),e = .returned (.tuple #[.agg #[.int .i64 K,.string N,.string A,.string C],.int .i64 (P.1:Nat)])∧(P.1=0→HeadIs P.2.1 K N A C)∧Aft b s o D D DP sb B v ns w w' P
def PartR (b:Nat) (s:ByteArray) (o Dc D DP sb B:Nat) (v:Value) (ns:List ByteArray) (w:World) (P:Nat×Ty×Nat) (e:Ending) (w':World):Prop :=
 ∃ A C:ByteArray,e = .returned (.tuple #[.agg #[.string A,.string C],.int .i64 (P.1:Nat)])∧(P.1=0→Tx A (headT P.2.1).2.2.1∧Tx C (headT P.2.1).2.2.2)∧Aft b s o Dc D DP sb B v ns w w' P
def NextC (r:Nat):Prop:=∀ (w:World) (b:Nat) (s:ByteArray) (l:List UInt8) (o D DP sb B:Nat) (v:Value) (ns:List ByteArray),Pre w b s l o D DP sb B v ns→D+r=12 →
 Calls Tryz.prog 83 #[.pointer (some ⟨b,0,none⟩)] w (NextR b s o D DP sb B v ns w (parT r (l.drop o)))
end Go.Proofs.YtpfecpcgdfbekaaGreatDoor
