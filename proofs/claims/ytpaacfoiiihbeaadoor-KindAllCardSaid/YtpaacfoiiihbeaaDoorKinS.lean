/- The signs of types: a map that the call makes, in any order. -/
import Derived.Test.YtpaacfoiiihbeaaDoorKinA
import Derived.Test.YtpaacfoiiihbeaaDoorRegL
import Derived.DeepKeys4
import Derived.Maps.Keyed
import Derived.Maps.Own
set_option linter.unusedVariables false
set_option linter.unusedSimpArgs false
namespace Go.Proofs.YtpaacfoiiihbeaaDoor
open Go.RowKit

def plc (k n : Nat) : Value := .agg #[.int .i64 (k : Int), .int .i64 (n : Int)]
theorem plc_inj {k n k' n' : Nat} (h : plc k n = plc k' n') : k = k' ∧ n = n' := by
  unfold plc at h
  simp at h
  omega
theorem laidOutK : laidOutB Tryd.prog = true := by kernel_rfl
theorem plcIn : (57 : TypeId) < Tryd.prog.types.size := of_decide_eq_true (by kernel_rfl)
theorem plcLaw : Maps.Keyed Tryd.prog 57 := Maps.Keyed.of_law (deep_law_laid laidOutK (m := 2) (by omega) plcIn (by kernel_rfl) (by rw [Tryd.underlying57]))
theorem plc_keys : ∀ k ∈ List.range 17, ∀ n ∈ List.range 4, (keyOf Tryd.prog 57 (plc k n)).isSome = true := by decide +kernel
theorem plc_key {k n : Nat} (hk : k < 17) (hn : n < 4) : ∃ l, keyOf Tryd.prog 57 (plc k n) = some l :=
  Option.isSome_iff_exists.1 (plc_keys k (List.mem_range.2 hk) n (List.mem_range.2 hn))

/-- the sign at a place -/
def signV (k n : Nat) : Option Nat :=
  if (k = 13 ∨ k = 14 ∨ k = 15) ∧ n = 0 then some 60
  else if k = 13 ∧ n = 1 then some 44
  else if (k = 14 ∨ k = 15) ∧ n = 1 ∨ k = 13 ∧ n = 2 then some 62 else none
theorem signV_lt {k n v : Nat} (h : signV k n = some v) : k < 17 ∧ n < 4 := by
  unfold signV at h
  split at h
  · omega
  · split at h
    · omega
    · split at h
      · omega
      · cases h
def GoodE (es : Array MapEntry) : Prop := ∀ e ∈ es.toList, ∃ k n v, signV k n = some v ∧ e.key = plc k n ∧ e.val = .int .u8 (v : Int)
/-- the map of signs lies there -/
def Sg (w : World) (g : Nat) : Prop := ∃ es c, w.heap[g]? = some (.map es c) ∧ GoodE es ∧ ∀ k n v, signV k n = some v → ∃ e ∈ es.toList, e.key = plc k n
theorem GoodE.keys {es : Array MapEntry} (h : GoodE es) : ∀ e ∈ es.toList, ∃ l, keyOf Tryd.prog 57 e.key = some l := by
  intro e he
  obtain ⟨k, n, v, h1, h2, -⟩ := h e he
  rw [h2]
  exact plc_key (signV_lt h1).1 (signV_lt h1).2
theorem zero_u8 (w : World) : (zeroValue 5).run Tryd.prog w = .ok (.int .u8 0) w := by kernel_rfl

theorem look_sign {w : World} {g : Nat} (h : Sg w g) (k n : Nat) (hk : k < 17) (hn : n < 4) :
    (Instr.lookup 43 (.map (some g)) (plc k n) true).run Tryd.prog w = .ok (.tuple #[.int .u8 (((signV k n).getD 0 : Nat) : Int), .bool (signV k n).isSome]) w := by
  obtain ⟨es, c, hg, hE, hall⟩ := h
  obtain ⟨kl, hkey⟩ := plc_key hk hn
  rcases plcLaw.find w hkey es.toList hE.keys with ⟨h1, h2⟩ | ⟨j, e, h1, h2, h3⟩
  · have hs : signV k n = none := by
      cases hv : signV k n with
      | none => rfl
      | some v =>
        obtain ⟨e, he, hek⟩ := hall k n v hv
        exact absurd hek (h2 e he)
    simp [Instr.lookup, run_underlying Tryd.underlying43, MapKept.run_getObj_map hg, plcLaw.check w es.isEmpty hkey, h1, zero_u8, hs, Result.andThen]
  · obtain ⟨k', n', v, hv, hk', hval⟩ := hE e (List.mem_of_getElem? h2)
    obtain ⟨rfl, rfl⟩ := plc_inj (h3.symm.trans hk')
    simp [Instr.lookup, run_underlying Tryd.underlying43, MapKept.run_getObj_map hg, plcLaw.check w es.isEmpty hkey, h1, hval, hv, Result.andThen]

theorem put_sign {w : World} {g : Nat} {es : Array MapEntry} {c : Nat} (hg : w.heap[g]? = some (.map es c)) (hE : GoodE es) (k n v : Nat) (hv : signV k n = some v) :
    ∃ es' c', (Instr.mapUpdate 43 (.map (some g)) (plc k n) (.int .u8 (v : Int))).run Tryd.prog w = .ok () (ChangeMaps.setBlock w g (.map es' c')) ∧ GoodE es' ∧
      (∃ e ∈ es'.toList, e.key = plc k n) ∧ ∀ x ∈ es.toList, ∃ y ∈ es'.toList, y.key = x.key := by
  obtain ⟨kl, hkey⟩ := plc_key (signV_lt hv).1 (signV_lt hv).2
  rcases plcLaw.find w hkey es.toList hE.keys with ⟨h1, h2⟩ | ⟨j, e, h1, h2, h3⟩
  · refine ⟨es.push ⟨plc k n, .int .u8 (v : Int), c⟩, c + 1, ?_, ?_, ⟨⟨plc k n, .int .u8 (v : Int), c⟩, by simp, rfl⟩, fun x hx => ⟨x, by simp at hx ⊢; exact .inl hx, rfl⟩⟩
    · simp [Instr.mapUpdate, run_underlying Tryd.underlying43, MapKept.run_getObj_map hg, plcLaw.check w false hkey, h1, MapKept.run_setObj_map _ hg, Result.andThen, ChangeMaps.setBlock]
    · intro e he
      simp only [Array.toList_push, List.mem_append, List.mem_singleton] at he
      rcases he with he | rfl
      · exact hE e he
      · exact ⟨k, n, v, hv, rfl, rfl⟩
  · have hj : es[j]? = some e := by simpa using h2
    have hlist : (es.modify j (fun e' => { e' with key := plc k n, val := .int .u8 (v : Int) })).toList = es.toList.set j { e with key := plc k n, val := .int .u8 (v : Int) } := by rw [Array.toList_modify, ChangeMaps.modify_eq_set _ _ _ _ h2]
    refine ⟨es.modify j (fun e' => { e' with key := plc k n, val := .int .u8 (v : Int) }), c, ?_, ?_, ?_, ?_⟩
    · simp [Instr.mapUpdate, run_underlying Tryd.underlying43, MapKept.run_getObj_map hg, plcLaw.check w false hkey, h1, hj, h3, plcLaw.stays w hkey, MapKept.run_setObj_map _ hg, Result.andThen, ChangeMaps.setBlock]
    · intro x hx
      rw [hlist] at hx
      rcases List.mem_or_eq_of_mem_set hx with hx | rfl
      · exact hE x hx
      · exact ⟨k, n, v, hv, rfl, rfl⟩
    · have hjl : j < es.toList.length := (List.getElem?_eq_some_iff.1 h2).1
      exact ⟨_, by rw [hlist]; exact List.mem_set hjl _, rfl⟩
    · intro x hx
      obtain ⟨i, hi⟩ := List.getElem?_of_mem hx
      by_cases hij : j = i
      · subst hij
        rw [h2] at hi
        cases hi
        have hjl : j < es.toList.length := (List.getElem?_eq_some_iff.1 h2).1
        exact ⟨_, by rw [hlist]; exact List.mem_set hjl _, h3.symm⟩
      · refine ⟨x, ?_, rfl⟩
        rw [hlist]
        exact List.mem_of_getElem? (by rw [List.getElem?_set_ne hij]; exact hi)

def SgS (W : World) (ls : Array Bool) (w : World) : Prop :=
  Nx W w ∧ ((ls.getD 0 false = false ∧ w.heap.size = W.heap.size) ∨ (ls.getD 0 false = true ∧ ∃ es c, w.heap[W.heap.size]? = some (.map es c) ∧ GoodE es))
def SgR (W w w' : World) : Prop := ∀ es c, w.heap[W.heap.size]? = some (.map es c) → ∃ es' c', w'.heap[W.heap.size]? = some (.map es' c') ∧ ∀ x ∈ es.toList, ∃ y ∈ es'.toList, y.key = x.key
theorem SgR.refl (W w : World) : SgR W w w := fun es c h => ⟨es, c, h, fun x hx => ⟨x, hx, rfl⟩⟩
def SgV (W : World) (k n : Nat) (w : World) : Prop := ∃ es c, w.heap[W.heap.size]? = some (.map es c) ∧ ∃ e ∈ es.toList, e.key = plc k n
theorem SgV.keep {W w w' : World} {k n : Nat} (h : SgV W k n w) (hr : SgR W w w') : SgV W k n w' := by
  obtain ⟨es, c, hg, e, he, hk⟩ := h
  obtain ⟨es', c', hg', hall⟩ := hr es c hg
  obtain ⟨y, hy, hyk⟩ := hall e he
  exact ⟨es', c', hg', y, hy, hyk.trans hk⟩
def SgM (W w : World) : Prop := ∃ es c, w.heap[W.heap.size]? = some (.map es c)
theorem SgM.keep {W w w' : World} (h : SgM W w) (hr : SgR W w w') : SgM W w' := by
  obtain ⟨es, c, h⟩ := h
  obtain ⟨es', c', h', -⟩ := hr es c h
  exact ⟨es', c', h'⟩
/-- an entry is put in -/
theorem put_step {W w : World} {ls : Array Bool} {i : Nat} (hS : SgS W ls w) (h0 : SgM W w) (hi : i ≠ 0) (k n v : Nat) (hv : signV k n = some v) (vi : Int) (hvi : (v : Int) = vi) :
    ∃ w', (Instr.mapUpdate 43 (.map (some W.heap.size)) (plc k n) (.int .u8 vi)).run Tryd.prog w = .ok () w' ∧ SgV W k n w' ∧ SgS W (ls.setIfInBounds i true) w' ∧ SgR W w w' := by
  subst hvi
  obtain ⟨hN, h | ⟨h1, es, c, hg, hE⟩⟩ := hS
  · obtain ⟨es, c, h2⟩ := h0
    rw [← h.2, Array.getElem?_eq_none (Nat.le_refl _)] at h2; cases h2
  · obtain ⟨es', c', hrun, hE', hhas, hold⟩ := put_sign hg hE k n v hv
    have hlt : W.heap.size < w.heap.size := (Array.getElem?_eq_some_iff.1 hg).1
    have hnew : (ChangeMaps.setBlock w W.heap.size (.map es' c')).heap[W.heap.size]? = some (.map es' c') := by
      simp [ChangeMaps.setBlock, hlt]
    refine ⟨_, hrun, ⟨es', c', hnew, hhas⟩, ⟨⟨hN.os, hN.tape, hN.output, by simp [ChangeMaps.setBlock]; exact hN.size, fun b hb => ?_⟩, .inr ⟨?_, es', c', hnew, hE'⟩⟩, fun es2 c2 h2 => ?_⟩
    · simp only [ChangeMaps.setBlock]
      rw [Array.getElem?_setIfInBounds_ne (by omega)]
      exact hN.block b hb
    · rw [getD_set_ne false hi]; exact h1
    · rw [hg] at h2
      cases h2
      exact ⟨es', c', hnew, hold⟩

theorem SgS.set {W w : World} {ls : Array Bool} (h : SgS W ls w) (i : Nat) (hi : i ≠ 0) : SgS W (ls.setIfInBounds i true) w := by
  obtain ⟨h1, h2⟩ := h
  refine ⟨h1, ?_⟩
  rw [getD_set_ne false hi]
  exact h2
theorem SgS.first {W w : World} {ls : Array Bool} (h : SgS W ls w) (hz : 0 < ls.size) (hl : ls.getD 0 true = false) : w.heap.size = W.heap.size ∧ Nx W w := by
  have : ls.getD 0 false = false := by
    simp [hz] at hl ⊢; exact hl
  rcases h.2 with h2 | ⟨h2, -⟩
  · exact ⟨h2.2, h.1⟩
  · rw [this] at h2; cases h2
theorem SgS.made {W w : World} {ls : Array Bool} (hz : 0 < ls.size) (hw : w.heap.size = W.heap.size) (hn : Nx W w) : SgS W (ls.setIfInBounds 0 true) (w.alloc (.map #[] 0)) := by
  refine ⟨hn.al _, .inr ⟨by simp [hz], #[], 0, ?_, fun e he => by simp at he⟩⟩
  rw [← hw]; exact heap_alloc_new w _
theorem SgR.made {W w : World} (hw : w.heap.size = W.heap.size) : SgR W w (w.alloc (.map #[] 0)) := fun es c h => by
  rw [← hw] at h
  simp at h

set_option maxRecDepth 100000 in
set_option maxHeartbeats 1600000 in
theorem signs_any (w : World) :
    Calls Tryd.prog 22 #[] w fun e w' => e = .returned (.map (some w.heap.size)) ∧ Sg w' w.heap.size ∧ Nx w w' := by
  go_enter Tryd.func22, Tryd.ntmps22
  go_wp2_with fail
  have hmm := @run_makeMap Tryd.prog
  refine RI.wp_region_N (RI.Vof [fun v x => v = .map (some w.heap.size) ∧ SgM w x, fun v _ => v = plc 15 0, fun _ x => SgV w 15 0 x, fun v _ => v = plc 15 1, fun _ x => SgV w 15 1 x, fun v _ => v = plc 14 0, fun _ x => SgV w 14 0 x,
    fun v _ => v = plc 14 1, fun _ x => SgV w 14 1 x, fun v _ => v = plc 13 0, fun _ x => SgV w 13 0 x, fun v _ => v = plc 13 1, fun _ x => SgV w 13 1 x, fun v _ => v = plc 13 2, fun _ x => SgV w 13 2 x,
    fun v _ => v = .map (some w.heap.size), fun v _ => v = .map (some w.heap.size)]) (SgS w) (SgR w) (by kernel_rfl) (by kernel_rfl) (by kernel_rfl) ?_ ?_ ?_ ?_
  · refine RI.Vof.keeps ?_
    intro p hp v w1 w2 h1 h2
    simp only [List.mem_cons, List.not_mem_nil, or_false] at hp
    rcases hp with rfl | rfl | rfl | rfl | rfl | rfl | rfl | rfl | rfl | rfl | rfl | rfl | rfl | rfl | rfl | rfl | rfl <;> first | exact h1 | exact SgV.keep h1 h2 | exact ⟨h1.1, h1.2.keep h2⟩
  · exact ⟨Nx.drawn w, .inl ⟨rfl, rfl⟩⟩
  · refine ⟨?_, ?_, ?_, ?_, ?_, ?_, ?_, ?_, ?_, ?_, ?_, ?_, ?_, ?_, ?_, ?_, ?_, trivial⟩
    · intro a x ls w1 hS hsz hl hin hout hd K hK
      obtain ⟨hw, hn⟩ := hS.first (by rw [hsz]; decide) hl
      have h1 := hK (w1.alloc (.map #[] 0)) (.map (some w.heap.size)) ⟨rfl, _, _, by rw [← hw]; exact heap_alloc_new w1 _⟩ (SgS.made (by rw [hsz]; decide) hw hn) (SgR.made hw)
      clear hK hS hl hd hin hout hsz
      go_simp
      exact h1
    · intro a x ls w1 hS hsz hl hin hout hd K hK
      have h1 := hK w1 (plc 15 0) rfl (hS.set _ (by decide)) (SgR.refl _ _)
      clear hK hS hl hd hin hout hsz
      go_simp
      exact h1
    · intro a x ls w1 hS hsz hl hin hout hd K hK
      have hv0 := hd ⟨0, .data⟩ (by simp) rfl
      have e1 : a.tmps.getD 1 undef = .map (some w.heap.size) := (hin 1 0 (by decide) (by show 1 < 10; decide)).trans hv0.1
      have e2 : a.tmps.getD 2 undef = plc 15 0 := (hin 2 1 (by decide) (by show 2 < 10; decide)).trans (hd ⟨1, .data⟩ (by simp) rfl)
      obtain ⟨w2, hrun, hv, hS', hR⟩ := put_step (i := 2) hS hv0.2 (by decide) 15 0 60 rfl 60 rfl
      have h1 := hK w2 undef hv hS' hR
      clear hK hS hl hd hin hout hsz hv hS' hR hv0
      go_simp
      exact h1
    · intro a x ls w1 hS hsz hl hin hout hd K hK
      have h1 := hK w1 (plc 15 1) rfl (hS.set _ (by decide)) (SgR.refl _ _)
      clear hK hS hl hd hin hout hsz
      go_simp
      exact h1
    · intro a x ls w1 hS hsz hl hin hout hd K hK
      have hv0 := hd ⟨0, .data⟩ (by simp) rfl
      have e1 : a.tmps.getD 1 undef = .map (some w.heap.size) := (hin 1 0 (by decide) (by show 1 < 10; decide)).trans hv0.1
      have e2 : a.tmps.getD 3 undef = plc 15 1 := (hin 3 3 (by decide) (by show 3 < 10; decide)).trans (hd ⟨3, .data⟩ (by simp) rfl)
      obtain ⟨w2, hrun, hv, hS', hR⟩ := put_step (i := 4) hS hv0.2 (by decide) 15 1 62 rfl 62 rfl
      have h1 := hK w2 undef hv hS' hR
      clear hK hS hl hd hin hout hsz hv hS' hR hv0
      go_simp
      exact h1
    · intro a x ls w1 hS hsz hl hin hout hd K hK
      have h1 := hK w1 (plc 14 0) rfl (hS.set _ (by decide)) (SgR.refl _ _)
      clear hK hS hl hd hin hout hsz
      go_simp
      exact h1
    · intro a x ls w1 hS hsz hl hin hout hd K hK
      have hv0 := hd ⟨0, .data⟩ (by simp) rfl
      have e1 : a.tmps.getD 1 undef = .map (some w.heap.size) := (hin 1 0 (by decide) (by show 1 < 10; decide)).trans hv0.1
      have e2 : a.tmps.getD 4 undef = plc 14 0 := (hin 4 5 (by decide) (by show 4 < 10; decide)).trans (hd ⟨5, .data⟩ (by simp) rfl)
      obtain ⟨w2, hrun, hv, hS', hR⟩ := put_step (i := 6) hS hv0.2 (by decide) 14 0 60 rfl 60 rfl
      have h1 := hK w2 undef hv hS' hR
      clear hK hS hl hd hin hout hsz hv hS' hR hv0
      go_simp
      exact h1
    · intro a x ls w1 hS hsz hl hin hout hd K hK
      have h1 := hK w1 (plc 14 1) rfl (hS.set _ (by decide)) (SgR.refl _ _)
      clear hK hS hl hd hin hout hsz
      go_simp
      exact h1
    · intro a x ls w1 hS hsz hl hin hout hd K hK
      have hv0 := hd ⟨0, .data⟩ (by simp) rfl
      have e1 : a.tmps.getD 1 undef = .map (some w.heap.size) := (hin 1 0 (by decide) (by show 1 < 10; decide)).trans hv0.1
      have e2 : a.tmps.getD 5 undef = plc 14 1 := (hin 5 7 (by decide) (by show 5 < 10; decide)).trans (hd ⟨7, .data⟩ (by simp) rfl)
      obtain ⟨w2, hrun, hv, hS', hR⟩ := put_step (i := 8) hS hv0.2 (by decide) 14 1 62 rfl 62 rfl
      have h1 := hK w2 undef hv hS' hR
      clear hK hS hl hd hin hout hsz hv hS' hR hv0
      go_simp
      exact h1
    · intro a x ls w1 hS hsz hl hin hout hd K hK
      have h1 := hK w1 (plc 13 0) rfl (hS.set _ (by decide)) (SgR.refl _ _)
      clear hK hS hl hd hin hout hsz
      go_simp
      exact h1
    · intro a x ls w1 hS hsz hl hin hout hd K hK
      have hv0 := hd ⟨0, .data⟩ (by simp) rfl
      have e1 : a.tmps.getD 1 undef = .map (some w.heap.size) := (hin 1 0 (by decide) (by show 1 < 10; decide)).trans hv0.1
      have e2 : a.tmps.getD 6 undef = plc 13 0 := (hin 6 9 (by decide) (by show 6 < 10; decide)).trans (hd ⟨9, .data⟩ (by simp) rfl)
      obtain ⟨w2, hrun, hv, hS', hR⟩ := put_step (i := 10) hS hv0.2 (by decide) 13 0 60 rfl 60 rfl
      have h1 := hK w2 undef hv hS' hR
      clear hK hS hl hd hin hout hsz hv hS' hR hv0
      go_simp
      exact h1
    · intro a x ls w1 hS hsz hl hin hout hd K hK
      have h1 := hK w1 (plc 13 1) rfl (hS.set _ (by decide)) (SgR.refl _ _)
      clear hK hS hl hd hin hout hsz
      go_simp
      exact h1
    · intro a x ls w1 hS hsz hl hin hout hd K hK
      have hv0 := hd ⟨0, .data⟩ (by simp) rfl
      have e1 : a.tmps.getD 1 undef = .map (some w.heap.size) := (hin 1 0 (by decide) (by show 1 < 10; decide)).trans hv0.1
      have e2 : a.tmps.getD 7 undef = plc 13 1 := (hin 7 11 (by decide) (by show 7 < 10; decide)).trans (hd ⟨11, .data⟩ (by simp) rfl)
      obtain ⟨w2, hrun, hv, hS', hR⟩ := put_step (i := 12) hS hv0.2 (by decide) 13 1 44 rfl 44 rfl
      have h1 := hK w2 undef hv hS' hR
      clear hK hS hl hd hin hout hsz hv hS' hR hv0
      go_simp
      exact h1
    · intro a x ls w1 hS hsz hl hin hout hd K hK
      have h1 := hK w1 (plc 13 2) rfl (hS.set _ (by decide)) (SgR.refl _ _)
      clear hK hS hl hd hin hout hsz
      go_simp
      exact h1
    · intro a x ls w1 hS hsz hl hin hout hd K hK
      have hv0 := hd ⟨0, .data⟩ (by simp) rfl
      have e1 : a.tmps.getD 1 undef = .map (some w.heap.size) := (hin 1 0 (by decide) (by show 1 < 10; decide)).trans hv0.1
      have e2 : a.tmps.getD 8 undef = plc 13 2 := (hin 8 13 (by decide) (by show 8 < 10; decide)).trans (hd ⟨13, .data⟩ (by simp) rfl)
      obtain ⟨w2, hrun, hv, hS', hR⟩ := put_step (i := 14) hS hv0.2 (by decide) 13 2 62 rfl 62 rfl
      have h1 := hK w2 undef hv hS' hR
      clear hK hS hl hd hin hout hsz hv hS' hR hv0
      go_simp
      exact h1
    · intro a x ls w1 hS hsz hl hin hout hd K hK
      have hv0 := hd ⟨0, .data⟩ (by simp) rfl
      have e1 : a.tmps.getD 1 undef = .map (some w.heap.size) := (hin 1 0 (by decide) (by show 1 < 10; decide)).trans hv0.1
      have h1 := hK w1 (.map (some w.heap.size)) rfl (hS.set _ (by decide)) (SgR.refl _ _)
      clear hK hS hl hd hin hout hsz hv0
      go_simp
      exact h1
    · intro a x ls w1 hS hsz hl hin hout hd K hK
      have e1 : a.tmps.getD 9 undef = .map (some w.heap.size) := (hin 9 15 (by decide) (by show 9 < 10; decide)).trans (hd ⟨15, .data⟩ (by simp) rfl)
      have h1 := hK w1 (.map (some w.heap.size)) rfl (hS.set _ (by decide)) (SgR.refl _ _)
      clear hK hS hl hd hin hout hsz
      go_simp
      exact h1
  · intro A x ls w1 hS hall hin hout hV HA
    have e0 : A.tmps.getD 0 undef = .map (some w.heap.size) := (hin 0 16 (by decide) (by show 0 < 10; decide)).trans (hV 16 (by decide))
    have hN := hS.1
    have hSg : Sg w1 w.heap.size := by
      obtain ⟨-, h | ⟨-, es, c, hg, hE⟩⟩ := hS
      · have := hall 0 (by decide)
        rw [this] at h; cases h.1
      · refine ⟨es, c, hg, hE, ?_⟩
        have key : ∀ {k n : Nat}, SgV w k n w1 → ∃ e ∈ es.toList, e.key = plc k n := by
          intro k n ⟨es', c', hg', h⟩
          rw [hg] at hg'
          cases hg'
          exact h
        intro k n v hv
        unfold signV at hv
        have k0 := key (hV 2 (by decide))
        have k1 := key (hV 4 (by decide))
        have k2 := key (hV 6 (by decide))
        have k3 := key (hV 8 (by decide))
        have k4 := key (hV 10 (by decide))
        have k5 := key (hV 12 (by decide))
        have k6 := key (hV 14 (by decide))
        split at hv
        · rename_i h
          obtain ⟨h | h | h, rfl⟩ := h <;> subst h <;> assumption
        · split at hv
          · rename_i h
            obtain ⟨rfl, rfl⟩ := h
            assumption
          · split at hv
            · rename_i h
              obtain ⟨h | h, rfl⟩ | ⟨rfl, rfl⟩ := h
              · subst h; assumption
              · subst h; assumption
              · assumption
            · cases hv
    have hdf : A.defers = [] := by rw [HA.out]
    clear hV hall hin hout HA hS
    go_wp2_with fail
    exact bodyPost_ret (v := .map (some w.heap.size)) (by simp [results, Tryd.results22, go_sem, ← e0]) hdf ⟨rfl, hSg, hN⟩
end Go.Proofs.YtpaacfoiiihbeaaDoor
