/- The contract of read. -/
import Derived.Test.YtpaacfoiiihbeaaDoorKinH
set_option linter.unusedVariables false
set_option linter.unusedSimpArgs false
namespace Go.Proofs.YtpaacfoiiihbeaaDoor
open Go.RowKit

theorem results_2cell_tmp_row {P : Program} {fn : Func} {p q u : Tmp} {ty ty2 : TypeId} (h : fn.results = #[.cell p ty, .cell q ty2, .tmp u]) (tmps : Array Value) (w : World) (g g2 : Nat) (t t2 : TypeId) (cs cs2 : Array Value) (fr fr2 : Nat × Nat) (d d2 : TypeDesc)
    (hp : tmps.getD p undef = .pointer (some ⟨g, 0, none⟩)) (hg : w.heap[g]? = some (.cells cs t fr))
    (hu : P.underlying ty = some d) (hd : (match d with | .struct _ | .array _ _ => true | _ => false) = true) (hi : (P.info? ty).map (·.size) = some cs.size)
    (hp2 : tmps.getD q undef = .pointer (some ⟨g2, 0, none⟩)) (hg2 : w.heap[g2]? = some (.cells cs2 t2 fr2))
    (hu2 : P.underlying ty2 = some d2) (hd2 : (match d2 with | .struct _ | .array _ _ => true | _ => false) = true) (hi2 : (P.info? ty2).map (·.size) = some cs2.size) :
    (results fn tmps).run P w = .ok (.tuple #[.agg cs, .agg cs2, tmps.getD u undef]) w := by
  have hp' : tmps[p]?.getD undef = .pointer (some ⟨g, 0, none⟩) := by simpa using hp
  have hp2' : tmps[q]?.getD undef = .pointer (some ⟨g2, 0, none⟩) := by simpa using hp2
  simp [results, h, hp', hp2', asAddr, run_loadVar_row w g t ty cs fr d hg hu hd hi, run_loadVar_row w g2 t2 ty2 cs2 fr2 d2 hg2 hu2 hd2 hi2]

def headZ : Value := .agg #[.int .i64 0, .string ⟨#[]⟩, .string ⟨#[]⟩, .string ⟨#[]⟩]
def curZ : Value := .agg #[.string ⟨#[]⟩, .int .i64 0, .int .i64 0, .int .i64 0, .slice none 0 0, .map none]
def ReadR (w : World) (s : ByteArray) (l : List UInt8) (e : Ending) (w' : World) : Prop :=
  Nx w w' ∧ (((wholeT l).1 ≠ 0 ∧ e = .returned (.tuple #[headZ, curZ, .int .i64 ((wholeT l).1 : Nat)])) ∨
    ((wholeT l).1 = 0 ∧ ∃ (K : Int) (N A C : ByteArray) (o : Int) (v : Value) (sb : Nat), e = .returned (.tuple #[.agg #[.int .i64 K, .string N, .string A, .string C], .agg #[.string s, .int .i64 o, .int .i64 0, .int .i64 (depthT (wholeT l).2 : Nat), v, .map (some sb)], .int .i64 0]) ∧
      HeadIs (wholeT l).2 K N A C ∧ OwnN w' w.heap.size v (nmB (wholeT l).2)))
theorem Blk.put6 {w : World} {B g : Nat} {T : TypeId} {a0 a1 a2 a3 a4 a5 v0 v1 v2 v3 v4 v5 : Value} (h : Blk w B g #[a0, a1, a2, a3, a4, a5] T) :
    Blk ((((((w.setCell ⟨g, 0, none⟩ v0).setCell ⟨g, 1, none⟩ v1).setCell ⟨g, 2, none⟩ v2).setCell ⟨g, 3, none⟩ v3).setCell ⟨g, 4, none⟩ v4).setCell ⟨g, 5, none⟩ v5) B g #[v0, v1, v2, v3, v4, v5] T :=
  (((((h.put 0 v0).put 1 v1).put 2 v2).put 3 v3).put 4 v4).put 5 v5
theorem Blk.other4 {w : World} {B g k : Nat} {cs : Array Value} {T : TypeId} {v0 v1 v2 v3 : Value} (h : Blk w B g cs T) (hk : k ≠ g) : Blk ((((w.setCell ⟨k, 0, none⟩ v0).setCell ⟨k, 1, none⟩ v1).setCell ⟨k, 2, none⟩ v2).setCell ⟨k, 3, none⟩ v3) B g cs T :=
  (((h.other hk 0 v0).other hk 1 v1).other hk 2 v2).other hk 3 v3
theorem Blk.other6 {w : World} {B g k : Nat} {cs : Array Value} {T : TypeId} {v0 v1 v2 v3 v4 v5 : Value} (h : Blk w B g cs T) (hk : k ≠ g) : Blk ((((((w.setCell ⟨k, 0, none⟩ v0).setCell ⟨k, 1, none⟩ v1).setCell ⟨k, 2, none⟩ v2).setCell ⟨k, 3, none⟩ v3).setCell ⟨k, 4, none⟩ v4).setCell ⟨k, 5, none⟩ v5) B g cs T :=
  (((((h.other hk 0 v0).other hk 1 v1).other hk 2 v2).other hk 3 v3).other hk 4 v4).other hk 5 v5
theorem Nx.put4 {w w' : World} {g : Nat} {v0 v1 v2 v3 : Value} (h : Nx w w') (hg : w.heap.size ≤ g) : Nx w ((((w'.setCell ⟨g, 0, none⟩ v0).setCell ⟨g, 1, none⟩ v1).setCell ⟨g, 2, none⟩ v2).setCell ⟨g, 3, none⟩ v3) := (((h.put' hg 0 v0).put' hg 1 v1).put' hg 2 v2).put' hg 3 v3
theorem Nx.put6 {w w' : World} {g : Nat} {v0 v1 v2 v3 v4 v5 : Value} (h : Nx w w') (hg : w.heap.size ≤ g) : Nx w ((((((w'.setCell ⟨g, 0, none⟩ v0).setCell ⟨g, 1, none⟩ v1).setCell ⟨g, 2, none⟩ v2).setCell ⟨g, 3, none⟩ v3).setCell ⟨g, 4, none⟩ v4).setCell ⟨g, 5, none⟩ v5) :=
  (((((h.put' hg 0 v0).put' hg 1 v1).put' hg 2 v2).put' hg 3 v3).put' hg 4 v4).put' hg 5 v5

set_option maxRecDepth 100000 in
set_option maxHeartbeats 6400000 in
theorem read_any (w : World) (s : ByteArray) (l : List UInt8) (hl : Tx s l) (hs : (l.length : Int) ≤ 8000) (ht : TabK w) (hm : MaxC w) :
    Calls Tryd.prog 19 #[.string s] w (ReadR w s l) := by
  have HL := Lib.hid hl
  have HT := Lib.hid ht
  have HM := Lib.hid hm
  obtain ⟨g, hg⟩ : ∃ g, w.heap.size = g := ⟨_, rfl⟩
  have HG := Lib.hid hg
  have hB0 := Blk.new w #[.int .i64 0, .string ⟨#[]⟩, .string ⟨#[]⟩, .string ⟨#[]⟩] 42
  have hN0 : Nx w (w.alloc (Obj.cells #[.int .i64 0, .string ⟨#[]⟩, .string ⟨#[]⟩, .string ⟨#[]⟩] 42)) := nx0 _ _
  have hC0 := Blk.new (w.alloc (Obj.cells #[.int .i64 0, .string ⟨#[]⟩, .string ⟨#[]⟩, .string ⟨#[]⟩] 42)) #[.string ⟨#[]⟩, .int .i64 0, .int .i64 0, .int .i64 0, .slice none 0 0, .map none] 45
  have hB1 := hB0.alloc (.cells #[.string ⟨#[]⟩, .int .i64 0, .int .i64 0, .int .i64 0, .slice none 0 0, .map none] 45)
  have hN1 := hN0.al (.cells #[.string ⟨#[]⟩, .int .i64 0, .int .i64 0, .int .i64 0, .slice none 0 0, .map none] 45)
  have hsz : ((w.alloc (Obj.cells #[.int .i64 0, .string ⟨#[]⟩, .string ⟨#[]⟩, .string ⟨#[]⟩] 42)).alloc (.cells #[.string ⟨#[]⟩, .int .i64 0, .int .i64 0, .int .i64 0, .slice none 0 0, .map none] 45)).heap.size = g + 2 := by simp [← hg]
  have e1 : (w.alloc (Obj.cells #[.int .i64 0, .string ⟨#[]⟩, .string ⟨#[]⟩, .string ⟨#[]⟩] 42)).heap.size = g + 1 := by simp [← hg]
  rw [e1] at hC0
  rw [hg] at hB1
  obtain ⟨b, hb⟩ : ∃ b, g + 1 = b := ⟨_, rfl⟩
  rw [hb] at hC0
  have HB1 := Lib.hid hB1
  have HC0 := Lib.hid hC0
  have HN1 := Lib.hid hN1
  have HSZ := Lib.hid hsz
  have HB := Lib.hid hb
  clear hl ht hm hB0 hN0 hC0 hB1 hN1 hsz e1
  go_enter Tryd.func19, Tryd.ntmps19
  go_wp2_with fail
  generalize hW : World.alloc (World.alloc _ _) _ = w1
  rw [hW] at HB1 HC0 HN1 HSZ
  clear hW
  refine (signs_any w1).mono ?_; rintro e w2 ⟨rfl, hsg, hn2⟩
  obtain ⟨sb, hsbe⟩ : ∃ sb, w1.heap.size = sb := ⟨_, rfl⟩
  have HSZ2 : Hid (sb = g + 2) := by unfold Hid; rw [← hsbe]; exact HSZ.out
  rw [hsbe] at hsg ⊢
  have HC2 := Lib.hid (HC0.out.below hn2)
  have HB2 := Lib.hid (HB1.out.below hn2)
  have HN2 := Lib.hid (HN1.out.trans hn2)
  have HSG := Lib.hid hsg
  have HZ2 : Hid (sb < w2.heap.size) := by
    obtain ⟨es, c, h, -⟩ := hsg
    exact (Array.getElem?_eq_some_iff.1 h).1
  have cc := HC2.out.cell
  have d0 : w2.cell? ⟨b, 0, none⟩ = some (.string ⟨#[]⟩) := cc 0
  have d1 : w2.cell? ⟨b, 1, none⟩ = some (.int .i64 0) := cc 1
  have d2 : w2.cell? ⟨b, 2, none⟩ = some (.int .i64 0) := cc 2
  have d3 : w2.cell? ⟨b, 3, none⟩ = some (.int .i64 0) := cc 3
  have d4 : w2.cell? ⟨b, 4, none⟩ = some (.slice none 0 0) := cc 4
  have d5 : w2.cell? ⟨b, 5, none⟩ = some (.map none) := cc 5
  have x0 : w2.frozen? ⟨b, 0, none⟩ = false := HC2.out.free 0
  have x1 : w2.frozen? ⟨b, 1, none⟩ = false := HC2.out.free 1
  have x2 : w2.frozen? ⟨b, 2, none⟩ = false := HC2.out.free 2
  have x3 : w2.frozen? ⟨b, 3, none⟩ = false := HC2.out.free 3
  have x4 : w2.frozen? ⟨b, 4, none⟩ = false := HC2.out.free 4
  have x5 : w2.frozen? ⟨b, 5, none⟩ = false := HC2.out.free 5
  clear hsg hn2 hsbe cc hg hb
  go_wp2_with fail
  have HC3 := Lib.hid (HC2.out.put6 (v0 := .string s) (v1 := .int .i64 0) (v2 := .int .i64 0) (v3 := .int .i64 0) (v4 := .slice none 0 0) (v5 := .map (some sb)))
  have HO3 : Hid (Oth b w2 ((((((w2.setCell ⟨b, 0, none⟩ (.string s)).setCell ⟨b, 1, none⟩ (.int .i64 0)).setCell ⟨b, 2, none⟩ (.int .i64 0)).setCell ⟨b, 3, none⟩ (.int .i64 0)).setCell ⟨b, 4, none⟩ (.slice none 0 0)).setCell ⟨b, 5, none⟩ (.map (some sb)))) :=
    ((((((Oth.refl b w2).own).own).own).own).own).own
  clear d0 d1 d2 d3 d4 d5 x0 x1 x2 x3 x4 x5
  generalize ((((((w2.setCell ⟨b, 0, none⟩ (.string s)).setCell ⟨b, 1, none⟩ (.int .i64 0)).setCell ⟨b, 2, none⟩ (.int .i64 0)).setCell ⟨b, 3, none⟩ (.int .i64 0)).setCell ⟨b, 4, none⟩ (.slice none 0 0)).setCell ⟨b, 5, none⟩ (.map (some sb))) = w3 at *
  have HGl : Hid (0 < g) := by
    obtain ⟨t, fr, h⟩ := HT.out
    have := (Array.getElem?_eq_some_iff.1 h).1
    unfold Hid; rw [← HG.out]; exact this
  have HGm : Hid (1 < g) := by
    obtain ⟨m, h⟩ := HM.out
    have := World.block_lt_of_cell? w _ h
    unfold Hid; rw [← HG.out]; exact this
  have hnone : ∀ k : Nat, (Value.slice none 0 0).ownBlock ≠ some k := fun k h => by cases h
  have hF3 : Fr b (.slice none 0 0) w2 (.slice none 0 0) w3 := Fr.oth HO3.out _
  have hT2 := HT.out.nx HN2.out
  have hM2 := HM.out.nx HN2.out
  have hP3 : Pre w3 b s l 0 0 0 sb w2.heap.size (.slice none 0 0) [] := by
    have h1 := HB.out
    have h2 := HSZ2.out
    have h3 := HZ2.out
    have h4 := HGl.out
    have h5 := HGm.out
    exact { cur := ⟨Nat.zero_le _, HC3.out.2⟩, tx := HL.out, ho := Nat.zero_le _, hs := hs, own := OwnS.nil_ _ _, nsl := Nat.le_refl _, sg := hF3.sg HSG.out (by omega) (hnone _), sbB := h3, sbb := by omega,
            tab := hF3.tab hT2 (by omega) (hnone _), maxc := hF3.maxC hM2 (by omega) (hnone _), gb0 := by omega, gb1 := by omega, gB0 := by omega, gB1 := by omega, bB := by omega, le := Nat.le_refl _, dp := by omega, bz := HO3.out.size }
  have HB3 := Lib.hid (HO3.out.blk HB2.out (by have := HB.out; omega))
  have hgb : g ≠ b := by have := HB.out; omega
  have HGB := Lib.hid hgb
  have HF3 := Lib.hid hF3
  clear hnone hF3 hT2 hM2 hgb
  refine (next_all 12 w3 b s l 0 0 0 sb w2.heap.size (.slice none 0 0) [] hP3 rfl).mono ?_; rintro e w4 ⟨K, N, A, C, rfl, hh, o4, dp4, v4, hC4, hF4, hA4⟩
  have HP3 := Lib.hid hP3
  rw [List.drop_zero] at hh hA4 ⊢
  obtain ⟨P, hPe⟩ : ∃ P, Hid (parT 12 l = P) := ⟨_, rfl⟩
  rw [hPe.out] at hh hA4 ⊢
  have hWT : wholeT l = if P.1 ≠ 0 then (P.1, .bs 0) else if P.2.2 < l.length then (2, .bs 0) else (0, P.2.1) := by unfold wholeT; rw [hPe.out]
  have hnm := parT_names 12 l
  rw [hPe.out] at hnm
  have HB4 := Lib.hid (hF4.blk HB3.out HGB.out (fun h => by cases h))
  have HC4 := Lib.hid hC4
  have HF4 := Lib.hid hF4
  have HA4 := Lib.hid hA4
  have HH := Lib.hid hh
  have HWT := Lib.hid hWT
  have HNM := Lib.hid hnm
  obtain ⟨c0, c1, c2, c3, f0, f1, f2, f3⟩ := cells4 HB4.out
  obtain ⟨d0, d1, d2, d3, d4, d5, x⟩ := hC4.cells
  have x0 := x 0
  have x1 := x 1
  have x2 := x 2
  have x3 := x 3
  have x4 := x 4
  have x5 := x 5
  have hgb := HGB.out
  have hbg := Ne.symm hgb
  clear hP3 hh hC4 hF4 hA4 hWT hnm x
  by_cases hp1 : P.1 = 0
  · obtain ⟨h1, h2, h3⟩ := HA4.out hp1
    subst h1 h2
    by_cases hlt : P.2.2 < l.length
    · have hb1 : ((P.1 : Int) == 0) = true := by rw [beq_iff_eq]; omega
      have hb2 : P.2.2 < s.size := by rw [HL.out.size]; exact hlt
      have hb3 : decide (P.2.2 < s.size) = true := decide_eq_true hb2
      have HR : Hid (wholeT l = (2, .bs 0)) := by unfold Hid; rw [HWT.out, if_neg (by simpa using hp1), if_pos hlt]
      have HP1 := Lib.hid hp1
      clear hp1 hlt h3
      go_wp2_with fail
      have hN4 : Nx w w4 := HF4.out.to (HO3.out.to HN2.out (by have := HB.out; have := HG.out; omega)) (by have := HB.out; have := HG.out; omega) (fun k h => by cases h)
      have hgw : w.heap.size ≤ g := by rw [HG.out]; exact Nat.le_refl _
      have hbw : w.heap.size ≤ b := by have := HB.out; omega
      have hCz := Blk.put6 (v0 := .string ⟨#[]⟩) (v1 := .int .i64 0) (v2 := .int .i64 0) (v3 := .int .i64 0) (v4 := .slice none 0 0) (v5 := .map none) (Blk.other4 (v0 := .int .i64 0) (v1 := .string ⟨#[]⟩) (v2 := .string ⟨#[]⟩) (v3 := .string ⟨#[]⟩) (Blk.other4 (v0 := .int .i64 K) (v1 := .string N) (v2 := .string A) (v3 := .string C) HC4.out hgb) hgb)
      refine bodyPost_ret (results_2cell_tmp_row rfl _ _ g b _ _ _ _ _ _ _ _ rfl (Blk.other6 HB4.out.put4.put4 hbg).2 Tryd.underlying42 rfl (by kernel_rfl) rfl hCz.2 Tryd.underlying45 rfl (by kernel_rfl)) rfl ?_
      refine ⟨((hN4.put4 hgw).put4 hgw).put6 hbw, .inl ⟨by rw [HR.out]; decide, ?_⟩⟩
      rw [HR.out]
      rfl
    · have hb1 : ((P.1 : Int) == 0) = true := by rw [beq_iff_eq]; omega
      have hb2 : ((P.1 : Int) != 0) = false := by rw [bne_eq_false_iff_eq]; omega
      have hb4 : ¬ P.2.2 < s.size := by rw [HL.out.size]; exact hlt
      have hb3 : decide (P.2.2 < s.size) = false := decide_eq_false hb4
      have HR : Hid (wholeT l = (0, P.2.1)) := by unfold Hid; rw [HWT.out, if_neg (by simpa using hp1), if_neg hlt]
      have HP1 := Lib.hid hp1
      have H3 := Lib.hid h3
      obtain ⟨A5, q5, hv5, -, -, -⟩ := OwnS.sl strC_size h3
      obtain ⟨n5, hn5⟩ : ∃ n5, ([] ++ nmB P.2.1).length = n5 := ⟨_, rfl⟩
      rw [hn5] at hv5
      subst hv5
      clear hp1 hlt h3 hn5
      go_wp2_with fail
      go_region
      all_goals go_wp2_with fail
      have hN4 : Nx w w4 := HF4.out.to (HO3.out.to HN2.out (by have := HB.out; have := HG.out; omega)) (by have := HB.out; have := HG.out; omega) (fun k h => by cases h)
      have hgw : w.heap.size ≤ g := by rw [HG.out]; exact Nat.le_refl _
      have hbw : w.heap.size ≤ b := by have := HB.out; omega
      have hCz := Blk.put6 (v0 := .string s) (v1 := .int .i64 (P.2.2 : Int)) (v2 := .int .i64 0) (v3 := .int .i64 (depthT P.2.1 : Int)) (v4 := .slice A5 n5 q5) (v5 := .map (some sb)) (Blk.other4 (v0 := .int .i64 K) (v1 := .string N) (v2 := .string A) (v3 := .string C) (Blk.other4 (v0 := .int .i64 K) (v1 := .string N) (v2 := .string A) (v3 := .string C) HC4.out hgb) hgb)
      have hBz := Blk.other6 (v0 := .string s) (v1 := .int .i64 (P.2.2 : Int)) (v2 := .int .i64 0) (v3 := .int .i64 (depthT P.2.1 : Int)) (v4 := .slice A5 n5 q5) (v5 := .map (some sb)) (Blk.put4 (v0 := .int .i64 K) (v1 := .string N) (v2 := .string A) (v3 := .string C) (Blk.put4 (v0 := .int .i64 K) (v1 := .string N) (v2 := .string A) (v3 := .string C) HB4.out)) hbg
      refine bodyPost_ret (results_2cell_tmp_row rfl _ _ g b _ _ _ _ _ _ _ _ rfl (hBz.drew 1).2 Tryd.underlying42 rfl (by kernel_rfl) rfl (hCz.drew 1).2 Tryd.underlying45 rfl (by kernel_rfl)) rfl ?_
      have hH := HH.out HP1.out
      have hg5 : (Value.slice A5 n5 q5).ownBlock ≠ some g := H3.out.ne HB4.out (by decide)
      have hb5 : (Value.slice A5 n5 q5).ownBlock ≠ some b := fun e => by have := (H3.out.own b e).1; have := HP3.out.bB; omega
      have ho := ((((((((OwnN.set4 (v0 := .int .i64 K) (v1 := .string N) (v2 := .string A) (v3 := .string C) (OwnN.set4 (v0 := .int .i64 K) (v1 := .string N) (v2 := .string A) (v3 := .string C) H3.out hg5) hg5).set hb5 0 (.string s)).set hb5 1 (.int .i64 (P.2.2 : Int))).set hb5 2 (.int .i64 0)).set hb5 3 (.int .i64 (depthT P.2.1 : Int))).set hb5 4 (.slice A5 n5 q5)).set hb5 5 (.map (some sb))).nx ((Nx.refl _).dr 1))
      refine ⟨(((hN4.put4 hgw).put4 hgw).put6 hbw).dr 1, .inr ⟨by rw [HR.out], K, N, A, C, (P.2.2 : Int), .slice A5 n5 q5, sb, ?_, ?_, ?_⟩⟩
      · rw [HR.out]; rfl
      · rw [HR.out]; exact hH
      · rw [HR.out]
        exact OwnS.less ho (HN2.out.size)
  · have hb1 : ((P.1 : Int) == 0) = false := by rw [beq_eq_false_iff_ne]; omega
    have hb2 : ((P.1 : Int) != 0) = true := by rw [bne_iff_ne]; omega
    have HR : Hid (wholeT l = (P.1, .bs 0)) := by unfold Hid; rw [HWT.out, if_pos hp1]
    have HP1 := Lib.hid hp1
    clear hp1
    go_wp2_with fail
    have hN4 : Nx w w4 := HF4.out.to (HO3.out.to HN2.out (by have := HB.out; have := HG.out; omega)) (by have := HB.out; have := HG.out; omega) (fun k h => by cases h)
    have hgw : w.heap.size ≤ g := by rw [HG.out]; exact Nat.le_refl _
    have hbw : w.heap.size ≤ b := by have := HB.out; omega
    have hCz := Blk.put6 (v0 := .string ⟨#[]⟩) (v1 := .int .i64 0) (v2 := .int .i64 0) (v3 := .int .i64 0) (v4 := .slice none 0 0) (v5 := .map none) (Blk.other4 (v0 := .int .i64 0) (v1 := .string ⟨#[]⟩) (v2 := .string ⟨#[]⟩) (v3 := .string ⟨#[]⟩) (Blk.other4 (v0 := .int .i64 K) (v1 := .string N) (v2 := .string A) (v3 := .string C) HC4.out hgb) hgb)
    refine bodyPost_ret (results_2cell_tmp_row rfl _ _ g b _ _ _ _ _ _ _ _ rfl (Blk.other6 HB4.out.put4.put4 hbg).2 Tryd.underlying42 rfl (by kernel_rfl) rfl hCz.2 Tryd.underlying45 rfl (by kernel_rfl)) rfl ?_
    refine ⟨((hN4.put4 hgw).put4 hgw).put6 hbw, .inl ⟨by rw [HR.out]; exact HP1.out, ?_⟩⟩
    rw [HR.out]
    rfl
end Go.Proofs.YtpaacfoiiihbeaaDoor
