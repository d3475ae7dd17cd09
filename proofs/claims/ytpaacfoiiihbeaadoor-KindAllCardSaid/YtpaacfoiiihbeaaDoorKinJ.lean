/- The contracts of Head, May, Depth, Wire. -/
import Derived.Test.YtpaacfoiiihbeaaDoorKinI
set_option linter.unusedVariables false
set_option linter.unusedSimpArgs false
namespace Go.Proofs.YtpaacfoiiihbeaaDoor
open Go.RowKit

/-- the head of a text -/
def headW (l : List UInt8) : Nat × List UInt8 × List UInt8 × List UInt8 := if (wholeT l).1 ≠ 0 then (0, [], [], []) else headT (wholeT l).2
def bA (l : List UInt8) : ByteArray := ⟨l.toArray⟩
theorem bA_tx {s : ByteArray} {l : List UInt8} (h : Tx s l) : s = bA l := h.eq
/-- what read hands back, in one form -/
theorem ReadR.form {w w' : World} {s : ByteArray} {l : List UInt8} {e : Ending} (h : ReadR w s l e w') : ∃ (o D : Int) (T : ByteArray) (v : Value) (m : Option Nat),
    e = .returned (.tuple #[.agg #[.int .i64 ((headW l).1 : Nat), .string (bA (headW l).2.1), .string (bA (headW l).2.2.1), .string (bA (headW l).2.2.2)], .agg #[.string T, .int .i64 o, .int .i64 0, .int .i64 D, v, .map m], .int .i64 ((wholeT l).1 : Nat)]) ∧
    D = ((if (wholeT l).1 ≠ 0 then 0 else depthT (wholeT l).2 : Nat) : Int) ∧ OwnN w' w.heap.size v (if (wholeT l).1 ≠ 0 then [] else nmB (wholeT l).2) ∧ Nx w w' ∧ ∃ A n c, v = .slice A n c := by
  obtain ⟨hn, ⟨h1, rfl⟩ | ⟨h1, K, N, A, C, o, v, sb, rfl, hh, ho⟩⟩ := h
  · refine ⟨0, 0, ⟨#[]⟩, .slice none 0 0, none, ?_, by rw [if_pos h1]; rfl, by rw [if_pos h1]; exact OwnS.nil_ _ _, hn, _, _, _, rfl⟩
    unfold headW
    rw [if_pos h1]
    rfl
  · obtain ⟨hK, hN, hA, hC⟩ := hh
    obtain ⟨A5, q5, hv5, -, -, -⟩ := OwnS.sl strC_size ho
    refine ⟨o, _, s, v, some sb, ?_, rfl, by rw [if_neg (by simpa using h1)]; exact ho, hn, _, _, _, hv5⟩
    unfold headW
    rw [if_neg (by simpa using h1), if_neg (by simpa using h1), h1, hK, bA_tx hN, bA_tx hA, bA_tx hC]
    rfl

set_option maxRecDepth 100000 in
set_option maxHeartbeats 6400000 in
theorem head_any (w : World) (s : ByteArray) (l : List UInt8) (hl : Tx s l) (hs : (l.length : Int) ≤ 8000) (ht : TabK w) (hm : MaxC w) :
    Calls Tryd.prog 9 #[.string s] w fun e w' => e = .returned (.tuple #[.int .i64 ((headW l).1 : Nat), .string (bA (headW l).2.1), .string (bA (headW l).2.2.1), .string (bA (headW l).2.2.2), .int .i64 ((wholeT l).1 : Nat)]) ∧ Nx w w' := by
  have HR := Lib.hid (read_any w s l hl hs ht hm)
  obtain ⟨H, HH⟩ : ∃ H, Hid (headW l = H) := ⟨_, rfl⟩
  obtain ⟨W, HW⟩ : ∃ W, Hid (wholeT l = W) := ⟨_, rfl⟩
  rw [HH.out, HW.out]
  obtain ⟨hk, hN, hA, hC⟩ := H
  dsimp only
  obtain ⟨N, HN0⟩ : ∃ N, Hid (bA hN = N) := ⟨_, rfl⟩
  obtain ⟨A1, HA0⟩ : ∃ N, Hid (bA hA = N) := ⟨_, rfl⟩
  obtain ⟨C, HC0⟩ : ∃ N, Hid (bA hC = N) := ⟨_, rfl⟩
  rw [HN0.out, HA0.out, HC0.out]
  clear hl ht hm
  go_enter Tryd.func9, Tryd.ntmps9
  go_wp2_with fail
  refine HR.out.mono ?_; rintro e w1 hr
  obtain ⟨o, D, T, v, m, he, hD, hown, hn, A, n, c, rfl⟩ := hr.form
  rw [HH.out, HW.out] at he
  dsimp only at he
  rw [HN0.out, HA0.out, HC0.out] at he
  subst he
  obtain ⟨g, hg⟩ : ∃ g, w1.heap.size = g := ⟨_, rfl⟩
  have HG := Lib.hid hg
  clear hr hD hown
  have HN := Lib.hid hn
  clear hn
  dsimp only
  go_wp2_with fail
  have hB1 := (Blk.new w1 #[.int .i64 (hk : Int), .string N, .string A1, .string C] 42).alloc (.cells #[.string T, .int .i64 o, .int .i64 0, .int .i64 D, .slice A n c, .map m] 45)
  have hN1 := ((Nx.refl w1).al (.cells #[.int .i64 (hk : Int), .string N, .string A1, .string C] 42)).al (.cells #[.string T, .int .i64 o, .int .i64 0, .int .i64 D, .slice A n c, .map m] 45)
  rw [hg] at hB1
  generalize World.alloc (World.alloc _ _) _ = w2 at *
  have HN2 : Hid (Nx w w2) := HN.out.trans hN1
  have L0 : ∀ x : Gr w2, x.1.cell? ⟨g, 0, none⟩ = some (.int .i64 (hk : Int)) := fun x => (hB1.below x.2).cell 0
  have L1 : ∀ x : Gr w2, x.1.cell? ⟨g, 1, none⟩ = some (.string N) := fun x => (hB1.below x.2).cell 1
  have L2 : ∀ x : Gr w2, x.1.cell? ⟨g, 2, none⟩ = some (.string A1) := fun x => (hB1.below x.2).cell 2
  have L3 : ∀ x : Gr w2, x.1.cell? ⟨g, 3, none⟩ = some (.string C) := fun x => (hB1.below x.2).cell 3
  clear hN1 hB1
  refine wp_region_hyb [(0, true), (1, true), (2, true), (3, true), (5, true), (6, true), (7, true), (9, true), (10, true), (11, true), (13, true), (4, false), (8, false), (12, false), (14, true), (15, true), (16, true), (17, true), (18, true)] rfl (by kernel_rfl) ?_
  iterate 11 (refine hyb_calm rfl (fun K hK => ?_); go_simp; refine hK _ ?_; clear hK K)
  clear L0 L1 L2 L3
  refine hyb_alone rfl (fun w3 hn3 K hK => ?_)
  go_simp
  refine (fresh_any N _).mono ?_; rintro e w4 ⟨rfl, hw4⟩
  refine hK _ _ hw4 ?_
  clear hK K
  refine hyb_alone rfl (fun w5 hn5 K hK => ?_)
  go_simp
  refine (fresh_any A1 _).mono ?_; rintro e w6 ⟨rfl, hw6⟩
  refine hK _ _ hw6 ?_
  clear hK K
  refine hyb_alone rfl (fun w7 hn7 K hK => ?_)
  go_simp
  refine (fresh_any C _).mono ?_; rintro e w8 ⟨rfl, hw8⟩
  refine hK _ _ hw8 ?_
  clear hK K
  iterate 5 (refine hyb_calm rfl (fun K hK => ?_); go_simp; refine hK _ ?_; clear hK K)
  refine hyb_nil (fun w9 hn9 => ?_)
  have hN9 : Nx w w9 := HN2.out.trans (hn3.trans (hw4.trans (hn5.trans (hw6.trans (hn7.trans (hw8.trans hn9))))))
  go_wp2_with fail
  exact bodyPost_ret (v := .tuple #[.int .i64 (hk : Int), .string N, .string A1, .string C, .int .i64 (W.1 : Int)]) (by simp [results, Tryd.results9, go_sem]) rfl ⟨rfl, hN9⟩

set_option maxRecDepth 100000 in
set_option maxHeartbeats 6400000 in
theorem may_any (w : World) (s : ByteArray) (l : List UInt8) (hl : Tx s l) (hs : (l.length : Int) ≤ 8000) (ht : TabK w) (hm : MaxC w) :
    Calls Tryd.prog 13 #[.string s] w fun e w' => e = .returned (.bool (decide ((wholeT l).1 = 0))) ∧ Nx w w' := by
  have HR := Lib.hid (read_any w s l hl hs ht hm)
  obtain ⟨W, HW⟩ : ∃ W, Hid ((wholeT l).1 = W) := ⟨_, rfl⟩
  rw [HW.out]
  have hb : decide (W = 0) = ((W : Int) == 0) := by rw [Bool.eq_iff_iff]; simp
  obtain ⟨B, hb2⟩ : ∃ B, ((W : Int) == 0) = B := ⟨_, rfl⟩
  rw [hb, hb2]
  clear hl ht hm hb
  go_enter Tryd.func13, Tryd.ntmps13
  go_wp2_with fail
  refine HR.out.mono ?_; rintro e w1 hr
  obtain ⟨o, D, T, v, m, he, hD, hown, hn, A, n, c, rfl⟩ := hr.form
  rw [HW.out] at he
  subst he
  clear hr hD hown
  have hN1 := Lib.hid (fun a b => (hn.al a).al b)
  clear hn
  obtain ⟨g, hg⟩ : ∃ g, w1.heap.size = g := ⟨_, rfl⟩
  cases B
  · go_wp2_with fail
    go_ret
    exact ⟨rfl, hN1.out _ _⟩
  · go_wp2_with fail
    go_ret
    exact ⟨rfl, hN1.out _ _⟩

set_option maxRecDepth 100000 in
set_option maxHeartbeats 6400000 in
theorem depth_any (w : World) (s : ByteArray) (l : List UInt8) (hl : Tx s l) (hs : (l.length : Int) ≤ 8000) (ht : TabK w) (hm : MaxC w) :
    Calls Tryd.prog 14 #[.string s] w fun e w' => e = .returned (.int .i64 ((if (wholeT l).1 ≠ 0 then 0 else depthT (wholeT l).2 : Nat) : Int)) ∧ Nx w w' := by
  have HR := Lib.hid (read_any w s l hl hs ht hm)
  obtain ⟨E, HE⟩ : ∃ E, Hid ((if (wholeT l).1 ≠ 0 then 0 else depthT (wholeT l).2) = E) := ⟨_, rfl⟩
  rw [HE.out]
  clear hl ht hm
  go_enter Tryd.func14, Tryd.ntmps14
  go_wp2_with fail
  refine HR.out.mono ?_; rintro e w1 hr
  obtain ⟨o, D, T, v, m, he, hD, hown, hn, A, n, c, rfl⟩ := hr.form
  rw [HE.out] at hD
  subst he hD
  clear hr hown
  have hN1 := Lib.hid (fun a b => (hn.al a).al b)
  clear hn
  obtain ⟨g, hg⟩ : ∃ g, w1.heap.size = g := ⟨_, rfl⟩
  go_wp2_with fail
  go_ret
  exact ⟨rfl, hN1.out _ _⟩

/-- the kind on the wire -/
def wireS (k : Int) : Int := if k = 16 then 11 else if k = 17 then 8 else if k = 2 ∨ k = 3 ∨ k = 4 ∨ k = 6 ∨ k = 8 ∨ k = 10 ∨ k = 11 ∨ k = 12 ∨ k = 13 ∨ k = 14 ∨ k = 15 then k else 0
set_option maxRecDepth 100000 in
set_option maxHeartbeats 6400000 in
theorem wire_any (k : Int) (w : World) :
    Calls Tryd.prog 16 #[.int .i64 k] w fun e w' => e = .returned (.int .i64 (wireS k)) ∧ w' = w := by
  go_enter Tryd.func16, Tryd.ntmps16
  go_wp2_with fail
  all_goals
    go_ret
    refine ⟨congrArg (fun z => Ending.returned (Value.int .i64 z)) ?_, rfl⟩
    simp only [beq_iff_eq, beq_eq_false_iff_ne, ne_eq] at *
    unfold wireS
    repeat' split
    all_goals omega
end Go.Proofs.YtpaacfoiiihbeaaDoor
