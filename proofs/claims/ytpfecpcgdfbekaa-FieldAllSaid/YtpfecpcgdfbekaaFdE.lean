/- Two maps of what fields have; (field.taken).take. -/
import Derived.Test.YtpfecpcgdfbekaaFdD
import Derived.Test.YtpfecpcgdfbekaaMapG
set_option linter.unusedVariables false
set_option linter.unusedSimpArgs false
namespace Go.Proofs.Ytpfecpcgdfbekaa
open Go.RowKit

def st (l : List UInt8) : Value := .string ⟨l.toArray⟩
def okI (k : Int) : Prop := -100000 ≤ k ∧ k ≤ 100000
def okN (k : List UInt8) : Prop := k.length ≤ maxLen
theorem mapI : MapL 48 3 3 iv iv okI 0 where
  und := Try.underlying48
  law := Maps.int_keyed Try.underlying3
  key := fun k h => by
    have hwf : (Lit.int .i64 k).wf = true := by
      have a1 : IntKind.i64.min = -9223372036854775808 := by decide
      have a2 : IntKind.i64.max = 9223372036854775807 := by decide
      unfold okI at h
      simp only [Lit.wf, a1, a2, Bool.and_eq_true, decide_eq_true_eq]; omega
    exact ⟨.int .i64 k, Maps.keyOf_int_mk Try.underlying3 hwf⟩
  inj := fun a b h => by unfold iv at h; simpa using h
  zero := fun w => by kernel_rfl
theorem mapN : MapL 49 9 3 st iv okN 0 where
  und := Try.underlying49
  law := Maps.string_keyed Try.underlying9
  key := fun k h => ⟨.string k, Go.WideMaps.keyOf_string_mk (P := Try.prog) Try.underlying9 (s := ⟨k.toArray⟩) (by show k.toArray.size ≤ maxLen; unfold okN at h; simpa using h)⟩
  inj := fun a b h => by unfold st at h; simpa using h
  zero := fun w => by kernel_rfl
/-- each once -/
def once {α : Type} (l : List α) : List (α × Int) := l.map fun x => (x, 1)
theorem once_get {α : Type} [DecidableEq α] (l : List α) (x : α) : (getG (once l) x).getD 0 = if x ∈ l then 1 else 0 := by
  induction l with
  | nil => rfl
  | cons y r ih =>
    unfold once at ih ⊢
    simp only [List.map_cons]
    unfold getG
    by_cases h : y = x
    · subst h; simp
    · simp only [h, if_false, List.mem_cons]
      rw [ih]
      have : x ≠ y := fun e => h e.symm
      simp [this]
theorem once_put {α : Type} [DecidableEq α] (l : List α) (x : α) (h : x ∉ l) : putG (once l) x 1 = once (l ++ [x]) := by
  rw [putG_none]
  · simp [once]
  · intro y hy e
    obtain ⟨z, hz, rfl⟩ := List.mem_map.1 hy
    exact h (e ▸ hz)
theorem getG_put {α ν : Type} [DecidableEq α] : ∀ (m : List (α × ν)) (x : α) (v : ν), getG (putG m x v) x = some v
  | [], x, v => by simp [putG, getG]
  | y :: r, x, v => by
    unfold putG
    by_cases h : y.1 = x
    · rw [if_pos h]; simp [getG]
    · rw [if_neg h]; unfold getG; rw [if_neg h]; exact getG_put r x v
/-- what lay ahead of a place, and behind another one, lies -/
structure FrW (W B : Nat) (w w' : World) : Prop where
  os : w'.os = w.os
  tape : w'.tape = w.tape
  output : w'.output = w.output
  size : w.heap.size ≤ w'.heap.size
  block : ∀ k, k < w.heap.size → (k < W ∨ B ≤ k) → w'.heap[k]? = w.heap[k]?
theorem FrW.refl (W B : Nat) (w : World) : FrW W B w w := ⟨rfl, rfl, rfl, Nat.le_refl _, fun _ _ _ => rfl⟩
theorem FrW.trans {W B : Nat} {x y z : World} (h : FrW W B x y) (k : FrW W B y z) : FrW W B x z :=
  ⟨k.os.trans h.os, k.tape.trans h.tape, k.output.trans h.output, Nat.le_trans h.size k.size, fun i hi hb => (k.block i (Nat.lt_of_lt_of_le hi h.size) hb).trans (h.block i hi hb)⟩
theorem FrW.nx {W B : Nat} {w w' : World} (h : Nx w w') : FrW W B w w' := ⟨h.os, h.tape, h.output, h.size, fun k hk _ => h.block k hk⟩
theorem FrW.oth {W B g : Nat} {w w' : World} (h : Oth g w w') (h1 : W ≤ g) (h2 : g < B) : FrW W B w w' := ⟨h.os, h.tape, h.output, h.size, fun k hk hb => h.block k hk (by omega)⟩
theorem FrW.to {W B : Nat} {w0 w w' : World} (h : FrW W B w w') (hn : Nx w0 w) (hW : w0.heap.size ≤ W) : Nx w0 w' :=
  ⟨h.os.trans hn.os, h.tape.trans hn.tape, h.output.trans hn.output, Nat.le_trans hn.size h.size, fun k hk => (h.block k (Nat.lt_of_lt_of_le hk hn.size) (.inl (by omega))).trans (hn.block k hk)⟩
theorem FrW.blk {W B : Nat} {w w' : World} {b g : Nat} {cs : Array Value} {T : TypeId} (h : FrW W B w w') (k : Blk w b g cs T) (hg : B ≤ g) : Blk w' b g cs T :=
  ⟨k.1, by rw [h.block g k.lt (.inr hg)]; exact k.2⟩
theorem FrW.own {α : Type} {f : α → Value} {e : TypeId} {W B : Nat} {w w' : World} {v : Value} {xs : List α} {b : Nat} (h : FrW W B w w') (k : Own f e w b v xs) (hb : B ≤ b) : Own f e w' b v xs := by
  obtain ⟨h1, h2⟩ := k
  refine ⟨h1, ?_⟩
  rcases h2 with h2 | ⟨g, cap, cur, hv, hg, hh, r⟩
  · exact .inl h2
  · refine .inr ⟨g, cap, cur, hv, hg, ?_, r⟩
    rw [h.block g ?_ (.inr (by omega))]; exact hh
    rcases Nat.lt_or_ge g w.heap.size with h | h
    · exact h
    · rw [Array.getElem?_eq_none h] at hh; cases hh
theorem FrW.bel {W B b : Nat} {x y z : World} (h : FrW W B x y) (k : Below b y z) (hb : x.heap.size ≤ b) : FrW W B x z :=
  ⟨k.os.trans h.os, k.tape.trans h.tape, k.output.trans h.output, Nat.le_trans h.size k.size, fun i hi hc => (k.block i (by omega)).trans (h.block i hi hc)⟩
theorem setB_oth (w : World) (g : Nat) (o : Obj) : Oth g w (ChangeMaps.setBlock w g o) := ⟨rfl, rfl, rfl, by simp [ChangeMaps.setBlock], fun k hk hb => setBlock_keep hb⟩
/-- what take leaves -/
def TakeR (W B gi gn : Nat) (ids : List Int) (ns : List (List UInt8)) (id : Int) (nm : List UInt8) (w : World) (e : Ending) (w' : World) : Prop :=
  FrW W B w w' ∧ ((id ∈ ids ∨ nm ∈ ns) ∧ e = .returned (.bool false) ∨ (¬ (id ∈ ids ∨ nm ∈ ns)) ∧ e = .returned (.bool true) ∧ MpG iv iv okI w' gi (once (ids ++ [id])) ∧ MpG st iv okN w' gn (once (ns ++ [nm])))
set_option maxRecDepth 100000 in
set_option maxHeartbeats 3200000 in
theorem take_any (w : World) (W B gi gn : Nat) (ids : List Int) (ns : List (List UInt8)) (id : Int) (nm : List UInt8) (hi : MpG iv iv okI w gi (once ids)) (hs : MpG st iv okN w gn (once ns)) (h1 : W ≤ gi) (h2 : gi < gn) (h3 : gn < B) (hB : B ≤ w.heap.size) (hid : okI id) (hnm : okN nm) :
    Calls Try.prog 13 #[.agg #[.map (some gi), .map (some gn)], .int .i64 id, .string ⟨nm.toArray⟩] w fun e w' => TakeR W B gi gn ids ns id nm w e w' := by
  obtain ⟨g0, hg0⟩ : ∃ g, w.heap.size = g := ⟨_, rfl⟩
  obtain ⟨w1, hw1⟩ : ∃ w1, w.alloc (.cells #[.map (some gi), .map (some gn)] 51) = w1 := ⟨_, rfl⟩
  have hn1 : Nx w w1 := by rw [← hw1]; exact nx0 w _
  have hb1 : Blk w1 g0 g0 #[.map (some gi), .map (some gn)] 51 := by rw [← hw1, ← hg0]; exact Blk.new w _ _
  have hi1 := hi.nx hn1
  have hs1 := hs.nx hn1
  -- the number's map
  have lk1 := (mapI.look hi1 id hid).1
  obtain ⟨V1, hV1⟩ : ∃ V, (getG (once ids) id).getD 0 = V := ⟨_, rfl⟩
  rw [hV1] at lk1
  obtain ⟨o1, pt1, hi2⟩ := mapI.put hi1 id (V1 + 1) hid
  have hs2 := hs1.keep (w' := ChangeMaps.setBlock w1 gi o1) (setBlock_keep (by omega))
  have ho1 : Oth gi w1 (ChangeMaps.setBlock w1 gi o1) := setB_oth _ _ _
  have hb2 := ho1.blk hb1 (by omega)
  generalize ChangeMaps.setBlock w1 gi o1 = w2 at *
  -- the name's map
  have lk2 := (mapN.look hs2 nm hnm).1
  obtain ⟨V2, hV2⟩ : ∃ V, (getG (once ns) nm).getD 0 = V := ⟨_, rfl⟩
  rw [hV2] at lk2
  obtain ⟨o2, pt2, hs3⟩ := mapN.put hs2 nm (V2 + 1) hnm
  have hi3 := hi2.keep (w' := ChangeMaps.setBlock w2 gn o2) (setBlock_keep (by omega))
  have ho2 : Oth gn w2 (ChangeMaps.setBlock w2 gn o2) := setB_oth _ _ _
  have hb3 := ho2.blk hb2 (by omega)
  generalize ChangeMaps.setBlock w2 gn o2 = w3 at *
  have lk3 := (mapI.look hi3 id hid).1
  have lk4 := (mapN.look hs3 nm hnm).1
  rw [getG_put] at lk3 lk4
  simp only [iv, st] at lk1 lk2 lk3 lk4 pt1 pt2
  simp only [Option.getD_some] at lk3 lk4
  rw [once_get] at hV1 hV2
  have v1 : V1 = 0 ∨ V1 = 1 := by split at hV1 <;> omega
  have v2 : V2 = 0 ∨ V2 = 1 := by split at hV2 <;> omega
  have HF : Hid (FrW W B w w3) := ((FrW.nx hn1).trans (FrW.oth ho1 h1 (by omega))).trans (FrW.oth ho2 (by omega) h3)
  have HI3 := Lib.hid hi3
  have HS3 := Lib.hid hs3
  have HV1 := Lib.hid hV1
  have HV2 := Lib.hid hV2
  have a0 : w1.cell? ⟨g0, 0, none⟩ = some (.map (some gi)) := hb1.cell 0
  have a1 : w2.cell? ⟨g0, 1, none⟩ = some (.map (some gn)) := hb2.cell 1
  have a2 : w3.cell? ⟨g0, 0, none⟩ = some (.map (some gi)) := hb3.cell 0
  have a3 : w3.cell? ⟨g0, 1, none⟩ = some (.map (some gn)) := hb3.cell 1
  clear hb1 hb2 hb3 hi hs hi1 hs1 hi2 hs2 hi3 hs3 ho1 ho2 hn1 hV1 hV2
  have e1 : V1 + 1 = 1 ∨ V1 + 1 = 2 := by omega
  have e2 : V2 + 1 = 1 ∨ V2 + 1 = 2 := by omega
  by_cases m1 : id ∈ ids
  · obtain rfl : V1 = 1 := by rw [← HV1.out, if_pos m1]
    have HM := Lib.hid m1
    clear m1 v1 e1
    simp only [Int.reduceAdd] at pt1 lk3
    obtain ⟨U, hU⟩ : ∃ U, V2 + 1 = U := ⟨_, rfl⟩
    have hw : IntKind.i64.wrap U = U := by rw [IntKind.wrap_i64]; omega
    rw [hU] at pt2 lk4
    clear v2 e2
    go_enter Try.func13, Try.ntmps13
    go_wp2_with fail
    go_ret
    exact ⟨HF.out, .inl ⟨.inl HM.out, rfl⟩⟩
  · obtain rfl : V1 = 0 := by rw [← HV1.out, if_neg m1]
    have HM := Lib.hid m1
    clear m1 v1 e1
    simp only [Int.reduceAdd] at pt1 lk3
    by_cases m2 : nm ∈ ns
    · obtain rfl : V2 = 1 := by rw [← HV2.out, if_pos m2]
      have HM2 := Lib.hid m2
      clear m2 v2 e2
      simp only [Int.reduceAdd] at pt2 lk4
      go_enter Try.func13, Try.ntmps13
      go_wp2_with fail
      go_ret
      exact ⟨HF.out, .inl ⟨.inr HM2.out, rfl⟩⟩
    · obtain rfl : V2 = 0 := by rw [← HV2.out, if_neg m2]
      have HM2 := Lib.hid m2
      clear m2 v2 e2
      simp only [Int.reduceAdd] at pt2 lk4
      go_enter Try.func13, Try.ntmps13
      go_wp2_with fail
      go_ret
      have hi := HI3.out
      have hs := HS3.out
      rw [show (0 : Int) + 1 = 1 from rfl, once_put _ _ HM.out] at hi
      rw [show (0 : Int) + 1 = 1 from rfl, once_put _ _ HM2.out] at hs
      exact ⟨HF.out, .inr ⟨fun h => h.elim HM.out HM2.out, rfl, hi, hs⟩⟩
end Go.Proofs.Ytpfecpcgdfbekaa
