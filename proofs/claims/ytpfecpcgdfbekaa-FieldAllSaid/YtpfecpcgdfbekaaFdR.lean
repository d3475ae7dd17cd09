/- A list put together out of three parts, in whatever order that may be done. Plain lemmas. -/
import Derived.Test.YtpfecpcgdfbekaaFdD
import Derived.Test.YtpfecpcgdfbekaaRegY
set_option linter.unusedVariables false
set_option linter.unusedSimpArgs false
namespace Go.Proofs.Ytpfecpcgdfbekaa
open Go.RowKit

def updF (q : Nat → Bool) (i : Nat) : Nat → Bool := fun j => if j = i then true else q j
theorem getD_updF {ls : Array Bool} {i : Nat} (h : i < ls.size) : (fun j => (ls.setIfInBounds i true).getD j false) = updF (fun j => ls.getD j false) i := by
  funext j
  unfold updF
  by_cases hj : j = i
  · subst hj; rw [if_pos rfl]; simp [h]
  · rw [if_neg hj, getD_set_ne false (Ne.symm hj)]
def TI : TypeId := 3
/-- what has been carried out of 'append(append(append(nothing, o[:k]..), i), o[k:]..)' -/
structure OrV (v3 : Value) (k i : Nat) (o : List Nat) (W : World) (q : Nat → Bool) (x : Nat → Value) (w : World) (cv : Value) (ct : List Nat) : Prop where
  nx : Nx W w
  ob : Own nv 3 w W.heap.size cv ct
  y1 : q 1 = true → x 1 = v3
  y2 : q 2 = true → x 2 = .int .i64 (k : Int)
  y3 : q 3 = true → ∃ A c, x 3 = .slice A (o.take k).length c ∧ Rd nv W A (o.take k)
  y5 : q 5 = true → x 5 = .int .i64 (i : Int)
  y6 : q 6 = true → q 7 = false → ∃ g, x 6 = .slice (some ⟨g, 0, none⟩) 1 1 ∧ Blk w g g #[nv i] 3 ∧ cv.ownBlock ≠ some g ∧ W.heap.size ≤ g
  y8 : q 8 = true → x 8 = v3
  y9 : q 9 = true → x 9 = .int .i64 (k : Int)
  y10 : q 10 = true → ∃ A c, x 10 = .slice A (o.drop k).length c ∧ Rd nv W A (o.drop k)
  n0 : q 0 = false → cv = .slice none 0 0 ∧ ct = []
  o0 : q 0 = true → q 4 = false → cv = x 0 ∧ ct = []
  o4 : q 4 = true → q 7 = false → cv = x 4 ∧ ct = o.take k
  o7 : q 7 = true → q 11 = false → cv = x 7 ∧ ct = o.take k ++ [i]
  o11 : q 11 = true → cv = x 11 ∧ ct = o.take k ++ [i] ++ o.drop k
  y12 : q 12 = false → x 12 = v3
  z12 : q 12 = true → x 12 = x 11
section
variable {v3 : Value} {k i : Nat} {o : List Nat} {W : World} {q : Nat → Bool} {x : Nat → Value} {w w' : World} {cv cv' : Value} {ct : List Nat}
theorem OrV.set1 (h : OrV v3 k i o W q x w cv ct) : OrV v3 k i o W (updF q 1) (RI.upd x 1 v3) w cv ct where
  nx := h.nx
  ob := h.ob
  y1 := fun _ => RI.upd_same _ _ _
  y2 := by simpa [RI.upd, updF] using h.y2
  y3 := by simpa [RI.upd, updF] using h.y3
  y5 := by simpa [RI.upd, updF] using h.y5
  y6 := by simpa [RI.upd, updF] using h.y6
  y8 := by simpa [RI.upd, updF] using h.y8
  y9 := by simpa [RI.upd, updF] using h.y9
  y10 := by simpa [RI.upd, updF] using h.y10
  n0 := by simpa [RI.upd, updF] using h.n0
  o0 := by simpa [RI.upd, updF] using h.o0
  o4 := by simpa [RI.upd, updF] using h.o4
  o7 := by simpa [RI.upd, updF] using h.o7
  o11 := by simpa [RI.upd, updF] using h.o11
  y12 := by simpa [RI.upd, updF] using h.y12
  z12 := by simpa [RI.upd, updF] using h.z12
theorem OrV.set8 (h : OrV v3 k i o W q x w cv ct) : OrV v3 k i o W (updF q 8) (RI.upd x 8 v3) w cv ct where
  nx := h.nx
  ob := h.ob
  y1 := by simpa [RI.upd, updF] using h.y1
  y2 := by simpa [RI.upd, updF] using h.y2
  y3 := by simpa [RI.upd, updF] using h.y3
  y5 := by simpa [RI.upd, updF] using h.y5
  y6 := by simpa [RI.upd, updF] using h.y6
  y8 := fun _ => RI.upd_same _ _ _
  y9 := by simpa [RI.upd, updF] using h.y9
  y10 := by simpa [RI.upd, updF] using h.y10
  n0 := by simpa [RI.upd, updF] using h.n0
  o0 := by simpa [RI.upd, updF] using h.o0
  o4 := by simpa [RI.upd, updF] using h.o4
  o7 := by simpa [RI.upd, updF] using h.o7
  o11 := by simpa [RI.upd, updF] using h.o11
  y12 := by simpa [RI.upd, updF] using h.y12
  z12 := by simpa [RI.upd, updF] using h.z12
theorem OrV.set2 (h : OrV v3 k i o W q x w cv ct) : OrV v3 k i o W (updF q 2) (RI.upd x 2 (.int .i64 (k : Int))) w cv ct where
  nx := h.nx
  ob := h.ob
  y1 := by simpa [RI.upd, updF] using h.y1
  y2 := fun _ => RI.upd_same _ _ _
  y3 := by simpa [RI.upd, updF] using h.y3
  y5 := by simpa [RI.upd, updF] using h.y5
  y6 := by simpa [RI.upd, updF] using h.y6
  y8 := by simpa [RI.upd, updF] using h.y8
  y9 := by simpa [RI.upd, updF] using h.y9
  y10 := by simpa [RI.upd, updF] using h.y10
  n0 := by simpa [RI.upd, updF] using h.n0
  o0 := by simpa [RI.upd, updF] using h.o0
  o4 := by simpa [RI.upd, updF] using h.o4
  o7 := by simpa [RI.upd, updF] using h.o7
  o11 := by simpa [RI.upd, updF] using h.o11
  y12 := by simpa [RI.upd, updF] using h.y12
  z12 := by simpa [RI.upd, updF] using h.z12
theorem OrV.set9 (h : OrV v3 k i o W q x w cv ct) : OrV v3 k i o W (updF q 9) (RI.upd x 9 (.int .i64 (k : Int))) w cv ct where
  nx := h.nx
  ob := h.ob
  y1 := by simpa [RI.upd, updF] using h.y1
  y2 := by simpa [RI.upd, updF] using h.y2
  y3 := by simpa [RI.upd, updF] using h.y3
  y5 := by simpa [RI.upd, updF] using h.y5
  y6 := by simpa [RI.upd, updF] using h.y6
  y8 := by simpa [RI.upd, updF] using h.y8
  y9 := fun _ => RI.upd_same _ _ _
  y10 := by simpa [RI.upd, updF] using h.y10
  n0 := by simpa [RI.upd, updF] using h.n0
  o0 := by simpa [RI.upd, updF] using h.o0
  o4 := by simpa [RI.upd, updF] using h.o4
  o7 := by simpa [RI.upd, updF] using h.o7
  o11 := by simpa [RI.upd, updF] using h.o11
  y12 := by simpa [RI.upd, updF] using h.y12
  z12 := by simpa [RI.upd, updF] using h.z12
theorem OrV.set5 (h : OrV v3 k i o W q x w cv ct) : OrV v3 k i o W (updF q 5) (RI.upd x 5 (.int .i64 (i : Int))) w cv ct where
  nx := h.nx
  ob := h.ob
  y1 := by simpa [RI.upd, updF] using h.y1
  y2 := by simpa [RI.upd, updF] using h.y2
  y3 := by simpa [RI.upd, updF] using h.y3
  y5 := fun _ => RI.upd_same _ _ _
  y6 := by simpa [RI.upd, updF] using h.y6
  y8 := by simpa [RI.upd, updF] using h.y8
  y9 := by simpa [RI.upd, updF] using h.y9
  y10 := by simpa [RI.upd, updF] using h.y10
  n0 := by simpa [RI.upd, updF] using h.n0
  o0 := by simpa [RI.upd, updF] using h.o0
  o4 := by simpa [RI.upd, updF] using h.o4
  o7 := by simpa [RI.upd, updF] using h.o7
  o11 := by simpa [RI.upd, updF] using h.o11
  y12 := by simpa [RI.upd, updF] using h.y12
  z12 := by simpa [RI.upd, updF] using h.z12
theorem OrV.set3 (h : OrV v3 k i o W q x w cv ct) (A : Option Addr) (c : Nat) (hr : Rd nv W A (o.take k)) : OrV v3 k i o W (updF q 3) (RI.upd x 3 (.slice A (o.take k).length c)) w cv ct where
  nx := h.nx
  ob := h.ob
  y1 := by simpa [RI.upd, updF] using h.y1
  y2 := by simpa [RI.upd, updF] using h.y2
  y3 := fun _ => ⟨A, c, RI.upd_same _ _ _, hr⟩
  y5 := by simpa [RI.upd, updF] using h.y5
  y6 := by simpa [RI.upd, updF] using h.y6
  y8 := by simpa [RI.upd, updF] using h.y8
  y9 := by simpa [RI.upd, updF] using h.y9
  y10 := by simpa [RI.upd, updF] using h.y10
  n0 := by simpa [RI.upd, updF] using h.n0
  o0 := by simpa [RI.upd, updF] using h.o0
  o4 := by simpa [RI.upd, updF] using h.o4
  o7 := by simpa [RI.upd, updF] using h.o7
  o11 := by simpa [RI.upd, updF] using h.o11
  y12 := by simpa [RI.upd, updF] using h.y12
  z12 := by simpa [RI.upd, updF] using h.z12
theorem OrV.set10 (h : OrV v3 k i o W q x w cv ct) (A : Option Addr) (c : Nat) (hr : Rd nv W A (o.drop k)) : OrV v3 k i o W (updF q 10) (RI.upd x 10 (.slice A (o.drop k).length c)) w cv ct where
  nx := h.nx
  ob := h.ob
  y1 := by simpa [RI.upd, updF] using h.y1
  y2 := by simpa [RI.upd, updF] using h.y2
  y3 := by simpa [RI.upd, updF] using h.y3
  y5 := by simpa [RI.upd, updF] using h.y5
  y6 := by simpa [RI.upd, updF] using h.y6
  y8 := by simpa [RI.upd, updF] using h.y8
  y9 := by simpa [RI.upd, updF] using h.y9
  y10 := fun _ => ⟨A, c, RI.upd_same _ _ _, hr⟩
  n0 := by simpa [RI.upd, updF] using h.n0
  o0 := by simpa [RI.upd, updF] using h.o0
  o4 := by simpa [RI.upd, updF] using h.o4
  o7 := by simpa [RI.upd, updF] using h.o7
  o11 := by simpa [RI.upd, updF] using h.o11
  y12 := by simpa [RI.upd, updF] using h.y12
  z12 := by simpa [RI.upd, updF] using h.z12
theorem OrV.set0 (h : OrV v3 k i o W q x w cv ct) (h0 : q 0 = false) (h4 : q 4 = false) (h7 : q 7 = false) (h11 : q 11 = false) : OrV v3 k i o W (updF q 0) (RI.upd x 0 (.slice (some ⟨w.heap.size, 0, none⟩) 0 0)) (w.alloc (.cells #[] 3)) (.slice (some ⟨w.heap.size, 0, none⟩) 0 0) [] where
  nx := h.nx.trans (nx0 _ _)
  ob := (Own.empty w).less h.nx.size
  y1 := by simpa [RI.upd, updF] using h.y1
  y2 := by simpa [RI.upd, updF] using h.y2
  y3 := by simpa [RI.upd, updF] using h.y3
  y5 := by simpa [RI.upd, updF] using h.y5
  y6 := fun h6 h7 => by
    obtain ⟨g, e1, e2, e3, e4⟩ := h.y6 (by simpa [updF] using h6) (by simpa [updF] using h7)
    refine ⟨g, by simpa [RI.upd] using e1, e2.alloc _, fun e => ?_, e4⟩
    have := e2.lt
    simp [Value.ownBlock] at e
    omega
  y8 := by simpa [RI.upd, updF] using h.y8
  y9 := by simpa [RI.upd, updF] using h.y9
  y10 := by simpa [RI.upd, updF] using h.y10
  n0 := by simp [updF]
  o0 := fun _ _ => ⟨(RI.upd_same _ _ _).symm, rfl⟩
  o4 := by simp [updF, h4]
  o7 := by simp [updF, h7]
  o11 := by simp [updF, h11]
  y12 := by simpa [RI.upd, updF] using h.y12
  z12 := by simpa [RI.upd, updF] using h.z12
theorem OrV.set6 (h : OrV v3 k i o W q x w cv ct) (h7 : q 7 = false) : OrV v3 k i o W (updF q 6) (RI.upd x 6 (.slice (some ⟨w.heap.size, 0, none⟩) 1 1)) (w.alloc (.cells #[nv i] 3)) cv ct where
  nx := h.nx.trans (nx0 _ _)
  ob := h.ob.alloc _
  y1 := by simpa [RI.upd, updF] using h.y1
  y2 := by simpa [RI.upd, updF] using h.y2
  y3 := by simpa [RI.upd, updF] using h.y3
  y5 := by simpa [RI.upd, updF] using h.y5
  y6 := fun _ _ => ⟨w.heap.size, RI.upd_same _ _ _, Blk.new w _ _, fun e => by
    have := World.ownsRow.lt h.ob _ e
    omega, h.nx.size⟩
  y8 := by simpa [RI.upd, updF] using h.y8
  y9 := by simpa [RI.upd, updF] using h.y9
  y10 := by simpa [RI.upd, updF] using h.y10
  n0 := by simpa [RI.upd, updF] using h.n0
  o0 := by simpa [RI.upd, updF] using h.o0
  o4 := by simpa [RI.upd, updF] using h.o4
  o7 := by simpa [RI.upd, updF] using h.o7
  o11 := by simpa [RI.upd, updF] using h.o11
  y12 := by simpa [RI.upd, updF] using h.y12
  z12 := by simpa [RI.upd, updF] using h.z12
theorem OrV.set4 (h : OrV v3 k i o W q x w cv ct) (h0 : q 0 = true) (h7 : q 7 = false) (h11 : q 11 = false) (hn : Nx W w') (ho : Own nv 3 w' W.heap.size cv' (o.take k)) (hk : ∀ b, b < w.heap.size → cv.ownBlock ≠ some b → w'.heap[b]? = w.heap[b]?) (hb : ∀ b, cv'.ownBlock = some b → cv.ownBlock = some b ∨ w.heap.size ≤ b) : OrV v3 k i o W (updF q 4) (RI.upd x 4 cv') w' cv' (o.take k) where
  nx := hn
  ob := ho
  y1 := by simpa [RI.upd, updF] using h.y1
  y2 := by simpa [RI.upd, updF] using h.y2
  y3 := by simpa [RI.upd, updF] using h.y3
  y5 := by simpa [RI.upd, updF] using h.y5
  y6 := fun h6 h7 => by
    obtain ⟨g, e1, e2, e3, e4⟩ := h.y6 (by simpa [updF] using h6) (by simpa [updF] using h7)
    refine ⟨g, by simpa [RI.upd] using e1, ⟨Nat.le_refl _, by rw [hk g e2.lt e3]; exact e2.2⟩, fun e => ?_, e4⟩
    have := e2.lt
    rcases hb g e with h | h
    · exact e3 h
    · omega
  y8 := by simpa [RI.upd, updF] using h.y8
  y9 := by simpa [RI.upd, updF] using h.y9
  y10 := by simpa [RI.upd, updF] using h.y10
  n0 := by simp [updF, h0]
  o0 := by simp [updF]
  o4 := fun _ _ => ⟨(RI.upd_same _ _ _).symm, rfl⟩
  o7 := by simp [updF, h7]
  o11 := by simp [updF, h11]
  y12 := by simpa [RI.upd, updF] using h.y12
  z12 := by simpa [RI.upd, updF] using h.z12
theorem OrV.set7 (h : OrV v3 k i o W q x w cv ct) (h0 : q 0 = true) (h4 : q 4 = true) (h11 : q 11 = false) (hn : Nx W w') (ho : Own nv 3 w' W.heap.size cv' (o.take k ++ [i])) (hk : ∀ b, b < w.heap.size → cv.ownBlock ≠ some b → w'.heap[b]? = w.heap[b]?) (hb : ∀ b, cv'.ownBlock = some b → cv.ownBlock = some b ∨ w.heap.size ≤ b) : OrV v3 k i o W (updF q 7) (RI.upd x 7 cv') w' cv' (o.take k ++ [i]) where
  nx := hn
  ob := ho
  y1 := by simpa [RI.upd, updF] using h.y1
  y2 := by simpa [RI.upd, updF] using h.y2
  y3 := by simpa [RI.upd, updF] using h.y3
  y5 := by simpa [RI.upd, updF] using h.y5
  y6 := by simp [updF]
  y8 := by simpa [RI.upd, updF] using h.y8
  y9 := by simpa [RI.upd, updF] using h.y9
  y10 := by simpa [RI.upd, updF] using h.y10
  n0 := by simp [updF, h0]
  o0 := by simp [updF, h4]
  o4 := by simp [updF]
  o7 := fun _ _ => ⟨(RI.upd_same _ _ _).symm, rfl⟩
  o11 := by simp [updF, h11]
  y12 := by simpa [RI.upd, updF] using h.y12
  z12 := by simpa [RI.upd, updF] using h.z12
theorem OrV.set11 (h : OrV v3 k i o W q x w cv ct) (h0 : q 0 = true) (h4 : q 4 = true) (h7 : q 7 = true) (h12 : q 12 = false) (hn : Nx W w') (ho : Own nv 3 w' W.heap.size cv' (o.take k ++ [i] ++ o.drop k)) (hk : ∀ b, b < w.heap.size → cv.ownBlock ≠ some b → w'.heap[b]? = w.heap[b]?) (hb : ∀ b, cv'.ownBlock = some b → cv.ownBlock = some b ∨ w.heap.size ≤ b) : OrV v3 k i o W (updF q 11) (RI.upd x 11 cv') w' cv' (o.take k ++ [i] ++ o.drop k) where
  nx := hn
  ob := ho
  y1 := by simpa [RI.upd, updF] using h.y1
  y2 := by simpa [RI.upd, updF] using h.y2
  y3 := by simpa [RI.upd, updF] using h.y3
  y5 := by simpa [RI.upd, updF] using h.y5
  y6 := by simp [updF, h7]
  y8 := by simpa [RI.upd, updF] using h.y8
  y9 := by simpa [RI.upd, updF] using h.y9
  y10 := by simpa [RI.upd, updF] using h.y10
  n0 := by simp [updF, h0]
  o0 := by simp [updF, h4]
  o4 := by simp [updF, h7]
  o7 := by simp [updF]
  o11 := fun _ => ⟨(RI.upd_same _ _ _).symm, rfl⟩
  y12 := by simpa [RI.upd, updF] using h.y12
  z12 := by simp [updF, h12]
theorem OrV.set12 (h : OrV v3 k i o W q x w cv ct) (h11 : q 11 = true) : OrV v3 k i o W (updF q 12) (RI.upd x 12 (x 11)) w cv ct where
  nx := h.nx
  ob := h.ob
  y1 := by simpa [RI.upd, updF] using h.y1
  y2 := by simpa [RI.upd, updF] using h.y2
  y3 := by simpa [RI.upd, updF] using h.y3
  y5 := by simpa [RI.upd, updF] using h.y5
  y6 := by simpa [RI.upd, updF] using h.y6
  y8 := by simpa [RI.upd, updF] using h.y8
  y9 := by simpa [RI.upd, updF] using h.y9
  y10 := by simpa [RI.upd, updF] using h.y10
  n0 := by simpa [RI.upd, updF] using h.n0
  o0 := by simpa [RI.upd, updF] using h.o0
  o4 := by simpa [RI.upd, updF] using h.o4
  o7 := by simpa [RI.upd, updF] using h.o7
  o11 := by simpa [RI.upd, updF] using h.o11
  y12 := by simp [updF]
  z12 := by simp [RI.upd, updF]
theorem OrV.start (v3 : Value) (k i : Nat) (o : List Nat) (W : World) (x : Nat → Value) (hx : x 12 = v3) : OrV v3 k i o W (fun j => (Array.replicate 13 false).getD j false) x { W with drawn := W.drawn + 1 } (.slice none 0 0) [] := by
  have e : (fun j => (Array.replicate 13 false).getD j false) = fun _ => false := by
    funext j
    rw [Array.getD_eq_getD_getElem?]
    cases h : (Array.replicate 13 false)[j]? with
    | none => rfl
    | some b =>
      obtain ⟨h1, h2⟩ := Array.getElem?_eq_some_iff.1 h
      simp at h2
      simp [← h2]
  rw [e]
  exact ⟨Nx.drawn _, Own.nil_, (fun h => by cases h), (fun h => by cases h), (fun h => by cases h), (fun h => by cases h), (fun h => by cases h), (fun h => by cases h), (fun h => by cases h), (fun h => by cases h), fun _ => ⟨rfl, rfl⟩, (fun h => by cases h), (fun h => by cases h), (fun h => by cases h), (fun h => by cases h), fun _ => hx, (fun h => by cases h)⟩
end
section
variable {P : Program} {w : World} {o : Oper} {a : Act} {K : Act → World → Prop}
/-- a part of a list, alone -/
theorem op_slI {t e : TypeId} {by_ : Nat} (T : ElT P t e by_) (x : Operand) (lo hi : Option Operand) (ho : o.op = .slice t x lo hi none)
    (A : Option Addr) (xs : List Nat) (c : Nat) (hx : a.eval x = .slice A xs.length c) (hr : Rd nv w A xs) (hc : xs.length ≤ c)
    (l h : Int) (hlo : lo = none ∧ l = 0 ∨ ∃ k p, lo = some p ∧ a.eval p = .int k l) (hhi : hi = none ∧ h = xs.length ∨ ∃ k p, hi = some p ∧ a.eval p = .int k h)
    (h0 : 0 ≤ l) (h1 : l ≤ h) (h2 : h ≤ xs.length)
    (hK : ∀ A' c', (∀ w2, Rd nv w2 A xs → Rd nv w2 A' ((xs.take h.toNat).drop l.toNat)) → K (a.put o.dst (.slice A' ((xs.take h.toNat).drop l.toNat).length c')) w) : o.wp P a w K (fun _ _ _ => False) := by
  have hall : ∀ w2, Rd nv w2 A xs → ∃ A', sliced A l.toNat h.toNat c 1 = .slice A' ((xs.take h.toNat).drop l.toNat).length (c - l.toNat) ∧ Rd nv w2 A' ((xs.take h.toNat).drop l.toNat) := fun w2 h2 => h2.sliced (by omega) (by omega) hc
  obtain ⟨A', e1, hr'⟩ := hall w hr
  have hrun := run_sl (P := P) w T (A := A) (n := xs.length) (c := c) hc (lo.map a.eval) (hi.map a.eval) l h h0 h1 h2
    (by
        rcases hlo with ⟨rfl, e⟩ | ⟨k, p, rfl, e⟩
        · exact .inl ⟨rfl, e⟩
        · exact .inr ⟨k, by simp [e]⟩)
    (by
        rcases hhi with ⟨rfl, e⟩ | ⟨k, p, rfl, e⟩
        · exact .inl ⟨rfl, e⟩
        · exact .inr ⟨k, by simp [e]⟩)
  rw [e1] at hrun
  have := hK A' (c - l.toNat) (fun w2 h2 => by
    obtain ⟨A2, e2, r2⟩ := hall w2 h2
    rw [e1] at e2
    injection e2 with h3 h4 h5
    rw [h3]; exact r2)
  unfold Oper.wp execOp
  simp only [ho, Sem.run_bind, Sem.run_pure, Result.andThen_ok, hx]
  rw [show (Option.map a.eval (none : Option Operand)) = none from rfl, run_sliceAt_slice w t _ _ _ _ (by simp [Program.elem, T.ht]), hrun]
  exact this
/-- append of what is read onto what is owned, alone -/
theorem op_appI {t e : TypeId} {by_ : Nat} (T : ElT P t e by_) (s x : Operand)
    (ho : o.op = .call { callee := .builtin .append, args := #[s, x], argTypes := #[t, t] })
    (B : Nat) (v : Value) (xs ys : List Nat) (hs : a.eval s = v) (hown : Own nv e w B v xs)
    (A : Option Addr) (c : Nat) (hx : a.eval x = .slice A ys.length c) (hr : Rd nv w A ys)
    (h63 : xs.length + ys.length ≤ 1000) (hby : by_ ≤ 1000) (hB : B ≤ w.heap.size)
    (h : ∀ v' w', Own nv e w' B v' (xs ++ ys) → Below B w w' → (∀ b, b < w.heap.size → v.ownBlock ≠ some b → w'.heap[b]? = w.heap[b]?) → (∀ b, v'.ownBlock = some b → v.ownBlock = some b ∨ w.heap.size ≤ b) → K (a.put o.dst v') w') : o.wp P a w K (fun _ _ _ => False) := by
  obtain ⟨i, z, hi, hz, h1, h2, h3⟩ := T.inf
  have key : ∃ v' w', (Builtin.append_ #[t, t] o.type #[v, .slice A ys.length c]).run P w = .ok v' w' ∧ Own nv e w' B v' (xs ++ ys) ∧ Below B w w' ∧ (∀ b, b < w.heap.size → v.ownBlock ≠ some b → w'.heap[b]? = w.heap[b]?) ∧ (∀ b, v'.ownBlock = some b → v.ownBlock = some b ∨ w.heap.size ≤ b) := by
    rcases A with _ | ad
    · have h0 : ys = [] := by
        rcases Nat.eq_zero_or_pos ys.length with h | h
        · exact List.eq_nil_of_length_eq_zero h
        · obtain ⟨_, _, h, _⟩ := hr h; cases h
      subst h0
      refine ⟨v, w, ?_, by simpa using hown, Below.refl _ _, fun _ _ _ => rfl, fun _ h => .inl h⟩
      rcases hown.2 with ⟨rfl, _⟩ | ⟨g, cap, cur, rfl, _, _, hnc, _⟩
      · simp [Builtin.append_, run_underlying T.ht, sizeOf, typeInfo, hi, Builtin.lenOf, Builtin.firstCells]
      · simp [Builtin.append_, run_underlying T.ht, sizeOf, typeInfo, hi, Builtin.lenOf, Builtin.firstCells, hnc, storeCells]
    · have hl : (ys.map nv).length = ys.length * 1 := by simp
      have hcells : ∀ j u, (ys.map nv)[j]? = some u → w.cell? (ad.add j) = some u := by
        intro j u hu
        have hj : j < ys.length := by
          rcases Nat.lt_or_ge j ys.length with h | h
          · exact h
          · rw [List.getElem?_eq_none (by simpa using h)] at hu; cases hu
        have hu' : u = nv ys[j] := by simpa [hj] using hu.symm
        subst hu'
        obtain ⟨b, off, he, hb, hc⟩ := hr (by omega)
        injection he with he
        subst he
        have := hc j hj
        by_cases j0 : j = 0
        · subst j0; simpa [Addr.add] using this
        · simpa [Addr.add, j0] using this
      have hone : ∀ u ∈ ys.map nv, u.oneCell' = true := by
        intro u hu
        obtain ⟨y, _, rfl⟩ := List.mem_map.1 hu
        rfl
      obtain ⟨v', w', hrun, ho', hg, _, hob⟩ := run_append_own_at (P := P) w B t o.type e i z 1 by_ T.ht hi hz h1 h2 h3 (by decide) v xs.length (xs.map nv) hown ad ys.length c (ys.map nv) hl hcells hone (by simp only [maxLen]; omega)
        (by
            have : (xs.length + ys.length) * by_ ≤ 1000 * 1000 := Nat.mul_le_mul h63 hby
            omega) hB
      refine ⟨v', w', hrun, ?_, below_grown hown hg hB, fun b hb hv => hg.block b hb (fun e => hv e.symm), fun b e => ?_⟩
      · unfold Own
        rw [List.length_append, List.map_append]
        exact ho'
      · rcases hob with h | h
        · exact .inl (h ▸ e)
        · rw [h] at e; cases e; exact .inr (Nat.le_refl _)
  obtain ⟨v', w', hrun, ho', hbel, hk, hb⟩ := key
  have := h v' w' ho' hbel hk hb
  unfold Oper.wp execOp
  simp only [ho, resolve, invoke, builtin, Sem.run_bind, Sem.run_pure, Result.andThen_ok, List.map_toArray, List.map_cons, List.map_nil, hs, hx, hrun]
  exact this
end
end Go.Proofs.Ytpfecpcgdfbekaa
