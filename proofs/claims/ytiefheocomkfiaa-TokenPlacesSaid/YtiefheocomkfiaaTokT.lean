/- Rows of words that a call owns; worlds that changed in one block alone. Plain lemmas. -/
import Derived.Test.YtiefheocomkfiaaTokH
set_option linter.unusedVariables false
set_option linter.unusedSimpArgs false
namespace Go.Proofs.Ytiefheocomkfiaa
open Go.RowKit

/-- all that lay lies, but for one block -/
structure Oth (b : Nat) (w w' : World) : Prop where
  os : w'.os = w.os
  tape : w'.tape = w.tape
  output : w'.output = w.output
  size : w.heap.size ≤ w'.heap.size
  block : ∀ k, k < w.heap.size → k ≠ b → w'.heap[k]? = w.heap[k]?
theorem Oth.refl (b : Nat) (w : World) : Oth b w w := ⟨rfl, rfl, rfl, Nat.le_refl _, fun _ _ _ => rfl⟩
theorem Oth.trans {b : Nat} {x y z : World} (h : Oth b x y) (k : Oth b y z) : Oth b x z :=
  ⟨k.os.trans h.os, k.tape.trans h.tape, k.output.trans h.output, Nat.le_trans h.size k.size, fun i hi hb => (k.block i (Nat.lt_of_lt_of_le hi h.size) hb).trans (h.block i hi hb)⟩
theorem Oth.nx {b : Nat} {w w' : World} (h : Nx w w') : Oth b w w' := ⟨h.os, h.tape, h.output, h.size, fun k hk _ => h.block k hk⟩
theorem Oth.set (w : World) (b i : Nat) (v : Value) : Oth b w (w.setCell ⟨b, i, none⟩ v) :=
  ⟨rfl, rfl, rfl, by simp [World.setCell], fun k _ hk => by simp only [World.setCell]; rw [Array.getElem?_modify, if_neg (fun e => hk e.symm)]⟩
theorem Oth.to {w w1 w' : World} {b : Nat} (h : Oth b w1 w') (hn : Nx w w1) (hb : w.heap.size ≤ b) : Nx w w' :=
  ⟨h.os.trans hn.os, h.tape.trans hn.tape, h.output.trans hn.output, Nat.le_trans hn.size h.size, fun k hk => (h.block k (Nat.lt_of_lt_of_le hk hn.size) (by omega)).trans (hn.block k hk)⟩
theorem Oth.blk {w w' : World} {b B g : Nat} {cs : Array Value} {T : TypeId} (h : Oth b w w') (k : Blk w B g cs T) (hg : g ≠ b) : Blk w' B g cs T :=
  ⟨k.1, by rw [h.block g k.lt hg]; exact k.2⟩
theorem Oth.maxC {w w' : World} {b : Nat} (h : Oth b w w') (hm : MaxC w) (hb : b ≠ 0) : MaxC w' := by
  obtain ⟨m, hm⟩ := hm
  refine ⟨m, ?_⟩
  have := h.block _ (World.block_lt_of_cell? w _ hm) (fun e => hb e.symm)
  rw [← hm]
  unfold World.cell?
  simp only
  rw [this]
/-- a block of its own that changed, and others -/
theorem Oth.mono {w w1 w' : World} {b : Nat} (h : Oth b w1 w') (hn : Nx w w1) : Oth b w w' := (Oth.nx hn).trans h
theorem Oth.put {w w' : World} {b g : Nat} (h : Oth b w w') (hg : w.heap.size ≤ g) (i : Nat) (v : Value) : Oth b w (w'.setCell ⟨g, i, none⟩ v) :=
  ⟨h.os, h.tape, h.output, by simp [World.setCell]; exact h.size, fun k hk hb => by simp only [World.setCell]; rw [Array.getElem?_modify, if_neg (by omega)]; exact h.block k hk hb⟩
theorem Oth.put5 {w w' : World} {b g : Nat} {v0 v1 v2 v3 v4 : Value} (h : Oth b w w') (hk : w.heap.size ≤ g) :
    Oth b w (((((w'.setCell ⟨g, 0, none⟩ v0).setCell ⟨g, 1, none⟩ v1).setCell ⟨g, 2, none⟩ v2).setCell ⟨g, 3, none⟩ v3).setCell ⟨g, 4, none⟩ v4) :=
  ((((h.put hk 0 v0).put hk 1 v1).put hk 2 v2).put hk 3 v3).put hk 4 v4
theorem Oth.own {w w' : World} {b i : Nat} {v : Value} (h : Oth b w w') : Oth b w (w'.setCell ⟨b, i, none⟩ v) := h.trans (Oth.set _ _ _ _)

def tokL (xs : List TokV) : List Value := xs.flatMap fun x => (tokC x).toList
theorem tokL_length (xs : List TokV) : (tokL xs).length = xs.length * 5 := by
  induction xs with
  | nil => rfl
  | cons x xs ih =>
    have : tokL (x :: xs) = (tokC x).toList ++ tokL xs := rfl
    rw [this, List.length_append, ih]
    simp [tokC]; omega
theorem tokL_snoc (xs : List TokV) (x : TokV) : tokL (xs ++ [x]) = tokL xs ++ (tokC x).toList := by
  unfold tokL; simp
theorem tokL_get (xs : List TokV) (i : Nat) (hi : i < xs.length) (j : Nat) (hj : j < 5) : (tokL xs)[i * 5 + j]? = (tokC xs[i])[j]? := by
  induction xs generalizing i with
  | nil => simp at hi
  | cons x xs ih =>
    have e : tokL (x :: xs) = (tokC x).toList ++ tokL xs := rfl
    have e5 : (tokC x).toList.length = 5 := rfl
    rw [e]
    cases i with
    | zero =>
      rw [List.getElem?_append_left (by omega), Nat.zero_mul, Nat.zero_add]
      simp
    | succ i =>
      rw [List.getElem?_append_right (by omega), e5]
      have : (i + 1) * 5 + j - 5 = i * 5 + j := by omega
      rw [this, ih i (by simpa using hi)]
      simp
theorem tokL_one (xs : List TokV) : ∀ u ∈ tokL xs, u.oneCell' = true := by
  intro u hu
  obtain ⟨x, _, hx⟩ := List.mem_flatMap.1 hu
  simp [tokC] at hx
  rcases hx with rfl | rfl | rfl | rfl | rfl <;> rfl

/-- what a call owns from block B on, as a list of words -/
def OwnT (w : World) (B : Nat) (v : Value) (xs : List TokV) : Prop := w.ownsRow B 29 5 v xs.length (tokL xs)
/-- the words behind an address -/
def RdT (w : World) (A : Option Addr) (xs : List TokV) : Prop :=
  0 < xs.length → ∃ g, A = some ⟨g, 0, none⟩ ∧ g < w.heap.size ∧ ∀ i (h : i < xs.length) j, j < 5 → w.cell? ⟨g, i * 5 + j, none⟩ = (tokC xs[i])[j]?
theorem OwnT.nil_ (w : World) (B : Nat) : OwnT w B (.slice none 0 0) [] := World.ownsRow_nil w B _ _
theorem OwnT.alloc {w : World} {B : Nat} {v : Value} {xs : List TokV} (h : OwnT w B v xs) (o : Obj) : OwnT (w.alloc o) B v xs := World.ownsRow.alloc h o
theorem OwnT.less {w : World} {B B' : Nat} {v : Value} {xs : List TokV} (h : OwnT w B v xs) (hB : B' ≤ B) : OwnT w B' v xs := by
  obtain ⟨h1, h2⟩ := h
  refine ⟨h1, ?_⟩
  rcases h2 with h2 | ⟨g, cap, cur, hv, hg, r⟩
  · exact .inl h2
  · exact .inr ⟨g, cap, cur, hv, by omega, r⟩
theorem OwnT.oth {w w' : World} {B b : Nat} {v : Value} {xs : List TokV} (h : OwnT w B v xs) (ho : Oth b w w') (hb : b < B) : OwnT w' B v xs := by
  obtain ⟨h1, h2⟩ := h
  refine ⟨h1, ?_⟩
  rcases h2 with h2 | ⟨g, cap, cur, hv, hg, hh, r⟩
  · exact .inl h2
  · refine .inr ⟨g, cap, cur, hv, hg, ?_, r⟩
    rw [ho.block g ?_ (by omega)]; exact hh
    rcases Nat.lt_or_ge g w.heap.size with h | h
    · exact h
    · rw [Array.getElem?_eq_none h] at hh; cases hh
theorem OwnT.nx {w w' : World} {B : Nat} {v : Value} {xs : List TokV} (h : OwnT w B v xs) (ho : Nx w w') : OwnT w' B v xs := by
  obtain ⟨h1, h2⟩ := h
  refine ⟨h1, ?_⟩
  rcases h2 with h2 | ⟨g, cap, cur, hv, hg, hh, r⟩
  · exact .inl h2
  · refine .inr ⟨g, cap, cur, hv, hg, ?_, r⟩
    rw [ho.block g ?_]; exact hh
    rcases Nat.lt_or_ge g w.heap.size with h | h
    · exact h
    · rw [Array.getElem?_eq_none h] at hh; cases hh
theorem OwnT.sl {w : World} {B : Nat} {v : Value} {xs : List TokV} (h : OwnT w B v xs) : ∃ A c, v = .slice A xs.length c ∧ xs.length ≤ c ∧ c ≤ maxLen ∧ RdT w A xs := by
  obtain ⟨h1, h2⟩ := h
  rcases h2 with ⟨rfl, h0⟩ | ⟨g, cap, cur, rfl, hg, hh, hn, hm, hs, ht⟩
  · have : xs = [] := List.eq_nil_of_length_eq_zero h0
    subst this
    exact ⟨none, 0, rfl, Nat.le_refl _, Nat.zero_le _, fun h => by simp at h⟩
  · refine ⟨_, cap, rfl, hn, hm, fun _ => ⟨g, rfl, ?_, fun i hi j hj => ?_⟩⟩
    · rcases Nat.lt_or_ge g w.heap.size with h | h
      · exact h
      · rw [Array.getElem?_eq_none h] at hh; cases hh
    · rw [cell_of_row w g (i * 5 + j) cur _ (0, 0) hh, ← tokL_get xs i hi j hj, ← ht, List.getElem?_take, if_pos (by omega)]
      simp
theorem RdT.nx {w w' : World} {A : Option Addr} {xs : List TokV} (h : RdT w A xs) (hn : Nx w w') : RdT w' A xs := fun h0 => by
  obtain ⟨g, e, hg, hc⟩ := h h0
  refine ⟨g, e, Nat.lt_of_lt_of_le hg hn.size, fun i hi j hj => ?_⟩
  rw [← hc i hi j hj]
  unfold World.cell?
  simp only
  rw [hn.block g hg]
theorem RdT.at_ {w : World} {A : Option Addr} {xs : List TokV} (h : RdT w A xs) (i : Nat) (hi : i < xs.length) : ∃ g, A = some ⟨g, 0, none⟩ ∧ g < w.heap.size ∧
    w.cell? ⟨g, i * 5 + 0, none⟩ = some (.int .i64 (xs[i].k : Nat)) ∧ w.cell? ⟨g, i * 5 + 1, none⟩ = some (.string ⟨xs[i].t.toArray⟩) ∧ w.cell? ⟨g, i * 5 + 2, none⟩ = some (.int .i64 xs[i].n) ∧
    w.cell? ⟨g, i * 5 + 3, none⟩ = some (.int .u64 (xs[i].d : Nat)) ∧ w.cell? ⟨g, i * 5 + 4, none⟩ = some (.int .i64 (xs[i].p : Nat)) := by
  obtain ⟨g, e, hg, hc⟩ := h (by omega)
  exact ⟨g, e, hg, hc i hi 0 (by decide), hc i hi 1 (by decide), hc i hi 2 (by decide), hc i hi 3 (by decide), hc i hi 4 (by decide)⟩

theorem info_tok : (Try.prog.info? 29).map (fun i => (i.zero, i.size, i.bytes)) = some (some (.agg #[.int .i64 0, .string ⟨#[]⟩, .int .i64 0, .int .u64 0, .int .i64 0]), 5, 48) := by kernel_rfl

section
variable (w : World) {ops : Array Oper} {rest : List Oper} {o : Oper} {a : Act} {Q : Exit → Act → World → Prop}
/-- append of one word onto what is owned -/
theorem wpList_appT (hgd : o.guard = none) (s x : Operand) (ho : o.op = .call { callee := .builtin .append, args := #[s, x], argTypes := #[23, 23] })
    (B : Nat) (v : Value) (xs : List TokV) (y : TokV) (hs : a.eval s = v) (hown : OwnT w B v xs) (g : Nat) (hx : a.eval x = .slice (some ⟨g, 0, none⟩) 1 1)
    (hy : ∀ j, j < 5 → w.cell? ⟨g, j, none⟩ = (tokC y)[j]?) (h63 : (xs.length : Int) ≤ 100000) (hB : B ≤ w.heap.size)
    (h : ∀ v' w', OwnT w' B v' (xs ++ [y]) → Below B w w' → (∀ k, k < w.heap.size → v.ownBlock ≠ some k → w'.heap[k]? = w.heap[k]?) → wpList Try.prog ops Q rest (a.put o.dst v') w') : wpList Try.prog ops Q (o :: rest) a w := by
  refine wpList_plain hgd fun K hK => ?_
  obtain ⟨i, hi, hz, h1, h2⟩ := info_parts info_tok
  have hcells : ∀ j u, ((tokC y).toList)[j]? = some u → w.cell? ((⟨g, 0, none⟩ : Addr).add j) = some u := by
    intro j u hu
    have hj : j < 5 := by
      rcases Nat.lt_or_ge j 5 with h | h
      · exact h
      · rw [List.getElem?_eq_none (by simpa [tokC] using h)] at hu; cases hu
    rw [Addr.add_lit, Nat.zero_add, hy j hj]
    rw [← hu]; simp
  have hone : ∀ u ∈ (tokC y).toList, u.oneCell' = true := by
    intro u hu
    simp [tokC] at hu
    rcases hu with rfl | rfl | rfl | rfl | rfl <;> rfl
  obtain ⟨v', w', hrun, ho', hg, _⟩ := run_append_own_at (P := Try.prog) w B 23 o.type 29 i _ 5 48 Try.underlying23 hi hz h1 h2 rfl (by decide) v xs.length (tokL xs) hown ⟨g, 0, none⟩ 1 1 (tokC y).toList rfl hcells hone (by simp [maxLen]; omega) (by omega) hB
  have hbel : Below B w w' := (Below.refl B w).grown hg hB fun k hk => (World.ownsRow.lt hown k hk).1
  have hown' : OwnT w' B v' (xs ++ [y]) := by
    unfold OwnT
    rw [List.length_append, tokL_snoc]
    exact ho'
  have := hK _ _ (h v' w' hown' hbel (fun k hk hne => hg.block k hk (Ne.symm hne)))
  unfold Oper.wp execOp
  simp only [ho, resolve, invoke, builtin, Sem.run_bind, Sem.run_pure, Result.andThen_ok, List.map_toArray, List.map_cons, List.map_nil, hs, hx, hrun]
  exact this
end
end Go.Proofs.Ytiefheocomkfiaa
