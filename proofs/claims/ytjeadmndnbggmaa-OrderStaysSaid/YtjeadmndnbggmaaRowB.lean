/- Rows of structs that the call owns, of any type: what the call reads and appends. -/
import Derived.Test.YtjeadmndnbggmaaTxt
set_option linter.unusedVariables false
set_option linter.unusedSimpArgs false
namespace Go.Proofs.Ytjeadmndnbggmaa
open Go.RowKit

section
variable {α : Type} {f : α → Array Value} {k : Nat} {T : TypeId}

def rowL (f : α → Array Value) (xs : List α) : List Value := xs.flatMap fun x => (f x).toList
theorem rowL_length (hf : ∀ x, (f x).size = k) (xs : List α) : (rowL f xs).length = xs.length * k := by
  induction xs with
  | nil => simp [rowL]
  | cons x xs ih =>
    have : rowL f (x :: xs) = (f x).toList ++ rowL f xs := rfl
    rw [this, List.length_append, ih, Array.length_toList, hf, List.length_cons, Nat.succ_mul, Nat.add_comm]
theorem rowL_snoc (xs : List α) (x : α) : rowL f (xs ++ [x]) = rowL f xs ++ (f x).toList := by
  unfold rowL; simp
theorem rowL_get (hf : ∀ x, (f x).size = k) (xs : List α) (i : Nat) (hi : i < xs.length) (j : Nat) (hj : j < k) : (rowL f xs)[i * k + j]? = (f xs[i])[j]? := by
  induction xs generalizing i with
  | nil => simp at hi
  | cons x xs ih =>
    have e : rowL f (x :: xs) = (f x).toList ++ rowL f xs := rfl
    have e5 : (f x).toList.length = k := by rw [Array.length_toList]; exact hf x
    rw [e]
    cases i with
    | zero =>
      rw [List.getElem?_append_left (by rw [e5]; omega), Nat.zero_mul, Nat.zero_add]
      simp
    | succ i =>
      have e6 : (i + 1) * k = i * k + k := Nat.succ_mul i k
      rw [List.getElem?_append_right (by rw [e5]; omega), e5]
      have : (i + 1) * k + j - k = i * k + j := by omega
      rw [this, ih i (by simpa using hi)]
      simp

/-- what a call owns from block B on, as a list of structs -/
def OwnS (f : α → Array Value) (k : Nat) (T : TypeId) (w : World) (B : Nat) (v : Value) (xs : List α) : Prop := w.ownsRow B T k v xs.length (rowL f xs)
/-- the structs behind an address -/
def RdS (f : α → Array Value) (k : Nat) (w : World) (A : Option Addr) (xs : List α) : Prop :=
  0 < xs.length → ∃ g, A = some ⟨g, 0, none⟩ ∧ g < w.heap.size ∧ ∀ i (h : i < xs.length) j, j < k → w.cell? ⟨g, i * k + j, none⟩ = (f xs[i])[j]?
theorem OwnS.nil_ (w : World) (B : Nat) : OwnS f k T w B (.slice none 0 0) [] := World.ownsRow_nil w B _ _
theorem OwnS.alloc {w : World} {B : Nat} {v : Value} {xs : List α} (h : OwnS f k T w B v xs) (o : Obj) : OwnS f k T (w.alloc o) B v xs := World.ownsRow.alloc h o
theorem OwnS.less {w : World} {B B' : Nat} {v : Value} {xs : List α} (h : OwnS f k T w B v xs) (hB : B' ≤ B) : OwnS f k T w B' v xs := by
  obtain ⟨h1, h2⟩ := h
  refine ⟨h1, ?_⟩
  rcases h2 with h2 | ⟨g, cap, cur, hv, hg, r⟩
  · exact .inl h2
  · exact .inr ⟨g, cap, cur, hv, by omega, r⟩
theorem OwnS.nx {w w' : World} {B : Nat} {v : Value} {xs : List α} (h : OwnS f k T w B v xs) (ho : Nx w w') : OwnS f k T w' B v xs := by
  obtain ⟨h1, h2⟩ := h
  refine ⟨h1, ?_⟩
  rcases h2 with h2 | ⟨g, cap, cur, hv, hg, hh, r⟩
  · exact .inl h2
  · refine .inr ⟨g, cap, cur, hv, hg, ?_, r⟩
    rw [ho.block g ?_]; exact hh
    rcases Nat.lt_or_ge g w.heap.size with h | h
    · exact h
    · rw [Array.getElem?_eq_none h] at hh; cases hh
theorem OwnS.sl (hf : ∀ x, (f x).size = k) {w : World} {B : Nat} {v : Value} {xs : List α} (h : OwnS f k T w B v xs) : ∃ A c, v = .slice A xs.length c ∧ xs.length ≤ c ∧ c ≤ maxLen ∧ RdS f k w A xs := by
  obtain ⟨h1, h2⟩ := h
  rcases h2 with ⟨rfl, h0⟩ | ⟨g, cap, cur, rfl, hg, hh, hn, hm, hs, ht⟩
  · have : xs = [] := List.eq_nil_of_length_eq_zero h0
    subst this
    exact ⟨none, 0, rfl, Nat.le_refl _, Nat.zero_le _, fun h => by simp at h⟩
  · refine ⟨_, cap, rfl, hn, hm, fun _ => ⟨g, rfl, ?_, fun i hi j hj => ?_⟩⟩
    · rcases Nat.lt_or_ge g w.heap.size with h | h
      · exact h
      · rw [Array.getElem?_eq_none h] at hh; cases hh
    · have hlt : i * k + j < xs.length * k := by
        have h1 : (i + 1) * k ≤ xs.length * k := Nat.mul_le_mul_right k hi
        have h2 : (i + 1) * k = i * k + k := Nat.succ_mul i k
        omega
      rw [cell_of_row w g (i * k + j) cur _ (0, 0) hh, ← rowL_get hf xs i hi j hj, ← ht, List.getElem?_take, if_pos (by simpa using hlt)]
      simp
theorem RdS.nx {w w' : World} {A : Option Addr} {xs : List α} (h : RdS f k w A xs) (hn : Nx w w') : RdS f k w' A xs := fun h0 => by
  obtain ⟨g, e, hg, hc⟩ := h h0
  refine ⟨g, e, Nat.lt_of_lt_of_le hg hn.size, fun i hi j hj => ?_⟩
  rw [← hc i hi j hj]
  unfold World.cell?
  simp only
  rw [hn.block g hg]
end

section
variable (w : World) {ops : Array Oper} {rest : List Oper} {o : Oper} {a : Act} {Q : Exit → Act → World → Prop} {α : Type} {f : α → Array Value} {k sz : Nat} {T T2 : TypeId} {z : Value}
/-- append of one struct onto what is owned -/
theorem wpList_appS (hinfo : (Try.prog.info? T).map (fun i => (i.zero, i.size, i.bytes)) = some (some z, k, sz)) (hund : Try.prog.underlying T2 = some (.slice T)) (hzs : z.cells.size = k) (hk : 0 < k) (hsz : sz ≤ 1000)
    (hf : ∀ x, (f x).size = k) (hone : ∀ x, ∀ u ∈ (f x).toList, u.oneCell' = true)
    (hgd : o.guard = none) (s x : Operand) (ho : o.op = .call { callee := .builtin .append, args := #[s, x], argTypes := #[T2, T2] })
    (B : Nat) (v : Value) (xs : List α) (y : α) (hs : a.eval s = v) (hown : OwnS f k T w B v xs) (g : Nat) (hx : a.eval x = .slice (some ⟨g, 0, none⟩) 1 1)
    (hy : ∀ j, j < k → w.cell? ⟨g, j, none⟩ = (f y)[j]?) (h63 : (xs.length : Int) ≤ 100000) (hB : B ≤ w.heap.size)
    (h : ∀ v' w', OwnS f k T w' B v' (xs ++ [y]) → Below B w w' → (∀ k, k < w.heap.size → v.ownBlock ≠ some k → w'.heap[k]? = w.heap[k]?) → wpList Try.prog ops Q rest (a.put o.dst v') w') : wpList Try.prog ops Q (o :: rest) a w := by
  refine wpList_plain hgd fun K hK => ?_
  obtain ⟨i, hi, hz, h1, h2⟩ := info_parts hinfo
  have hcells : ∀ j u, ((f y).toList)[j]? = some u → w.cell? ((⟨g, 0, none⟩ : Addr).add j) = some u := by
    intro j u hu
    have hj : j < k := by
      rcases Nat.lt_or_ge j k with h | h
      · exact h
      · rw [List.getElem?_eq_none (by rw [Array.length_toList, hf]; exact h)] at hu; cases hu
    rw [Addr.add_lit, Nat.zero_add, hy j hj]
    rw [← hu]; simp
  obtain ⟨v', w', hrun, ho', hg, _⟩ := run_append_own_at (P := Try.prog) w B T2 o.type T i _ k sz hund hi hz h1 h2 hzs hk v xs.length (rowL f xs) hown ⟨g, 0, none⟩ 1 1 (f y).toList (by rw [Array.length_toList, hf, Nat.one_mul]) hcells (hone y) (by simp [maxLen]; omega)
    (by
        have : (xs.length + 1) * sz ≤ 100001 * 1000 := Nat.mul_le_mul (by omega) hsz
        omega) hB
  have hbel : Below B w w' := (Below.refl B w).grown hg hB fun k hk => (World.ownsRow.lt hown k hk).1
  have hown' : OwnS f k T w' B v' (xs ++ [y]) := by
    unfold OwnS
    rw [List.length_append, rowL_snoc]
    exact ho'
  have := hK _ _ (h v' w' hown' hbel (fun k hk hne => hg.block k hk (Ne.symm hne)))
  unfold Oper.wp execOp
  simp only [ho, resolve, invoke, builtin, Sem.run_bind, Sem.run_pure, Result.andThen_ok, List.map_toArray, List.map_cons, List.map_nil, hs, hx, hrun]
  exact this
end
end Go.Proofs.Ytjeadmndnbggmaa
