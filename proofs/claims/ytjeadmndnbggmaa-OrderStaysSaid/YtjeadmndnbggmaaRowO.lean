/- Append of several structs, from any place, onto what the call owns. -/
import Derived.Test.YtjeadmndnbggmaaRowB
set_option linter.unusedVariables false
set_option linter.unusedSimpArgs false
namespace Go.Proofs.Ytjeadmndnbggmaa
open Go.RowKit

theorem rowL_app {α : Type} (f : α → Array Value) (xs ys : List α) : rowL f (xs ++ ys) = rowL f xs ++ rowL f ys := by unfold rowL; exact List.flatMap_append
section
variable (w : World) {ops : Array Oper} {rest : List Oper} {o : Oper} {a : Act} {Q : Exit → Act → World → Prop} {K : Act → World → Prop} {α : Type} {f : α → Array Value} {k sz : Nat} {T T2 : TypeId} {z : Value}
theorem op_appO (hinfo : (Try.prog.info? T).map (fun i => (i.zero, i.size, i.bytes)) = some (some z, k, sz)) (hund : Try.prog.underlying T2 = some (.slice T)) (hzs : z.cells.size = k) (hk : 0 < k) (hsz : sz ≤ 1000)
    (hf : ∀ x, (f x).size = k)
    (s x : Operand) (ho : o.op = .call { callee := .builtin .append, args := #[s, x], argTypes := #[T2, T2] })
    (B : Nat) (v : Value) (xs ys : List α) (hone : ∀ y ∈ ys, ∀ u ∈ (f y).toList, u.oneCell' = true) (hs : a.eval s = v) (hown : OwnS f k T w B v xs) (g off m c : Nat) (hm : m = ys.length) (hx : a.eval x = .slice (some ⟨g, off, none⟩) m c)
    (hy : ∀ i (h : i < ys.length) j, j < k → w.cell? ⟨g, off + i * k + j, none⟩ = (f ys[i])[j]?) (h63 : (xs.length : Int) + (ys.length : Int) ≤ 100000) (hB : B ≤ w.heap.size)
    (h : ∀ v' w', OwnS f k T w' B v' (xs ++ ys) → Below B w w' → (∀ k, k < w.heap.size → v.ownBlock ≠ some k → w'.heap[k]? = w.heap[k]?) → K (a.put o.dst v') w') : o.wp Try.prog a w K Q := by
  obtain ⟨i, hi, hz, h1, h2⟩ := info_parts hinfo
  subst hm
  have hlen : (rowL f ys).length = ys.length * k := rowL_length hf ys
  have hcells : ∀ j u, (rowL f ys)[j]? = some u → w.cell? ((⟨g, off, none⟩ : Addr).add j) = some u := by
    intro j u hu
    have hj : j < ys.length * k := by
      rcases Nat.lt_or_ge j (ys.length * k) with h | h
      · exact h
      · rw [List.getElem?_eq_none (by rw [hlen]; exact h)] at hu; cases hu
    have hq : j / k < ys.length := Nat.div_lt_of_lt_mul (by rw [Nat.mul_comm]; exact hj)
    have hr : j % k < k := Nat.mod_lt _ hk
    have e : j / k * k + j % k = j := by rw [Nat.mul_comm]; exact Nat.div_add_mod j k
    have h3 := hy (j / k) hq (j % k) hr
    rw [Nat.add_assoc, e] at h3
    rw [Addr.add_lit, h3, ← rowL_get hf ys (j / k) hq (j % k) hr, e]
    exact hu
  obtain ⟨v', w', hrun, ho', hg, _⟩ := run_append_own_at (P := Try.prog) w B T2 o.type T i _ k sz hund hi hz h1 h2 hzs hk v xs.length (rowL f xs) hown ⟨g, off, none⟩ ys.length c (rowL f ys) hlen hcells (fun u hu => by
      obtain ⟨y, hm, hy⟩ := List.mem_flatMap.1 hu
      exact hone y hm u hy) (by simp [maxLen]; omega)
    (by
        have : (xs.length + ys.length) * sz ≤ 100001 * 1000 := Nat.mul_le_mul (by omega) hsz
        omega) hB
  have hbel : Below B w w' := (Below.refl B w).grown hg hB fun k hk => (World.ownsRow.lt hown k hk).1
  have hown' : OwnS f k T w' B v' (xs ++ ys) := by
    unfold OwnS
    rw [List.length_append, rowL_app]
    exact ho'
  have := h v' w' hown' hbel (fun k hk hne => hg.block k hk (Ne.symm hne))
  unfold Oper.wp execOp
  simp only [ho, resolve, invoke, builtin, Sem.run_bind, Sem.run_pure, Result.andThen_ok, List.map_toArray, List.map_cons, List.map_nil, hs, hx, hrun]
  exact this
theorem wpList_appO (hinfo : (Try.prog.info? T).map (fun i => (i.zero, i.size, i.bytes)) = some (some z, k, sz)) (hund : Try.prog.underlying T2 = some (.slice T)) (hzs : z.cells.size = k) (hk : 0 < k) (hsz : sz ≤ 1000)
    (hf : ∀ x, (f x).size = k)
    (hgd : o.guard = none) (s x : Operand) (ho : o.op = .call { callee := .builtin .append, args := #[s, x], argTypes := #[T2, T2] })
    (B : Nat) (v : Value) (xs ys : List α) (hone : ∀ y ∈ ys, ∀ u ∈ (f y).toList, u.oneCell' = true) (hs : a.eval s = v) (hown : OwnS f k T w B v xs) (g off m c : Nat) (hm : m = ys.length) (hx : a.eval x = .slice (some ⟨g, off, none⟩) m c)
    (hy : ∀ i (h : i < ys.length) j, j < k → w.cell? ⟨g, off + i * k + j, none⟩ = (f ys[i])[j]?) (h63 : (xs.length : Int) + (ys.length : Int) ≤ 100000) (hB : B ≤ w.heap.size)
    (h : ∀ v' w', OwnS f k T w' B v' (xs ++ ys) → Below B w w' → (∀ k, k < w.heap.size → v.ownBlock ≠ some k → w'.heap[k]? = w.heap[k]?) → wpList Try.prog ops Q rest (a.put o.dst v') w') : wpList Try.prog ops Q (o :: rest) a w := by
  refine wpList_plain hgd fun K hK => op_appO w hinfo hund hzs hk hsz hf s x ho B v xs ys hone hs hown g off m c hm hx hy h63 hB fun v' w' h1 h2 h3 => hK _ _ (h v' w' h1 h2 h3)
end
end Go.Proofs.Ytjeadmndnbggmaa
