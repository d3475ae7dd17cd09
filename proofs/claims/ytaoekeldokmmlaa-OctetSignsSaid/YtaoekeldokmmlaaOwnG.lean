/- What a call owns at any offset of a block, and append onto it. -/
import Derived.Test.YtaoekeldokmmlaaBase
import Derived.ArgAppend
namespace Go.Proofs.Ytaoekeldokmmlaa
open Go.RowKit

section rows
variable {α : Type} {f : α → Value} {e : TypeId} {w w' : World} {B : Nat} {v : Value} {xs ys : List α}

def OwnG (f : α → Value) (w : World) (B : Nat) (v : Value) (xs : List α) : Prop :=
  (v = .slice none 0 0 ∧ xs = []) ∨
  ∃ g off cap, v = .slice (some ⟨g, off, none⟩) xs.length cap ∧ B ≤ g ∧ g < w.heap.size ∧ xs.length ≤ cap ∧ cap ≤ maxLen ∧
    (∀ j, j < cap → (w.cell? ⟨g, off + j, none⟩).isSome = true ∧ w.frozen? ⟨g, off + j, none⟩ = false) ∧
    ∀ j (h : j < xs.length), w.cell? ⟨g, off + j, none⟩ = some (f xs[j])

theorem Own.gen (h : Own f e w B v xs) : OwnG f w B v xs := by
  have h' := h
  obtain ⟨h1, h2⟩ := h
  rcases h2 with ⟨rfl, h0⟩ | ⟨g, cap, cur, rfl, hg, hh, hn, hm, hs, ht⟩
  · exact .inl ⟨rfl, List.eq_nil_of_length_eq_zero h0⟩
  · have hlt : g < w.heap.size := by
      rcases Nat.lt_or_ge g w.heap.size with h | h
      · exact h
      · rw [Array.getElem?_eq_none h] at hh; cases hh
    refine .inr ⟨g, 0, cap, rfl, hg, hlt, hn, hm, fun j hj => ⟨?_, ?_⟩, fun j hj => ?_⟩
    · rw [Nat.zero_add, cell_of_row w g j cur e (0, 0) hh]
      have : j < cur.size := by omega
      simp [this]
    · simp [World.frozen?, hh]
    · have hj' : (xs.map f)[j]? = some (f xs[j]) := by simp [hj]
      have hcj : cur[j]? = some (f xs[j]) := by
        rw [← ht, List.getElem?_take] at hj'
        split at hj'
        · simpa using hj'
        · cases hj'
      rw [Nat.zero_add, cell_of_row w g j cur e (0, 0) hh]
      exact hcj

theorem OwnG.sl (h : OwnG f w B v xs) : ∃ A c, v = .slice A xs.length c ∧ xs.length ≤ c ∧ c ≤ maxLen ∧ Rd f w A xs := by
  rcases h with ⟨rfl, rfl⟩ | ⟨g, off, cap, rfl, hB, hg, hn, hm, hs, hc⟩
  · exact ⟨none, 0, rfl, Nat.le_refl _, Nat.zero_le _, Rd.nil⟩
  · exact ⟨_, cap, rfl, hn, hm, fun _ => ⟨g, off, rfl, hg, hc⟩⟩
theorem OwnG.below (h : OwnG f w B v xs) (hb : Below w.heap.size w w') : OwnG f w' B v xs := by
  rcases h with h | ⟨g, off, cap, rfl, hB, hg, hn, hm, hs, hc⟩
  · exact .inl h
  · refine .inr ⟨g, off, cap, rfl, hB, Nat.lt_of_lt_of_le hg hb.size, hn, hm, fun j hj => ?_, fun j hj => ?_⟩
    · rw [hb.cell (p := ⟨g, off + j, none⟩) hg, hb.frozen (p := ⟨g, off + j, none⟩) hg]; exact hs j hj
    · rw [hb.cell (p := ⟨g, off + j, none⟩) hg]; exact hc j hj
theorem OwnG.less {B' : Nat} (h : OwnG f w B v xs) (hB : B' ≤ B) : OwnG f w B' v xs := by
  rcases h with h | ⟨g, off, cap, hv, hB', r⟩
  · exact .inl h
  · exact .inr ⟨g, off, cap, hv, Nat.le_trans hB hB', r⟩
theorem OwnG.name (h : OwnG f w B v xs) (n : Nat) (hn : xs.length = n) : ∃ A c ys, v = .slice A ys.length c ∧ Hid (ys = xs) ∧ ys.length ≤ n ∧ n ≤ ys.length ∧ ys.length ≤ c ∧ c ≤ maxLen ∧ Rd f w A ys ∧ OwnG f w B (.slice A ys.length c) ys := by
  obtain ⟨A, c, rfl, h1, h2, h3⟩ := h.sl
  exact ⟨A, c, xs, rfl, rfl, by omega, by omega, h1, h2, h3, h⟩
theorem OwnG.cast {xs' : List α} (h : OwnG f w B v xs) (he : xs = xs') : OwnG f w B v xs' := he ▸ h
/-- a slice of what is owned -/
theorem OwnG.cut {A : Option Addr} {c : Nat} (h : OwnG f w B (.slice A xs.length c) xs) {l h' : Nat} (hl : l ≤ h') (hh : h' ≤ xs.length) :
    ∃ A' c', Go.sliced A l h' c 1 = .slice A' ((xs.take h').drop l).length c' ∧ OwnG f w B (.slice A' ((xs.take h').drop l).length c') ((xs.take h').drop l) := by
  have e0 : ((xs.take h').drop l).length = h' - l := by simp [List.length_drop, List.length_take]; omega
  rcases h with ⟨h1, rfl⟩ | ⟨g, off, cap, h1, hB, hg, hn, hm, hs, hc⟩
  · cases h1
    obtain rfl : h' = 0 := by simpa using hh
    obtain rfl : l = 0 := by omega
    exact ⟨none, 0, by simp [Go.sliced], .inl ⟨rfl, rfl⟩⟩
  · cases h1
    by_cases hcl : c = l
    · have hz : (xs.take h').drop l = [] := by
        apply List.eq_nil_of_length_eq_zero; omega
      refine ⟨some ⟨g, off, none⟩, 0, by simp [Go.sliced, e0, hcl], .inr ⟨g, off, 0, by simp, hB, hg, by simp [hz], by simp [maxLen], fun j hj => by omega, fun j hj => by simp [hz] at hj⟩⟩
    · refine ⟨some ⟨g, off + l, none⟩, c - l, ?_, .inr ⟨g, off + l, c - l, rfl, hB, hg, by omega, by omega, fun j hj => ?_, fun j hj => ?_⟩⟩
      · simp [Go.sliced, e0, hcl, Addr.add]
      · rw [Nat.add_assoc]; exact hs (l + j) (by omega)
      · rw [List.getElem_drop, List.getElem_take, Nat.add_assoc]
        exact hc (l + j) (by omega)
theorem below_setCells (B g : Nat) (hg : B ≤ g) : ∀ (vs : List Value) (o : Nat) (w : World), Below B w (w.setCells g o vs)
  | [], _, w => Below.refl _ _
  | v :: r, o, w => ((Below.refl B w).setCell (p := ⟨g, o, none⟩) hg v).trans (below_setCells B g hg r (o + 1) _)
end rows

section laws
variable {α : Type} {f : α → Value} {P : Program} (w : World) {ops : Array Oper} {rest : List Oper} {o : Oper} {a : Act} {Q : Exit → Act → World → Prop}

/-- append of one new element onto what is owned at any offset -/
theorem wpList_appG {t e : TypeId} {by_ : Nat} (T : ElT P t e by_) (hgd : o.guard = none) (s x : Operand)
    (ho : o.op = .call { callee := .builtin .append, args := #[s, x], argTypes := #[t, t] })
    (hf : ∀ x : α, (f x).oneCell' = true)
    (B : Nat) (v : Value) (xs ys : List α) (hs : a.eval s = v) (hown : OwnG f w B v xs)
    (A : Option Addr) (c : Nat) (hx : a.eval x = .slice A ys.length c) (hr : Rd f w A ys) (hne : 0 < ys.length)
    (h63 : xs.length + ys.length ≤ maxLen) (hby : (xs.length + ys.length) * by_ ≤ 140737488355328) (hB : B ≤ w.heap.size)
    (h : ∀ v' w', OwnG f w' B v' (xs ++ ys) → Below B w w' → wpList P ops Q rest (a.put o.dst v') w') : wpList P ops Q (o :: rest) a w := by
  obtain ⟨i, z, hi, hz, h1, h2, h3⟩ := T.inf
  obtain ⟨b, off, rfl, hb, hc⟩ := hr hne
  have hl : (ys.map f).length = ys.length * 1 := by simp
  have hget : ∀ (l : List α) j u, (l.map f)[j]? = some u → ∃ h : j < l.length, u = f l[j] := by
    intro l j u hu
    have hj : j < l.length := by
      rcases Nat.lt_or_ge j l.length with h | h
      · exact h
      · rw [List.getElem?_eq_none (by simpa using h)] at hu; cases hu
    exact ⟨hj, by simpa [hj] using hu.symm⟩
  have hcells : ∀ j u, (ys.map f)[j]? = some u → w.cell? ((⟨b, off, none⟩ : Addr).add j) = some u := by
    intro j u hu
    obtain ⟨hj, rfl⟩ := hget ys j u hu
    rw [Addr.add_lit]; exact hc j hj
  have hone : ∀ u ∈ ys.map f, u.oneCell' = true := by
    intro u hu
    obtain ⟨y, _, rfl⟩ := List.mem_map.1 hu
    exact hf y
  have hfin : ∀ v' w', w'.ownsRow w.heap.size e 1 v' (xs.length + ys.length) (xs.map f ++ ys.map f) → w.grownBy w' none → wpList P ops Q rest (a.put o.dst v') w' := by
    intro v' w' ho' hg
    refine h v' w' (Own.gen (e := e) ?_) ((Below.refl B w).grown hg hB fun k hk => by cases hk)
    have : Own f e w' w.heap.size v' (xs ++ ys) := by
      unfold Own; rw [List.length_append, List.map_append]; exact ho'
    exact this.less hB
  rcases hown with ⟨rfl, rfl⟩ | ⟨g, off0, cap, rfl, hBg, hg, hn, hm, hsp, hcs⟩
  · exact wpList_append_grows (P := P) w hgd s x t ho e i z 1 by_ T.ht hi hz h1 h2 h3 (by decide) none 0 0 [] hs (fun _ => ⟨rfl, rfl⟩) rfl (fun _ h => by cases h) ⟨b, off, none⟩ ys.length c (ys.map f) hx hl hcells hone (by omega) (by simpa using h63) (by simpa using hby)
      (fun v' w' ho' hg => hfin v' w' (by simpa using ho') hg)
  · refine wpList_append_arg (P := P) w hgd s x t ho e i z 1 by_ T.ht hi hz h1 h2 h3 (by decide) g off0 xs.length cap (xs.map f) hs (by simp) (fun j u hu => by obtain ⟨hj, rfl⟩ := hget xs j u hu; exact hcs j hj)
      ⟨b, off, none⟩ ys.length c (ys.map f) hx hl hcells hone (fun hroom j hj => ?_) h63 hby (fun hroom => ?_) (fun _ v' w' ho' hg => hfin v' w' ho' hg)
    · simp only [List.length_map] at hj
      have := hsp (xs.length + j) (by omega)
      rw [Nat.mul_one, Nat.add_assoc]; exact this
    · refine h _ _ (.inr ⟨g, off0, cap, by simp, hBg, ?_, by simpa using hroom, hm, fun j hj => ⟨?_, ?_⟩, fun j hj => ?_⟩) (below_setCells B g hBg _ _ _)
      · exact Nat.lt_of_lt_of_le hg (below_setCells B g hBg _ _ _).size
      · by_cases hin : off0 + xs.length ≤ off0 + j ∧ off0 + j < off0 + xs.length + ys.length
        · obtain ⟨d, rfl⟩ : ∃ d, j = xs.length + d := ⟨j - xs.length, by omega⟩
          have := World.cell?_setCells_in g (ys.map f) (off0 + xs.length * 1) w (fun i hi => by
            simp only [List.length_map] at hi
            rw [Nat.mul_one, Nat.add_assoc]; exact (hsp (xs.length + i) (by omega)).1) d (by simp; omega)
          rw [Nat.mul_one, Nat.add_assoc] at this
          rw [Nat.mul_one, this]; rfl
        · rw [World.cell?_setCells_out g _ _ _ _ (fun _ _ => by simp only [List.length_map]; omega)]
          exact (hsp j hj).1
      · rw [World.frozen?_setCells]; exact (hsp j hj).2
      · simp only [List.length_append] at hj
        by_cases hin : xs.length ≤ j
        · obtain ⟨d, rfl⟩ : ∃ d, j = xs.length + d := ⟨j - xs.length, by omega⟩
          have := World.cell?_setCells_in g (ys.map f) (off0 + xs.length * 1) w (fun i hi => by
            simp only [List.length_map] at hi
            rw [Nat.mul_one, Nat.add_assoc]; exact (hsp (xs.length + i) (by omega)).1) d (by simp; omega)
          rw [Nat.mul_one, Nat.add_assoc] at this
          rw [Nat.mul_one, this]
          simp
        · rw [World.cell?_setCells_out g _ _ _ _ (fun _ _ => by simp only [List.length_map]; omega), hcs j (by omega)]
          rw [List.getElem_append_left]

/-- a slice of what is owned, of bounds that fit -/
theorem wpList_slG {t e : TypeId} {by_ : Nat} (T : ElT P t e by_) (hgd : o.guard = none) (x : Operand) (lo hi : Option Operand) (ho : o.op = .slice t x lo hi none)
    (B : Nat) (A : Option Addr) (xs : List α) (c : Nat) (hx : a.eval x = .slice A xs.length c) (hr : OwnG f w B (.slice A xs.length c) xs)
    (l h : Int) (hlo : lo = none ∧ l = 0 ∨ ∃ k p, lo = some p ∧ a.eval p = .int k l) (hhi : hi = none ∧ h = xs.length ∨ ∃ k p, hi = some p ∧ a.eval p = .int k h)
    (h0 : 0 ≤ l) (h1 : l ≤ h) (h2 : h ≤ xs.length)
    (hK : ∀ A' ys c', OwnG f w B (.slice A' ys.length c') ys → Hid (ys = (xs.take h.toNat).drop l.toNat) → (ys.length : Int) ≤ h - l → h - l ≤ (ys.length : Int) → wpList P ops Q rest (a.put o.dst (.slice A' ys.length c')) w) : wpList P ops Q (o :: rest) a w := by
  have hlen : ((xs.take h.toNat).drop l.toNat).length = h.toNat - l.toNat := by simp [List.length_drop, List.length_take]; omega
  obtain ⟨A0, c0, e0, hc, _, hr0⟩ := hr.sl
  cases e0
  obtain ⟨A', c', e1, hcut⟩ := hr.cut (l := l.toNat) (h' := h.toNat) (by omega) (by omega)
  refine wpList_plain hgd fun K hK' => ?_
  have hrun := run_sl (P := P) w T (A := A) (n := xs.length) (c := c) hc (lo.map a.eval) (hi.map a.eval) l h h0 h1 h2
    (by rcases hlo with ⟨rfl, e⟩ | ⟨k, p, rfl, e⟩
        · exact .inl ⟨rfl, e⟩
        · exact .inr ⟨k, by simp [e]⟩)
    (by rcases hhi with ⟨rfl, e⟩ | ⟨k, p, rfl, e⟩
        · exact .inl ⟨rfl, e⟩
        · exact .inr ⟨k, by simp [e]⟩)
  rw [e1] at hrun
  have := hK' _ _ (hK A' _ c' hcut rfl (by omega) (by omega))
  unfold Oper.wp execOp
  simp only [ho, Sem.run_bind, Sem.run_pure, Result.andThen_ok, hx]
  rw [show (Option.map a.eval (none : Option Operand)) = none from rfl, run_sliceAt_slice w t _ _ _ _ (by simp [Program.elem, T.ht]), hrun]
  exact this
end laws
end Go.Proofs.Ytaoekeldokmmlaa
