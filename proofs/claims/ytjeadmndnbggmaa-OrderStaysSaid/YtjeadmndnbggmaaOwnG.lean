/- What a call owns at any offset of a block, and append onto it. -/
import Derived.Test.YtjeadmndnbggmaaBase
import Derived.ArgAppend
import Derived.Lib.AppendZeros
import Derived.Lib.AppendZerosOnto
set_option linter.unusedVariables false
set_option linter.unusedSimpArgs false
namespace Go.Proofs.Ytjeadmndnbggmaa
open Go.RowKit

section rows
variable {α : Type} {f : α → Value} {e : TypeId} {w w' : World} {B : Nat} {v : Value} {xs ys : List α}

def OwnG (f : α → Value) (w : World) (B : Nat) (v : Value) (xs : List α) : Prop :=
  (v = .slice none 0 0 ∧ xs = []) ∨
  ∃ g off cap, v = .slice (some ⟨g, off, none⟩) xs.length cap ∧ B ≤ g ∧ g < w.heap.size ∧ xs.length ≤ cap ∧ cap ≤ maxLen ∧
    (∀ j, j < cap → (w.cell? ⟨g, off + j, none⟩).isSome = true ∧ w.frozen? ⟨g, off + j, none⟩ = false) ∧
    ∀ j (h : j < xs.length), w.cell? ⟨g, off + j, none⟩ = some (f xs[j])

theorem Own.gen (h : Own f e w B v xs) : OwnG f w B v xs := by
  have h' := h
  obtain ⟨h1, h2⟩ := h
  rcases h2 with ⟨rfl, h0⟩ | ⟨g, cap, cur, rfl, hg, hh, hn, hm, hs, ht⟩
  · exact .inl ⟨rfl, List.eq_nil_of_length_eq_zero h0⟩
  · have hlt : g < w.heap.size := by
      rcases Nat.lt_or_ge g w.heap.size with h | h
      · exact h
      · rw [Array.getElem?_eq_none h] at hh; cases hh
    refine .inr ⟨g, 0, cap, rfl, hg, hlt, hn, hm, fun j hj => ⟨?_, ?_⟩, fun j hj => ?_⟩
    · rw [Nat.zero_add, cell_of_row w g j cur e (0, 0) hh]
      have : j < cur.size := by omega
      simp [this]
    · simp [World.frozen?, hh]
    · have hj' : (xs.map f)[j]? = some (f xs[j]) := by simp [hj]
      have hcj : cur[j]? = some (f xs[j]) := by
        rw [← ht, List.getElem?_take] at hj'
        split at hj'
        · simpa using hj'
        · cases hj'
      rw [Nat.zero_add, cell_of_row w g j cur e (0, 0) hh]
      exact hcj

theorem OwnG.sl (h : OwnG f w B v xs) : ∃ A c, v = .slice A xs.length c ∧ xs.length ≤ c ∧ c ≤ maxLen ∧ Rd f w A xs := by
  rcases h with ⟨rfl, rfl⟩ | ⟨g, off, cap, rfl, hB, hg, hn, hm, hs, hc⟩
  · exact ⟨none, 0, rfl, Nat.le_refl _, Nat.zero_le _, Rd.nil⟩
  · exact ⟨_, cap, rfl, hn, hm, fun _ => ⟨g, off, rfl, hg, hc⟩⟩
theorem OwnG.below (h : OwnG f w B v xs) (hb : Below w.heap.size w w') : OwnG f w' B v xs := by
  rcases h with h | ⟨g, off, cap, rfl, hB, hg, hn, hm, hs, hc⟩
  · exact .inl h
  · refine .inr ⟨g, off, cap, rfl, hB, Nat.lt_of_lt_of_le hg hb.size, hn, hm, fun j hj => ?_, fun j hj => ?_⟩
    · rw [hb.cell (p := ⟨g, off + j, none⟩) hg, hb.frozen (p := ⟨g, off + j, none⟩) hg]; exact hs j hj
    · rw [hb.cell (p := ⟨g, off + j, none⟩) hg]; exact hc j hj
theorem OwnG.less {B' : Nat} (h : OwnG f w B v xs) (hB : B' ≤ B) : OwnG f w B' v xs := by
  rcases h with h | ⟨g, off, cap, hv, hB', r⟩
  · exact .inl h
  · exact .inr ⟨g, off, cap, hv, Nat.le_trans hB hB', r⟩
theorem OwnG.name (h : OwnG f w B v xs) (n : Nat) (hn : xs.length = n) : ∃ A c ys, v = .slice A ys.length c ∧ Hid (ys = xs) ∧ ys.length ≤ n ∧ n ≤ ys.length ∧ ys.length ≤ c ∧ c ≤ maxLen ∧ Rd f w A ys ∧ OwnG f w B (.slice A ys.length c) ys := by
  obtain ⟨A, c, rfl, h1, h2, h3⟩ := h.sl
  exact ⟨A, c, xs, rfl, rfl, by omega, by omega, h1, h2, h3, h⟩
theorem OwnG.drew (h : OwnG f w B v xs) : OwnG f w.drew B v xs := h
theorem OwnG.cast {xs' : List α} (h : OwnG f w B v xs) (he : xs = xs') : OwnG f w B v xs' := he ▸ h
/-- a slice of what is owned -/
theorem OwnG.cut {A : Option Addr} {c : Nat} (h : OwnG f w B (.slice A xs.length c) xs) {l h' : Nat} (hl : l ≤ h') (hh : h' ≤ xs.length) :
    ∃ A' c', Go.sliced A l h' c 1 = .slice A' ((xs.take h').drop l).length c' ∧ OwnG f w B (.slice A' ((xs.take h').drop l).length c') ((xs.take h').drop l) := by
  have e0 : ((xs.take h').drop l).length = h' - l := by simp [List.length_drop, List.length_take]; omega
  rcases h with ⟨h1, rfl⟩ | ⟨g, off, cap, h1, hB, hg, hn, hm, hs, hc⟩
  · cases h1
    obtain rfl : h' = 0 := by simpa using hh
    obtain rfl : l = 0 := by omega
    exact ⟨none, 0, by simp [Go.sliced], .inl ⟨rfl, rfl⟩⟩
  · cases h1
    by_cases hcl : c = l
    · have hz : (xs.take h').drop l = [] := by
        apply List.eq_nil_of_length_eq_zero; omega
      refine ⟨some ⟨g, off, none⟩, 0, by simp [Go.sliced, e0, hcl], .inr ⟨g, off, 0, by simp, hB, hg, by simp [hz], by simp [maxLen], fun j hj => by omega, fun j hj => by simp [hz] at hj⟩⟩
    · refine ⟨some ⟨g, off + l, none⟩, c - l, ?_, .inr ⟨g, off + l, c - l, rfl, hB, hg, by omega, by omega, fun j hj => ?_, fun j hj => ?_⟩⟩
      · simp [Go.sliced, e0, hcl, Addr.add]
      · rw [Nat.add_assoc]; exact hs (l + j) (by omega)
      · rw [List.getElem_drop, List.getElem_take, Nat.add_assoc]
        exact hc (l + j) (by omega)
/-- a store into what is owned -/
theorem OwnG.set_ {g off cap : Nat} {i : Nat} {y : α} (h : OwnG f w B (.slice (some ⟨g, off, none⟩) xs.length cap) xs) (hi : i < xs.length) :
    OwnG f (w.setCell ⟨g, off + i, none⟩ (f y)) B (.slice (some ⟨g, off, none⟩) (xs.set i y).length cap) (xs.set i y) := by
  rcases h with ⟨h1, _⟩ | ⟨g', off', cap', h1, hB, hg, hn, hm, hs, hc⟩
  · cases h1
  · cases h1
    refine .inr ⟨g, off, cap, rfl, hB, by simpa [World.setCell] using hg, by simpa using hn, hm, fun j hj => ⟨?_, ?_⟩, fun j hj => ?_⟩
    · by_cases hij : j = i
      · subst hij
        obtain ⟨u, hu⟩ := Option.isSome_iff_exists.1 (hs j hj).1
        rw [World.cell?_setCell_same w _ _ hu]; rfl
      · rw [World.cell?_setCell_other _ _ _ _ (by simp only [ne_eq, Addr.mk.injEq]; omega)]; exact (hs j hj).1
    · rw [World.frozen?_setCell]; exact (hs j hj).2
    · rw [List.length_set] at hj
      by_cases hij : j = i
      · subst hij
        rw [World.cell?_setCell_same w _ _ (hc j hi)]
        simp
      · rw [World.cell?_setCell_other _ _ _ _ (by simp only [ne_eq, Addr.mk.injEq]; omega), hc j hj]
        rw [List.getElem_set_ne (by omega)]
theorem below_setCells (B g : Nat) (hg : B ≤ g) : ∀ (vs : List Value) (o : Nat) (w : World), Below B w (w.setCells g o vs)
  | [], _, w => Below.refl _ _
  | v :: r, o, w => ((Below.refl B w).setCell (p := ⟨g, o, none⟩) hg v).trans (below_setCells B g hg r (o + 1) _)
end rows

section laws
variable {α : Type} {f : α → Value} {P : Program} (w : World) {ops : Array Oper} {rest : List Oper} {o : Oper} {a : Act} {Q : Exit → Act → World → Prop}

/-- append of one new element onto what is owned at any offset -/
theorem wpList_appG {t e : TypeId} {by_ : Nat} (T : ElT P t e by_) (hgd : o.guard = none) (s x : Operand)
    (ho : o.op = .call { callee := .builtin .append, args := #[s, x], argTypes := #[t, t] })
    (hf : ∀ x : α, (f x).oneCell' = true)
    (B : Nat) (v : Value) (xs ys : List α) (hs : a.eval s = v) (hown : OwnG f w B v xs)
    (A : Option Addr) (c : Nat) (hx : a.eval x = .slice A ys.length c) (hr : Rd f w A ys) (hne : 0 < ys.length)
    (h63 : xs.length + ys.length ≤ maxLen) (hby : (xs.length + ys.length) * by_ ≤ 140737488355328) (hB : B ≤ w.heap.size)
    (h : ∀ v' w', OwnG f w' B v' (xs ++ ys) → Below B w w' → wpList P ops Q rest (a.put o.dst v') w') : wpList P ops Q (o :: rest) a w := by
  obtain ⟨i, z, hi, hz, h1, h2, h3⟩ := T.inf
  obtain ⟨b, off, rfl, hb, hc⟩ := hr hne
  have hl : (ys.map f).length = ys.length * 1 := by simp
  have hget : ∀ (l : List α) j u, (l.map f)[j]? = some u → ∃ h : j < l.length, u = f l[j] := by
    intro l j u hu
    have hj : j < l.length := by
      rcases Nat.lt_or_ge j l.length with h | h
      · exact h
      · rw [List.getElem?_eq_none (by simpa using h)] at hu; cases hu
    exact ⟨hj, by simpa [hj] using hu.symm⟩
  have hcells : ∀ j u, (ys.map f)[j]? = some u → w.cell? ((⟨b, off, none⟩ : Addr).add j) = some u := by
    intro j u hu
    obtain ⟨hj, rfl⟩ := hget ys j u hu
    rw [Addr.add_lit]; exact hc j hj
  have hone : ∀ u ∈ ys.map f, u.oneCell' = true := by
    intro u hu
    obtain ⟨y, _, rfl⟩ := List.mem_map.1 hu
    exact hf y
  have hfin : ∀ v' w', w'.ownsRow w.heap.size e 1 v' (xs.length + ys.length) (xs.map f ++ ys.map f) → w.grownBy w' none → wpList P ops Q rest (a.put o.dst v') w' := by
    intro v' w' ho' hg
    refine h v' w' (Own.gen (e := e) ?_) ((Below.refl B w).grown hg hB fun k hk => by cases hk)
    have : Own f e w' w.heap.size v' (xs ++ ys) := by
      unfold Own; rw [List.length_append, List.map_append]; exact ho'
    exact this.less hB
  rcases hown with ⟨rfl, rfl⟩ | ⟨g, off0, cap, rfl, hBg, hg, hn, hm, hsp, hcs⟩
  · exact wpList_append_grows (P := P) w hgd s x t ho e i z 1 by_ T.ht hi hz h1 h2 h3 (by decide) none 0 0 [] hs (fun _ => ⟨rfl, rfl⟩) rfl (fun _ h => by cases h) ⟨b, off, none⟩ ys.length c (ys.map f) hx hl hcells hone (by omega) (by simpa using h63) (by simpa using hby)
      (fun v' w' ho' hg => hfin v' w' (by simpa using ho') hg)
  · refine wpList_append_arg (P := P) w hgd s x t ho e i z 1 by_ T.ht hi hz h1 h2 h3 (by decide) g off0 xs.length cap (xs.map f) hs (by simp) (fun j u hu => by obtain ⟨hj, rfl⟩ := hget xs j u hu; exact hcs j hj)
      ⟨b, off, none⟩ ys.length c (ys.map f) hx hl hcells hone (fun hroom j hj => ?_) h63 hby (fun hroom => ?_) (fun _ v' w' ho' hg => hfin v' w' ho' hg)
    · simp only [List.length_map] at hj
      have := hsp (xs.length + j) (by omega)
      rw [Nat.mul_one, Nat.add_assoc]; exact this
    · refine h _ _ (.inr ⟨g, off0, cap, by simp, hBg, ?_, by simpa using hroom, hm, fun j hj => ⟨?_, ?_⟩, fun j hj => ?_⟩) (below_setCells B g hBg _ _ _)
      · exact Nat.lt_of_lt_of_le hg (below_setCells B g hBg _ _ _).size
      · by_cases hin : off0 + xs.length ≤ off0 + j ∧ off0 + j < off0 + xs.length + ys.length
        · obtain ⟨d, rfl⟩ : ∃ d, j = xs.length + d := ⟨j - xs.length, by omega⟩
          have := World.cell?_setCells_in g (ys.map f) (off0 + xs.length * 1) w (fun i hi => by
            simp only [List.length_map] at hi
            rw [Nat.mul_one, Nat.add_assoc]; exact (hsp (xs.length + i) (by omega)).1) d (by simp; omega)
          rw [Nat.mul_one, Nat.add_assoc] at this
          rw [Nat.mul_one, this]; rfl
        · rw [World.cell?_setCells_out g _ _ _ _ (fun _ _ => by simp only [List.length_map]; omega)]
          exact (hsp j hj).1
      · rw [World.frozen?_setCells]; exact (hsp j hj).2
      · simp only [List.length_append] at hj
        by_cases hin : xs.length ≤ j
        · obtain ⟨d, rfl⟩ : ∃ d, j = xs.length + d := ⟨j - xs.length, by omega⟩
          have := World.cell?_setCells_in g (ys.map f) (off0 + xs.length * 1) w (fun i hi => by
            simp only [List.length_map] at hi
            rw [Nat.mul_one, Nat.add_assoc]; exact (hsp (xs.length + i) (by omega)).1) d (by simp; omega)
          rw [Nat.mul_one, Nat.add_assoc] at this
          rw [Nat.mul_one, this]
          simp
        · rw [World.cell?_setCells_out g _ _ _ _ (fun _ _ => by simp only [List.length_map]; omega), hcs j (by omega)]
          rw [List.getElem_append_left]

/-- a slice of what is owned, of bounds that fit -/
theorem wpList_slG {t e : TypeId} {by_ : Nat} (T : ElT P t e by_) (hgd : o.guard = none) (x : Operand) (lo hi : Option Operand) (ho : o.op = .slice t x lo hi none)
    (B : Nat) (A : Option Addr) (xs : List α) (c : Nat) (hx : a.eval x = .slice A xs.length c) (hr : OwnG f w B (.slice A xs.length c) xs)
    (l h : Int) (hlo : lo = none ∧ l = 0 ∨ ∃ k p, lo = some p ∧ a.eval p = .int k l) (hhi : hi = none ∧ h = xs.length ∨ ∃ k p, hi = some p ∧ a.eval p = .int k h)
    (h0 : 0 ≤ l) (h1 : l ≤ h) (h2 : h ≤ xs.length)
    (hK : ∀ A' ys c', OwnG f w B (.slice A' ys.length c') ys → Hid (ys = (xs.take h.toNat).drop l.toNat) → (ys.length : Int) ≤ h - l → h - l ≤ (ys.length : Int) → wpList P ops Q rest (a.put o.dst (.slice A' ys.length c')) w) : wpList P ops Q (o :: rest) a w := by
  have hlen : ((xs.take h.toNat).drop l.toNat).length = h.toNat - l.toNat := by simp [List.length_drop, List.length_take]; omega
  obtain ⟨A0, c0, e0, hc, _, hr0⟩ := hr.sl
  cases e0
  obtain ⟨A', c', e1, hcut⟩ := hr.cut (l := l.toNat) (h' := h.toNat) (by omega) (by omega)
  refine wpList_plain hgd fun K hK' => ?_
  have hrun := run_sl (P := P) w T (A := A) (n := xs.length) (c := c) hc (lo.map a.eval) (hi.map a.eval) l h h0 h1 h2
    (by
        rcases hlo with ⟨rfl, e⟩ | ⟨k, p, rfl, e⟩
        · exact .inl ⟨rfl, e⟩
        · exact .inr ⟨k, by simp [e]⟩)
    (by
        rcases hhi with ⟨rfl, e⟩ | ⟨k, p, rfl, e⟩
        · exact .inl ⟨rfl, e⟩
        · exact .inr ⟨k, by simp [e]⟩)
  rw [e1] at hrun
  have := hK' _ _ (hK A' _ c' hcut rfl (by omega) (by omega))
  unfold Oper.wp execOp
  simp only [ho, Sem.run_bind, Sem.run_pure, Result.andThen_ok, hx]
  rw [show (Option.map a.eval (none : Option Operand)) = none from rfl, run_sliceAt_slice w t _ _ _ _ (by simp [Program.elem, T.ht]), hrun]
  exact this

/-- append of what is read, empty or not, onto what is owned at any offset -/
theorem wpList_appGe {t e : TypeId} {by_ : Nat} (T : ElT P t e by_) (hgd : o.guard = none) (s x : Operand)
    (ho : o.op = .call { callee := .builtin .append, args := #[s, x], argTypes := #[t, t] })
    (hf : ∀ x : α, (f x).oneCell' = true)
    (B : Nat) (v : Value) (xs ys : List α) (hs : a.eval s = v) (hown : OwnG f w B v xs)
    (A : Option Addr) (c : Nat) (hx : a.eval x = .slice A ys.length c) (hr : Rd f w A ys)
    (h63 : xs.length + ys.length ≤ maxLen) (hby : (xs.length + ys.length) * by_ ≤ 140737488355328) (hB : B ≤ w.heap.size)
    (h : ∀ v' w', OwnG f w' B v' (xs ++ ys) → Below B w w' → wpList P ops Q rest (a.put o.dst v') w') : wpList P ops Q (o :: rest) a w := by
  by_cases hne : 0 < ys.length
  · exact wpList_appG w T hgd s x ho hf B v xs ys hs hown A c hx hr hne h63 hby hB h
  · have h0 : ys = [] := List.eq_nil_of_length_eq_zero (by omega)
    subst h0
    rcases id hown with ⟨rfl, rfl⟩ | ⟨g, off0, cap, rfl, hBg, hg, hn, hm, hsp, hcs⟩
    · exact wpList_app (f := f) w T hgd s x ho hf B _ [] [] hs Own.nil_ A c hx hr h63 hby hB (fun v' w' h1 h2 => h v' w' h1.gen h2)
    · obtain ⟨i, z, hi, hz, h1, h2, h3⟩ := T.inf
      refine wpList_plain hgd fun K hK => ?_
      have := hK _ _ (h _ w (by simpa using hown) (Below.refl _ _))
      have hrun : (Builtin.append_ #[t, t] o.type #[.slice (some ⟨g, off0, none⟩) xs.length cap, .slice A 0 c]).run P w = .ok (.slice (some ⟨g, off0, none⟩) xs.length cap) w := by
        rcases A with _ | ad
        · simp [Builtin.append_, run_underlying T.ht, sizeOf, typeInfo, hi, Builtin.lenOf, Builtin.firstCells, hn, storeCells]
        · have := run_append_room_cells (P := P) w t o.type e i T.ht hi g off0 xs.length cap ad 0 c [] (by simp) (by simp) (by simp) (by simpa using hn) (by simp) (by simp)
          simpa [World.setCells] using this
      unfold Oper.wp execOp
      simp only [List.length_nil] at hx
      simp only [ho, resolve, invoke, builtin, Sem.run_bind, Sem.run_pure, Result.andThen_ok, List.map_toArray, List.map_cons, List.map_nil, hs, hx, hrun]
      exact this

/-- make of n noughts -/
theorem wpList_mkz {t e : TypeId} {by_ : Nat} (T : ElT P t e by_) (z0 : α) (hz0 : ∀ i, P.info? e = some i → i.zero = some (f z0)) (hzc : (f z0).cells = #[f z0]) (hgd : o.guard = none) (l c : Operand) (hop : o.op = Op.makeSlice t l c)
    (B : Nat) (kl kc : IntKind) (N : Int) (hl : a.eval l = .int kl N) (hc : a.eval c = .int kc N) (h0 : 0 ≤ N) (hby : by_ * N ≤ 281474976710656) (hm : N ≤ 281474976710656) (hB : B ≤ w.heap.size)
    (h : ∀ v' w' (zs : List α), OwnG f w' B v' zs → Hid (zs = List.replicate N.toNat z0) → zs.length ≤ N.toNat → N.toNat ≤ zs.length → Below B w w' → wpList P ops Q rest (a.put o.dst v') w') : wpList P ops Q (o :: rest) a w := by
  obtain ⟨i, z, hi, hz, h1, h2, h3⟩ := T.inf
  obtain rfl : z = f z0 := by have := hz0 i hi; rw [hz] at this; injection this
  refine wpList_plain hgd fun K hK => ?_
  have hrun := run_make (P := P) w t e i (f z0) T.ht hi hz kl kc N N h0 (Int.le_refl _) (by rw [h2]; exact hby) (by omega)
  rw [h1, Nat.mul_one] at hrun
  have hmc : (madeCells (f z0).cells N.toNat).toList = List.replicate N.toNat (f z0) := by
    rw [hzc]
    apply List.ext_getElem
    · simp [madeCells]
    · intro j h1 h2
      simp [madeCells, Nat.mod_one]
  have hsz : (madeCells (f z0).cells N.toNat).size = N.toNat := by rw [← Array.length_toList, hmc]; simp
  have hown : OwnG f (w.alloc (.cells (madeCells (f z0).cells N.toNat) e)) B (.slice (some ⟨w.heap.size, 0, none⟩) (List.replicate N.toNat z0).length N.toNat) (List.replicate N.toNat z0) :=
    Own.gen (e := e) ⟨by simp, .inr ⟨w.heap.size, N.toNat, _, rfl, hB, heap_alloc_new w _, by simp, by simp only [maxLen]; omega, by omega, by rw [hmc]; simp⟩⟩
  have := hK _ _ (h _ _ _ hown rfl (by simp) (by simp) ((Below.refl B w).alloc hB _))
  unfold Oper.wp execOp
  simp only [hop, Sem.run_bind, Sem.run_pure, Result.andThen_ok, hl, hc, hrun]
  simp only [List.length_replicate] at this
  exact this

theorem zeroCells_one (Z : Value) (n : Nat) : (Builtin.zeroCells #[Z] n).toList = List.replicate n Z := by
  apply List.ext_getElem
  · simp [Builtin.zeroCells]
  · intro i h1 h2
    simp [Builtin.zeroCells, Nat.mod_one]

/-- append of n noughts (made by make) onto what is owned -/
theorem wpList_appz {t tn e : TypeId} {by_ : Nat} (T : ElT P t e by_) (z0 : α) (hz0 : ∀ i, P.info? e = some i → i.zero = some (f z0)) (hzc : (f z0).cells = #[f z0]) {kn : IntKind} (htn : P.underlying tn = some (.int kn)) (hgd : o.guard = none) (s x : Operand)
    (ho : o.op = .call { callee := .builtin .append, args := #[s, x], argTypes := #[t, tn] })
    (hf : (f z0).oneCell' = true)
    (B : Nat) (v : Value) (xs : List α) (hs : a.eval s = v) (hown : OwnG f w B v xs)
    (k : IntKind) (n : Nat) (hx : a.eval x = .int k n)
    (h63 : (xs.length : Int) + n ≤ 140737488355328) (hby : (xs.length + n) * by_ ≤ 140737488355328) (hb0 : 0 < by_) (hB : B ≤ w.heap.size)
    (h : ∀ v' w', OwnG f w' B v' (xs ++ List.replicate n z0) → Below B w w' → wpList P ops Q rest (a.put o.dst v') w') : wpList P ops Q (o :: rest) a w := by
  obtain ⟨i, z, hi, hz, h1, h2, h3⟩ := T.inf
  obtain rfl : z = f z0 := by have := hz0 i hi; rw [hz] at this; injection this
  have hnb : n * i.bytes ≤ 140737488355328 := by
    rw [h2]
    exact Nat.le_trans (Nat.mul_le_mul_right by_ (Nat.le_add_left n xs.length)) hby
  have hn48 : ¬ (281474976710656 < (n : Int) * (i.bytes : Int)) := by
    rw [← Int.natCast_mul]; omega
  have hw : IntKind.i64.wrap (n : Int) = n := by rw [IntKind.wrap_i64]; omega
  have hneg : ¬ ((n : Int) < 0) := by omega
  -- where there is room
  have room : ∀ (g off cap : Nat), v = .slice (some ⟨g, off, none⟩) xs.length cap → xs.length + n ≤ cap → (∀ j, j < cap → (w.cell? ⟨g, off + j, none⟩).isSome = true ∧ w.frozen? ⟨g, off + j, none⟩ = false) →
      (Builtin.append_ #[t, tn] o.type #[v, .int k n]).run P w = .ok (.slice (some ⟨g, off, none⟩) (xs.length + n) cap) (w.setCells g (off + xs.length) (List.replicate n (f z0))) := by
    rintro g off cap rfl hroom hsp
    have hst := run_storeCells_cells (P := P) g (off + xs.length) (List.replicate n (f z0)) 0 w (fun j hj => by
      simp only [List.length_replicate] at hj
      have := (hsp (xs.length + j) (by omega)).1
      simpa [Nat.add_assoc] using this) (fun j hj => by
      simp only [List.length_replicate] at hj
      have := (hsp (xs.length + j) (by omega)).2
      simpa [Nat.add_assoc] using this) (fun v hv => by rw [(List.mem_replicate.1 hv).2]; exact hf)
    simp only [Nat.add_zero] at hst
    by_cases hn0 : n = 0
    · subst hn0
      simp only [List.replicate_zero] at hst ⊢
      have hroom' : xs.length ≤ cap := by omega
      have hw0 : IntKind.i64.wrap 0 = 0 := by simpa using hw
      simp [Builtin.append_, run_underlying T.ht, run_underlying htn, sizeOf, typeInfo, zeroValue, hi, hz, asInt, asIntOf, hw0, h1, hroom', Question.forced, Addr.add_lit, hst]
    · simp [Builtin.append_, run_underlying T.ht, run_underlying htn, sizeOf, typeInfo, zeroValue, hi, hz, asInt, asIntOf, hw, h1, hn48, hneg, hn0, hroom, Question.forced, Addr.add_lit, hzc, zeroCells_one, hst]
  -- where there is none
  have grow : ∀ (A : Option Addr) (cap : Nat), v = .slice A xs.length cap → Rd f w A xs → cap < xs.length + n →
      ∃ C : Array Value, ∃ gc, (Builtin.append_ #[t, tn] o.type #[v, .int k n]).run P w = .ok (.slice (some ⟨w.heap.size, 0, none⟩) (xs.length + n) gc) (w.drew.alloc (.cells C e)) ∧ xs.length + n ≤ gc ∧ gc ≤ maxLen ∧ C.size = gc ∧ C.toList.take (xs.length + n) = (xs ++ List.replicate n z0).map f := by
    rintro A cap rfl hr hcap
    by_cases hn0 : n = 0
    · exfalso
      subst hn0
      obtain ⟨A', c', e', h', _⟩ := hown.sl
      cases e'
      omega
    have hold : (Builtin.firstCells i.size xs.length (.slice A xs.length cap)).run P w.drew = .ok (xs.map f).toArray w.drew := by
      rw [h1]
      rcases A with _ | ad
      · have : xs = [] := by
          rcases Nat.eq_zero_or_pos xs.length with h | h
          · exact List.eq_nil_of_length_eq_zero h
          · obtain ⟨_, _, h, _⟩ := hr h; cases h
        subst this
        simp [Builtin.firstCells]
      · have hl : (xs.map f).length = xs.length * 1 := by simp
        have := run_firstCells_some (P := P) w.drew 1 xs.length ad xs.length cap (xs.map f) hl (fun j u hu => by
          have hj : j < xs.length := by
            rcases Nat.lt_or_ge j xs.length with h | h
            · exact h
            · rw [List.getElem?_eq_none (by simpa using h)] at hu; cases hu
          have hu' : u = f xs[j] := by simpa [hj] using hu.symm
          subst hu'
          obtain ⟨b, off, he, hb, hc⟩ := hr (by omega)
          injection he with he
          subst he
          rw [Addr.add_lit]; exact hc j hj)
        exact this
    have hge := grownCap_ge w (xs.length + n) cap e
    have hcm : grownCap w (xs.length + n) cap e ≤ maxLen := grownCap_le_maxLen w (xs.length + n) cap e (by simp only [maxLen]; omega)
    refine ⟨_, _, Lib.run_append_grow_zeros (P := P) w t tn o.type e i (f z0) k kn T.ht htn hi hz A xs.length cap (xs.map f) hold n (by omega) (by omega) hcap (by omega) (by omega) (growslice_fits hcap (by rw [h2]; exact hby)), hge, hcm, ?_, ?_⟩
    · rw [hzc]
      simp only [Array.size_append, List.size_toArray, size_zeroCells, List.length_map]
      simp
      omega
    · rw [hzc]
      simp only [Array.toList_append, zeroCells_one, List.map_append, List.map_replicate]
      rw [List.take_append_of_le_length (by simp)]
      rw [List.take_of_length_le (by simp)]
  refine wpList_plain hgd fun K hK => ?_
  have fin : ∀ v' w', (Builtin.append_ #[t, tn] o.type #[v, .int k n]).run P w = .ok v' w' → OwnG f w' B v' (xs ++ List.replicate n z0) → Below B w w' → o.wp P a w K Q := by
    intro v' w' hrun ho' hb'
    have := hK _ _ (h v' w' ho' hb')
    unfold Oper.wp execOp
    simp only [ho, resolve, invoke, builtin, Sem.run_bind, Sem.run_pure, Result.andThen_ok, List.map_toArray, List.map_cons, List.map_nil, hs, hx, hrun]
    exact this
  have fing : ∀ (C : Array Value) (gc : Nat), (Builtin.append_ #[t, tn] o.type #[v, .int k n]).run P w = .ok (.slice (some ⟨w.heap.size, 0, none⟩) (xs.length + n) gc) (w.drew.alloc (.cells C e)) → xs.length + n ≤ gc → gc ≤ maxLen → C.size = gc → C.toList.take (xs.length + n) = (xs ++ List.replicate n z0).map f → o.wp P a w K Q := by
    intro C gc hrun q1 q2 q3 q4
    refine fin _ _ hrun ?_ (((Below.refl B w).drew).alloc hB _)
    have q5 : (xs ++ List.replicate n z0).length = xs.length + n := by simp
    have : Own f e (w.drew.alloc (.cells C e)) B (.slice (some ⟨w.heap.size, 0, none⟩) (xs ++ List.replicate n z0).length gc) (xs ++ List.replicate n z0) := by
      refine ⟨by simp, .inr ⟨w.heap.size, gc, C, rfl, hB, heap_alloc_new w.drew _, by omega, q2, by omega, ?_⟩⟩
      rw [q5, Nat.mul_one, q4]
    have := this.gen
    rw [q5] at this
    exact this
  have hown' := hown
  rcases hown with ⟨hv, hx0⟩ | ⟨g, off0, cap, hv, hBg, hg, hn, hm, hsp, hcs⟩
  · subst hx0
    by_cases hn0 : n = 0
    · subst hn0
      refine fin v w ?_ (by simpa using hown') (Below.refl _ _)
      subst hv
      have hw0 : IntKind.i64.wrap 0 = 0 := by simpa using hw
      simp [Builtin.append_, run_underlying T.ht, run_underlying htn, sizeOf, typeInfo, zeroValue, hi, hz, asInt, asIntOf, hw0, h1, Question.forced]
    · obtain ⟨C, gc, q0, q1, q2, q3, q4⟩ := grow none 0 hv Rd.nil (by simp; omega)
      exact fing C gc q0 q1 q2 q3 q4
  · by_cases hroom : xs.length + n ≤ cap
    · refine fin _ _ (room g off0 cap hv hroom hsp) (.inr ⟨g, off0, cap, by simp, hBg, ?_, by simpa using hroom, hm, fun j hj => ⟨?_, ?_⟩, fun j hj => ?_⟩) (below_setCells B g hBg _ _ _)
      · exact Nat.lt_of_lt_of_le hg (below_setCells B g hBg _ _ _).size
      · by_cases hin : off0 + xs.length ≤ off0 + j ∧ off0 + j < off0 + xs.length + n
        · obtain ⟨d, rfl⟩ : ∃ d, j = xs.length + d := ⟨j - xs.length, by omega⟩
          have := World.cell?_setCells_in g (List.replicate n (f z0)) (off0 + xs.length) w (fun i hi => by
            simp only [List.length_replicate] at hi
            rw [Nat.add_assoc]; exact (hsp (xs.length + i) (by omega)).1) d (by simp; omega)
          rw [Nat.add_assoc] at this
          rw [this]; rfl
        · rw [World.cell?_setCells_out g _ _ _ _ (fun _ _ => by simp only [List.length_replicate]; omega)]
          exact (hsp j hj).1
      · rw [World.frozen?_setCells]; exact (hsp j hj).2
      · simp only [List.length_append, List.length_replicate] at hj
        by_cases hin : xs.length ≤ j
        · obtain ⟨d, rfl⟩ : ∃ d, j = xs.length + d := ⟨j - xs.length, by omega⟩
          have := World.cell?_setCells_in g (List.replicate n (f z0)) (off0 + xs.length) w (fun i hi => by
            simp only [List.length_replicate] at hi
            rw [Nat.add_assoc]; exact (hsp (xs.length + i) (by omega)).1) d (by simp; omega)
          rw [Nat.add_assoc] at this
          rw [this]
          simp
        · rw [World.cell?_setCells_out g _ _ _ _ (fun _ _ => by simp only [List.length_replicate]; omega), hcs j (by omega)]
          rw [List.getElem_append_left]
    · obtain ⟨C, gc, q0, q1, q2, q3, q4⟩ := grow _ _ hv (fun _ => ⟨g, off0, rfl, hg, hcs⟩) (by omega)
      exact fing C gc q0 q1 q2 q3 q4
end laws
end Go.Proofs.Ytjeadmndnbggmaa
