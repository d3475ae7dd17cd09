/- Slices of one-cell elements as lists: what a call owns, what it reads, and how they last. Plain lemmas over any program. -/
import Derived.WalkKit
import Derived.Lib.Hide
import Derived.Lib.ConvBytes
import Derived.Lib.AppendStr
import Derived.Maps.AppendAt
import Derived.Laws.BytesArg
import Derived.Deep.Draws
import Derived.OwnWalk
import Derived.Lib.SlBytesConst
set_option linter.unusedVariables false
set_option linter.unusedSimpArgs false
namespace Go.Proofs.Ytjeadmndnbggmaa
open Go.RowKit

/-- a byte as a value -/
def bv (u : UInt8) : Value := .int .u8 (u.toNat : Int)
theorem bv_eq (u : UInt8) : bv u = .int .u8 (u.toNat : Int) := rfl
theorem bv_ofNat (n : Nat) (k : Int) (h : k = ((n % 256 : Nat) : Int)) : Value.int .u8 k = bv (UInt8.ofNat n) := by
  subst h; simp [bv, UInt8.toNat_ofNat]

/-- a slice type t of one-cell elements e of so many bytes -/
structure ElT (P : Program) (t e : TypeId) (bytes : Nat) : Prop where
  ht : P.underlying t = some (.slice e)
  inf : ∃ i z, P.info? e = some i ∧ i.zero = some z ∧ i.size = 1 ∧ i.bytes = bytes ∧ z.cells.size = 1

section rows
variable {α : Type} {f : α → Value} {e : TypeId} {w w' : World} {B B' : Nat} {v : Value} {A : Option Addr} {xs ys : List α}

/-- what a call owns from block B on, as a list -/
def Own (f : α → Value) (e : TypeId) (w : World) (B : Nat) (v : Value) (xs : List α) : Prop := w.ownsRow B e 1 v xs.length (xs.map f)
/-- the cells behind an address, as a list -/
def Rd (f : α → Value) (w : World) (A : Option Addr) (xs : List α) : Prop :=
  0 < xs.length → ∃ b off, A = some ⟨b, off, none⟩ ∧ b < w.heap.size ∧ ∀ j (h : j < xs.length), w.cell? ⟨b, off + j, none⟩ = some (f xs[j])

theorem Rd.nil : Rd f w A ([] : List α) := fun h => absurd h (by simp)
theorem Rd.keep (h : Rd f w A xs) (hs : w.heap.size ≤ w'.heap.size) (hk : ∀ p : Addr, p.block < w.heap.size → w'.cell? p = w.cell? p) : Rd f w' A xs := fun hn => by
  obtain ⟨b, off, e, hb, hc⟩ := h hn
  exact ⟨b, off, e, by omega, fun j hj => (hk _ hb).trans (hc j hj)⟩
theorem Rd.below (h : Rd f w A xs) (hb : Below w.heap.size w w') : Rd f w' A xs := h.keep hb.size fun _ hp => hb.cell hp
theorem Rd.alloc (h : Rd f w A xs) (o : Obj) : Rd f (w.alloc o) A xs := h.below ((Below.refl _ _).alloc (Nat.le_refl _) o)
theorem Rd.drew (h : Rd f w A xs) : Rd f w.drew A xs := h
theorem Rd.at_ {k : Nat} (h : Rd f w A xs) (hk : k < xs.length) : ∃ b off, A = some ⟨b, off, none⟩ ∧ b < w.heap.size ∧ w.cell? ⟨b, off + k, none⟩ = some (f xs[k]) := by
  obtain ⟨b, off, e, hb, hc⟩ := h (by omega)
  exact ⟨b, off, e, hb, hc k hk⟩
theorem Rd.cast {xs' : List α} (h : Rd f w A xs) (he : xs = xs') : Rd f w A xs' := he ▸ h

/-- a slice of what is read: from l to h -/
theorem Rd.cut {l h cap : Nat} (hr : Rd f w A xs) (hl : l ≤ h) (hh : h ≤ xs.length) (hc : xs.length ≤ cap) :
    Rd f w (if cap = l then A else A.map (·.add (l * 1))) ((xs.take h).drop l) := by
  intro hn
  simp only [List.length_drop, List.length_take] at hn
  obtain ⟨b, off, rfl, hb, hcell⟩ := hr (by omega)
  rw [if_neg (by omega)]
  refine ⟨b, off + l, ?_, hb, fun j hj => ?_⟩
  · by_cases h0 : l = 0 <;> simp [Addr.add, h0]
  · simp only [List.length_drop, List.length_take] at hj
    rw [List.getElem_drop, List.getElem_take, Nat.add_assoc]
    exact hcell (l + j) (by omega)
theorem Rd.sliced {l h cap : Nat} (hr : Rd f w A xs) (hl : l ≤ h) (hh : h ≤ xs.length) (hc : xs.length ≤ cap) :
    ∃ A', sliced A l h cap 1 = .slice A' ((xs.take h).drop l).length (cap - l) ∧ Rd f w A' ((xs.take h).drop l) := by
  have e : ((xs.take h).drop l).length = h - l := by simp [List.length_drop, List.length_take]; omega
  rcases A with _ | a
  · refine ⟨none, ?_, ?_⟩
    · simp [Go.sliced, e]
    · intro hn; obtain ⟨b, off, h, _⟩ := hr (by omega); cases h
  · have hc := hr.cut hl hh hc
    by_cases hcl : cap = l
    · rw [if_pos hcl] at hc
      refine ⟨_, ?_, hc⟩
      simp [Go.sliced, e, hcl]
    · rw [if_neg hcl] at hc
      refine ⟨_, ?_, hc⟩
      simp [Go.sliced, e, hcl]

theorem Own.nil_ : Own f e w B (.slice none 0 0) ([] : List α) := World.ownsRow_nil w B e 1
theorem Own.empty (w : World) : Own f e (w.alloc (.cells #[] e)) w.heap.size (.slice (some ⟨w.heap.size, 0, none⟩) 0 0) ([] : List α) :=
  World.ownsRow_made w #[] 0 (Nat.le_refl _) (Nat.zero_le _) rfl
theorem Own.alloc (h : Own f e w B v xs) (o : Obj) : Own f e (w.alloc o) B v xs := World.ownsRow.alloc h o
theorem Own.drew (h : Own f e w B v xs) : Own f e w.drew B v xs := h
theorem Own.cast {xs' : List α} (h : Own f e w B v xs) (he : xs = xs') : Own f e w B v xs' := he ▸ h
theorem Own.less (h : Own f e w B v xs) (hB : B' ≤ B) : Own f e w B' v xs := by
  obtain ⟨h1, h2⟩ := h
  refine ⟨h1, ?_⟩
  rcases h2 with h2 | ⟨g, cap, cur, hv, hg, r⟩
  · exact .inl h2
  · exact .inr ⟨g, cap, cur, hv, by omega, r⟩
/-- what is owned is a slice that reads as the list -/
theorem Own.sl (h : Own f e w B v xs) : ∃ A c, v = .slice A xs.length c ∧ xs.length ≤ c ∧ c ≤ maxLen ∧ Rd f w A xs := by
  obtain ⟨h1, h2⟩ := h
  rcases h2 with ⟨rfl, h0⟩ | ⟨g, cap, cur, rfl, hg, hh, hn, hm, hs, ht⟩
  · have : xs = [] := List.eq_nil_of_length_eq_zero h0
    subst this
    exact ⟨none, 0, rfl, Nat.le_refl _, Nat.zero_le _, Rd.nil⟩
  · refine ⟨_, cap, rfl, hn, hm, fun _ => ⟨g, 0, rfl, ?_, fun j hj => ?_⟩⟩
    · rcases Nat.lt_or_ge g w.heap.size with h | h
      · exact h
      · rw [Array.getElem?_eq_none h] at hh; cases hh
    · have hj' : (xs.map f)[j]? = some (f xs[j]) := by simp [hj]
      have hcj : cur[j]? = some (f xs[j]) := by
        rw [← ht, List.getElem?_take] at hj'
        split at hj'
        · simpa using hj'
        · cases hj'
      rw [Nat.zero_add]
      rw [cell_of_row w g j cur e (0, 0) hh]
      exact hcj
/-- what is owned, under a name of its own -/
theorem Own.name (h : Own f e w B v xs) (n : Nat) (hn : xs.length = n) : ∃ A c ys, v = .slice A ys.length c ∧ Hid (ys = xs) ∧ ys.length ≤ n ∧ n ≤ ys.length ∧ ys.length ≤ c ∧ c ≤ maxLen ∧ Rd f w A ys ∧ Own f e w B (.slice A ys.length c) ys := by
  obtain ⟨A, c, rfl, h1, h2, h3⟩ := h.sl
  exact ⟨A, c, xs, rfl, rfl, by omega, by omega, h1, h2, h3, h⟩
/-- what is owned lasts if its block does -/
theorem Own.below (h : Own f e w B v xs) (hb : Below w.heap.size w w') : Own f e w' B v xs := by
  obtain ⟨h1, h2⟩ := h
  refine ⟨h1, ?_⟩
  rcases h2 with h2 | ⟨g, cap, cur, hv, hg, hh, r⟩
  · exact .inl h2
  · refine .inr ⟨g, cap, cur, hv, hg, ?_, r⟩
    rw [hb.block g ?_]; exact hh
    rcases Nat.lt_or_ge g w.heap.size with h | h
    · exact h
    · rw [Array.getElem?_eq_none h] at hh; cases hh

end rows

section laws
variable {α : Type} {f : α → Value} {P : Program} (w : World) {ops : Array Oper} {rest : List Oper} {o : Oper} {a : Act} {Q : Exit → Act → World → Prop}

theorem below_grown {B : Nat} {v : Value} {xs : List α} {e : TypeId} {w w' : World} (hown : Own f e w B v xs) (hg : w.grownBy w' v.ownBlock) (hB : B ≤ w.heap.size) : Below B w w' :=
  (Below.refl B w).grown hg hB fun k hk => (World.ownsRow.lt hown k hk).1

/-- append of what is read onto what is owned -/
theorem wpList_app {t e : TypeId} {by_ : Nat} (T : ElT P t e by_) (hgd : o.guard = none) (s x : Operand)
    (ho : o.op = .call { callee := .builtin .append, args := #[s, x], argTypes := #[t, t] })
    (hf : ∀ x : α, (f x).oneCell' = true)
    (B : Nat) (v : Value) (xs ys : List α) (hs : a.eval s = v) (hown : Own f e w B v xs)
    (A : Option Addr) (c : Nat) (hx : a.eval x = .slice A ys.length c) (hr : Rd f w A ys)
    (h63 : xs.length + ys.length ≤ maxLen) (hby : (xs.length + ys.length) * by_ ≤ 140737488355328) (hB : B ≤ w.heap.size)
    (h : ∀ v' w', Own f e w' B v' (xs ++ ys) → Below B w w' → wpList P ops Q rest (a.put o.dst v') w') : wpList P ops Q (o :: rest) a w := by
  refine wpList_plain hgd fun K hK => ?_
  obtain ⟨i, z, hi, hz, h1, h2, h3⟩ := T.inf
  have key : ∃ v' w', (Builtin.append_ #[t, t] o.type #[v, .slice A ys.length c]).run P w = .ok v' w' ∧ Own f e w' B v' (xs ++ ys) ∧ Below B w w' := by
    rcases A with _ | ad
    · have h0 : ys = [] := by
        rcases Nat.eq_zero_or_pos ys.length with h | h
        · exact List.eq_nil_of_length_eq_zero h
        · obtain ⟨_, _, h, _⟩ := hr h; cases h
      subst h0
      refine ⟨v, w, ?_, by simpa using hown, Below.refl _ _⟩
      rcases hown.2 with ⟨rfl, _⟩ | ⟨g, cap, cur, rfl, _, _, hnc, _⟩
      · simp [Builtin.append_, run_underlying T.ht, sizeOf, typeInfo, hi, Builtin.lenOf, Builtin.firstCells]
      · simp [Builtin.append_, run_underlying T.ht, sizeOf, typeInfo, hi, Builtin.lenOf, Builtin.firstCells, hnc, storeCells]
    · have hl : (ys.map f).length = ys.length * 1 := by simp
      have hcells : ∀ j u, (ys.map f)[j]? = some u → w.cell? (ad.add j) = some u := by
        intro j u hu
        have hj : j < ys.length := by
          rcases Nat.lt_or_ge j ys.length with h | h
          · exact h
          · rw [List.getElem?_eq_none (by simpa using h)] at hu; cases hu
        have hu' : u = f ys[j] := by simpa [hj] using hu.symm
        subst hu'
        obtain ⟨b, off, he, hb, hc⟩ := hr (by omega)
        injection he with he
        subst he
        have := hc j hj
        by_cases j0 : j = 0
        · subst j0; simpa [Addr.add] using this
        · simpa [Addr.add, j0] using this
      have hone : ∀ u ∈ ys.map f, u.oneCell' = true := by
        intro u hu
        obtain ⟨y, _, rfl⟩ := List.mem_map.1 hu
        exact hf y
      obtain ⟨v', w', hrun, ho', hg, _⟩ := run_append_own_at (P := P) w B t o.type e i z 1 by_ T.ht hi hz h1 h2 h3 (by decide) v xs.length (xs.map f) hown ad ys.length c (ys.map f) hl hcells hone h63 hby hB
      refine ⟨v', w', hrun, ?_, below_grown hown hg hB⟩
      unfold Own
      rw [List.length_append, List.map_append]
      exact ho'
  obtain ⟨v', w', hrun, ho', hbel⟩ := key
  have := hK _ _ (h v' w' ho' hbel)
  unfold Oper.wp execOp
  simp only [ho, resolve, invoke, builtin, Sem.run_bind, Sem.run_pure, Result.andThen_ok, List.map_toArray, List.map_cons, List.map_nil, hs, hx, hrun]
  exact this

/-- append of a string's bytes onto what is owned -/
theorem len_bytes (s : ByteArray) : s.data.toList.length = s.size := Array.length_toList
theorem strCells_bv (s : ByteArray) : Lib.strCells s = s.data.toList.map bv := rfl
theorem wpList_appstr {t e u : TypeId} (T : ElT P t e 1) (hz0 : ∀ i, P.info? e = some i → i.zero = some (.int .u8 0)) (hu : P.underlying u = some .string) (hgd : o.guard = none) (s x : Operand)
    (ho : o.op = .call { callee := .builtin .append, args := #[s, x], argTypes := #[t, u] })
    (B : Nat) (v : Value) (xs : List UInt8) (hs : a.eval s = v) (hown : Own bv e w B v xs)
    (y : ByteArray) (hx : a.eval x = .string y)
    (hby : xs.length + y.size ≤ 140737488355328) (hB : B ≤ w.heap.size)
    (h : ∀ v' w', Own bv e w' B v' (xs ++ y.data.toList) → Below B w w' → wpList P ops Q rest (a.put o.dst v') w') : wpList P ops Q (o :: rest) a w := by
  obtain ⟨i, z, hi, hz, h1, h2, h3⟩ := T.inf
  refine Lib.wpList_append_own_string (P := P) w hgd s x t u ho B e i T.ht hu hi (hz0 i hi) h1 h2 v xs.length (xs.map bv) hs hown y hx (by simp only [maxLen]; omega) hby hB ?_
  intro v' w' ho' hg _
  refine h v' w' ?_ (below_grown hown hg hB)
  unfold Own
  rw [List.length_append, List.map_append, ← strCells_bv]
  rw [len_bytes]
  exact ho'

/-- make of an empty slice with room -/
theorem wpList_mk0 {t e : TypeId} {by_ : Nat} (T : ElT P t e by_) (hgd : o.guard = none) (l c : Operand) (hop : o.op = Op.makeSlice t l c)
    (B : Nat) (kl kc : IntKind) (C : Int) (hl : a.eval l = .int kl 0) (hc : a.eval c = .int kc C) (h0 : 0 ≤ C) (hby : by_ * C ≤ 281474976710656) (hm : C ≤ 281474976710656) (hB : B ≤ w.heap.size)
    (h : ∀ v' w', Own f e w' B v' ([] : List α) → Below B w w' → wpList P ops Q rest (a.put o.dst v') w') : wpList P ops Q (o :: rest) a w := by
  obtain ⟨i, z, hi, hz, h1, h2, h3⟩ := T.inf
  have hn : C = ((C.toNat : Nat) : Int) := by omega
  refine wpList_make_own (P := P) w hgd l c t hop B e i z 1 T.ht hi hz h1 kl kc C C.toNat hl hc hn ?_ (by simp only [maxLen]; omega) hB ?_
  · rw [h2]
    have : ((by_ * C.toNat : Nat) : Int) ≤ 281474976710656 := by rw [Int.natCast_mul, ← hn]; exact hby
    omega
  · intro w' ho' hg
    exact h _ _ ho' ((Below.refl B w).grown hg hB fun k hk => by cases hk)

/-- what is known of a slice of a slice -/
structure Cut (f : α → Value) (w : World) (xs : List α) (l h : Int) (A : Option Addr) (ys : List α) : Prop where
  rd : Rd f w A ys
  eq : Hid (ys = (xs.take h.toNat).drop l.toNat)
  lo : (ys.length : Int) ≤ h - l
  hi : h - l ≤ (ys.length : Int)

theorem run_sl {t e : TypeId} {by_ : Nat} {A : Option Addr} {n c : Nat} (T : ElT P t e by_) (hc : n ≤ c) (lo hi : Option Value) (l h : Int) (h0 : 0 ≤ l) (h1 : l ≤ h) (h2 : h ≤ n)
    (hlo : lo = none ∧ l = 0 ∨ ∃ k, lo = some (.int k l)) (hhi : hi = none ∧ h = n ∨ ∃ k, hi = some (.int k h)) :
    (Instr.slice t (.slice A n c) lo hi none).run P w = .ok (Go.sliced A l.toNat h.toNat c 1) w := by
  obtain ⟨i, z, hi', hz, h3, h4, h5⟩ := T.inf
  have hsz : (sizeOf (P.elem t)).run P w = .ok 1 w := by simp [sizeOf, typeInfo, Program.elem, T.ht, hi', h3]
  have ht' : P.underlying t = some (.slice (P.elem t)) := by simp [Program.elem, T.ht]
  rcases hlo with ⟨rfl, rfl⟩ | ⟨kl, rfl⟩ <;> rcases hhi with ⟨rfl, rfl⟩ | ⟨kh, rfl⟩
  · rw [run_slice_all (ht := ht')]; simp [hsz]
  · rw [run_slice_h (ht := ht') (h0 := by omega) (h2 := by omega)]; simp [hsz]
  · rw [run_slice_l (ht := ht') (h0 := by omega) (h1 := by omega)]; simp [hsz]
  · rw [run_slice_lh (ht := ht') (h0 := by omega) (h1 := by omega) (h2 := by omega)]; simp [hsz]

theorem cut_of {t e : TypeId} {by_ : Nat} {A : Option Addr} {xs : List α} {c : Nat} (T : ElT P t e by_) (hr : Rd f w A xs) (hc : xs.length ≤ c) (lo hi : Option Value) (l h : Int) (h0 : 0 ≤ l) (h1 : l ≤ h) (h2 : h ≤ xs.length)
    (hlo : lo = none ∧ l = 0 ∨ ∃ k, lo = some (.int k l)) (hhi : hi = none ∧ h = xs.length ∨ ∃ k, hi = some (.int k h)) :
    ∃ A' ys c', (Instr.slice t (.slice A xs.length c) lo hi none).run P w = .ok (.slice A' ys.length c') w ∧ Cut f w xs l h A' ys ∧ (ys.length : Int) ≤ c' ∧ (c' : Int) ≤ c := by
  obtain ⟨i, z, hi', hz, h3, h4, h5⟩ := T.inf
  have hlen : ((xs.take h.toNat).drop l.toNat).length = h.toNat - l.toNat := by simp [List.length_drop, List.length_take]; omega
  obtain ⟨A', e1, hr'⟩ := hr.sliced (l := l.toNat) (h := h.toNat) (cap := c) (by omega) (by omega) (by omega)
  refine ⟨A', (xs.take h.toNat).drop l.toNat, c - l.toNat, ?_, ⟨hr', rfl, by omega, by omega⟩, by omega, by omega⟩
  rw [← e1]
  exact run_sl w T hc lo hi l h h0 h1 h2 hlo hhi

theorem wpList_sl {t e : TypeId} {by_ : Nat} (T : ElT P t e by_) (hgd : o.guard = none) (x : Operand) (lo hi : Option Operand) (ho : o.op = .slice t x lo hi none)
    (A : Option Addr) (xs : List α) (c : Nat) (hx : a.eval x = .slice A xs.length c) (hr : Rd f w A xs) (hc : xs.length ≤ c)
    (l h : Int) (hlo : lo = none ∧ l = 0 ∨ ∃ k p, lo = some p ∧ a.eval p = .int k l) (hhi : hi = none ∧ h = xs.length ∨ ∃ k p, hi = some p ∧ a.eval p = .int k h)
    (h0 : 0 ≤ l) (h1 : l ≤ h) (h2 : h ≤ xs.length)
    (h : ∀ A' ys c', Cut f w xs l h A' ys → ys.length ≤ c' → c' ≤ c → wpList P ops Q rest (a.put o.dst (.slice A' ys.length c')) w) : wpList P ops Q (o :: rest) a w := by
  refine wpList_plain hgd fun K hK => ?_
  obtain ⟨A', ys, c', hrun, hcut, h3, h4⟩ := cut_of (P := P) w T hr hc (lo.map a.eval) (hi.map a.eval) l _ h0 h1 h2
    (by
        rcases hlo with ⟨rfl, e⟩ | ⟨k, p, rfl, e⟩
        · exact .inl ⟨rfl, e⟩
        · exact .inr ⟨k, by simp [e]⟩)
    (by
        rcases hhi with ⟨rfl, e⟩ | ⟨k, p, rfl, e⟩
        · exact .inl ⟨rfl, e⟩
        · exact .inr ⟨k, by simp [e]⟩)
  have := hK _ _ (h A' ys c' hcut (by omega) (by omega))
  unfold Oper.wp execOp
  simp only [ho, Sem.run_bind, Sem.run_pure, Result.andThen_ok, hx]
  rw [show (Option.map a.eval (none : Option Operand)) = none from rfl, run_sliceAt_slice w t _ _ _ _ (by simp [Program.elem, T.ht]), hrun]
  exact this

theorem conv_str {A : Option Addr} {xs : List UInt8} (src dst e : TypeId) (hs : P.underlying src = some (.slice e)) (he : P.underlying e = some (.int .u8)) (hd : P.underlying dst = some .string)
    (hr : Rd bv w A xs) (c : Nat) : (convert src dst (.slice A xs.length c)).run P w = .ok (.string ⟨xs.toArray⟩) w := by
  rcases A with _ | a
  · have h0 : xs = [] := by
      rcases Nat.eq_zero_or_pos xs.length with h | h
      · exact List.eq_nil_of_length_eq_zero h
      · obtain ⟨_, _, h, _⟩ := hr h; cases h
    subst h0
    exact run_convert_bytes_nil w src e hs he _ _ dst hd
  · by_cases h0 : xs.length = 0
    · have : xs = [] := List.eq_nil_of_length_eq_zero h0
      subst this
      rw [run_convert_bytes_string w src dst e _ _ c hs he hd]
      simp [Conv.bytesToString, loadCells, loadCellsFrom]
      rfl
    · obtain ⟨b, off, hA, hb, hc⟩ := hr (by omega)
      injection hA with hA
      subst hA
      have := run_convert_bytes_arg w src e hs he b off xs.length c (xs.map fun u => (u.toNat : Int)) (by simp) (fun i hi => by
        rw [hc i hi]; simp [List.getD, hi, bv]) dst hd
      rw [this]
      congr 2
      simp [strOfNums, Function.comp_def]

/-- string(b) -/
theorem wpList_str {src dst e : TypeId} (hgd : o.guard = none) (x : Operand) (ho : o.op = .convert src dst x) (hs : P.underlying src = some (.slice e)) (he : P.underlying e = some (.int .u8)) (hd : P.underlying dst = some .string)
    (A : Option Addr) (xs : List UInt8) (c : Nat) (hx : a.eval x = .slice A xs.length c) (hr : Rd bv w A xs)
    (h : ∀ s : ByteArray, Hid (s = ⟨xs.toArray⟩) → s.size ≤ xs.length → xs.length ≤ s.size → wpList P ops Q rest (a.put o.dst (.string s)) w) : wpList P ops Q (o :: rest) a w := by
  refine wpList_plain hgd fun K hK => ?_
  have hrun := conv_str (P := P) w src dst e hs he hd hr c
  have := hK _ _ (h ⟨xs.toArray⟩ rfl (by simp [ByteArray.size]) (by simp [ByteArray.size]))
  unfold Oper.wp execOp
  simp only [ho, Sem.run_bind, Sem.run_pure, Result.andThen_ok, hx, hrun]
  exact this
end laws

theorem nx {a b c : World} (h : Below a.heap.size a b) (k : Below b.heap.size b c) : Below a.heap.size a c := h.trans (k.mono h.size)
theorem nxa {a b : World} (h : Below a.heap.size a b) (o : Obj) : Below a.heap.size a (b.alloc o) := h.alloc h.size o
theorem nx0 (a : World) (o : Obj) : Below a.heap.size a (a.alloc o) := (Below.refl _ _).alloc (Nat.le_refl _) o
theorem bv_one (x : UInt8) : (bv x).oneCell' = true := rfl
theorem Rd.lits {w : World} {e : TypeId} {g : Nat} (xs : List UInt8) (hg : g = w.heap.size) : Rd bv (w.alloc (.cells (xs.map bv).toArray e)) (some ⟨g, 0, none⟩) xs := by
  subst hg
  intro _
  refine ⟨_, _, rfl, by simp, fun j hj => ?_⟩
  rw [World.cell?_alloc_at _ _ _ _ rfl]
  simp [hj]
theorem Rd.litsM {w : World} {e : TypeId} {m : Nat × Nat} {g : Nat} (xs : List UInt8) (hg : g = w.heap.size) : Rd bv (w.alloc (.cells (xs.map bv).toArray e m)) (some ⟨g, 0, none⟩) xs := by
  subst hg
  intro _
  refine ⟨_, _, rfl, by simp, fun j hj => ?_⟩
  have h : (w.alloc (.cells (xs.map bv).toArray e m)).heap[w.heap.size]? = some (.cells (xs.map bv).toArray e m) := by
    show (w.heap.push _)[w.heap.size]? = _
    simp
  rw [cell_of_row _ _ _ _ _ _ h]
  simp [hj]
/-- one new cell reads as one element -/
theorem Rd.one {α : Type} {f : α → Value} {w : World} {e : TypeId} {V : Value} {x : α} {g : Nat} (h : V = f x) (hg : g = w.heap.size) : Rd f (w.alloc (.cells #[V] e)) (some ⟨g, 0, none⟩) [x] := by
  subst hg
  intro _
  refine ⟨_, _, rfl, by simp, fun j hj => ?_⟩
  have : j = 0 := by simpa using hj
  subst this
  rw [World.cell?_alloc_at _ _ _ _ (by simp)]
  simp [h]

/-- what is known of a slice of bytes that came in -/
def RowBytes (w : World) (A : Option Addr) (len cap : Nat) : Prop := ∃ xs : List UInt8, len = xs.length ∧ Rd bv w A xs ∧ xs.length ≤ cap ∧ cap ≤ maxLen
theorem row_bytes_nil (w : World) : RowBytes w none 0 0 := ⟨[], rfl, Rd.nil, Nat.le_refl _, Nat.zero_le _⟩
/-- what is known of a slice of integers that came in -/
def RowInts (k : IntKind) (w : World) (A : Option Addr) (len cap : Nat) : Prop :=
  ∃ xs : List Int, len = xs.length ∧ Rd (Value.int k) w A xs ∧ xs.length ≤ cap ∧ cap ≤ maxLen ∧ ∀ n ∈ xs, (Lit.int k n).wf = true
theorem row_ints_nil {k : IntKind} (w : World) : RowInts k w none 0 0 := ⟨[], rfl, Rd.nil, Nat.le_refl _, Nat.zero_le _, fun _ h => by cases h⟩
theorem row_ints {k : IntKind} (w : World) (x : Addr) (len cap : Nat) (zs : List Int) (hl : len ≤ cap) (hm : cap ≤ maxLen) (hz : zs.length = cap)
    (hcell : ∀ i, i < zs.length → w.cell? (x.add i) = some (.int k (zs.getD i 0))) (hwz : ∀ n ∈ zs, (Lit.int k n).wf = true) : RowInts k w (some x) len cap := by
  have hlen : (zs.take len).length = len := by rw [List.length_take]; omega
  refine ⟨zs.take len, hlen.symm, fun hn => ?_, by omega, hm, fun n h => hwz n (List.mem_of_mem_take h)⟩
  rw [hlen] at hn
  obtain ⟨b, off, sp⟩ := x
  have h0 := hcell 0 (by omega)
  have hsp : sp = none := by simpa [Addr.add] using World.cell?_spot h0
  subst hsp
  refine ⟨b, off, rfl, ?_, fun j hj => ?_⟩
  · have := World.block_lt_of_cell? w _ h0
    simpa [Addr.add] using this
  · rw [hlen] at hj
    have := hcell j (by omega)
    rw [Addr.add_lit] at this
    rw [this, List.getElem_take]
    have hj' : j < zs.length := by omega
    simp [List.getD, hj']
theorem row_bytes (w : World) (x : Addr) (len cap : Nat) (zs : List Int) (hl : len ≤ cap) (hm : cap ≤ maxLen) (hz : zs.length = cap)
    (hcell : ∀ i, i < zs.length → w.cell? (x.add i) = some (.int .u8 (zs.getD i 0))) (hwz : ∀ n ∈ zs, (Lit.int .u8 n).wf = true) : RowBytes w (some x) len cap := by
  obtain ⟨xs, h1, h2, h3, h4, h5⟩ := row_ints (k := .u8) w x len cap zs hl hm hz hcell hwz
  refine ⟨xs.map fun n => UInt8.ofNat n.toNat, by simpa using h1, fun hn => ?_, by simpa using h3, h4⟩
  rw [List.length_map] at hn
  obtain ⟨b, off, e, hb, hc⟩ := h2 hn
  refine ⟨b, off, e, hb, fun j hj => ?_⟩
  rw [List.length_map] at hj
  rw [hc j hj, List.getElem_map]
  have hw := h5 _ (List.getElem_mem hj)
  generalize xs[j] = n at hw
  have h01 : 0 ≤ n ∧ n ≤ 255 := by
    simp [Lit.wf, IntKind.min, IntKind.max, IntKind.signed, IntKind.bits] at hw
    omega
  rw [← bv_ofNat n.toNat n (by omega)]
end Go.Proofs.Ytjeadmndnbggmaa
