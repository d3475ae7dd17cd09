/- Bytes that the call owns, told by their cells: what []byte(s) gives, and appends to it. Plain lemmas over any program. -/
import Derived.Test.YtpaacfoiiihbeaaDoorTxt
import Derived.Deep.Upon
import Derived.Deep.AppendSrc
import Derived.Deep.MidRow
import Derived.Lib.SmallJoins
set_option linter.unusedVariables false
set_option linter.unusedSimpArgs false
namespace Go.Proofs.YtpaacfoiiihbeaaDoor
open Go.RowKit

def OwnB (w : World) (B : Nat) (v : Value) (xs : List UInt8) : Prop :=
  ∃ g c, v = .slice (some ⟨g, 0, none⟩) xs.length c ∧ B ≤ g ∧ g < w.heap.size ∧ xs.length ≤ c ∧ c ≤ maxLen ∧ (∀ j, j < c → (w.cell? ⟨g, j, none⟩).isSome = true ∧ w.frozen? ⟨g, j, none⟩ = false) ∧ ∀ j (h : j < xs.length), w.cell? ⟨g, j, none⟩ = some (bv xs[j])
theorem OwnB.own {w : World} {B : Nat} {v : Value} {xs : List UInt8} (h : OwnB w B v xs) (k : Nat) (e : v.ownBlock = some k) : B ≤ k ∧ k < w.heap.size := by
  obtain ⟨g, c, rfl, h1, h2, -⟩ := h
  simp [Value.ownBlock] at e
  subst e
  exact ⟨h1, h2⟩
theorem OwnB.rd {w : World} {B : Nat} {v : Value} {xs : List UInt8} (h : OwnB w B v xs) : ∃ g c, v = .slice (some ⟨g, 0, none⟩) xs.length c ∧ Rd bv w (some ⟨g, 0, none⟩) xs := by
  obtain ⟨g, c, rfl, h1, h2, h3, h4, h5, h6⟩ := h
  exact ⟨g, c, rfl, fun _ => ⟨g, 0, rfl, h2, fun j hj => by rw [Nat.zero_add]; exact h6 j hj⟩⟩
theorem OwnB.keep {w w' : World} {B : Nat} {v : Value} {xs : List UInt8} (h : OwnB w B v xs) (hz : w.heap.size ≤ w'.heap.size) (hk : ∀ k, v.ownBlock = some k → w'.heap[k]? = w.heap[k]?) : OwnB w' B v xs := by
  obtain ⟨g, c, rfl, h1, h2, h3, h4, h5, h6⟩ := h
  have hg := hk g rfl
  have e1 : ∀ j, w'.cell? ⟨g, j, none⟩ = w.cell? ⟨g, j, none⟩ := fun j => World.cell?_of_block (a := ⟨g, j, none⟩) hg
  have e2 : ∀ j, w'.frozen? ⟨g, j, none⟩ = w.frozen? ⟨g, j, none⟩ := fun j => World.frozen?_of_block (a := ⟨g, j, none⟩) hg
  exact ⟨g, c, rfl, h1, by omega, h3, h4, fun j hj => by rw [e1, e2]; exact h5 j hj, fun j hj => by rw [e1]; exact h6 j hj⟩
theorem OwnB.nx {w w' : World} {B : Nat} {v : Value} {xs : List UInt8} (h : OwnB w B v xs) (hn : Nx w w') : OwnB w' B v xs := h.keep hn.size fun k e => hn.block k (h.own k e).2
/-- all that lay lies, but for the bytes' own row -/
structure Gb (v : Value) (w : World) (v' : Value) (w' : World) : Prop where
  os : w'.os = w.os
  tape : w'.tape = w.tape
  output : w'.output = w.output
  size : w.heap.size ≤ w'.heap.size
  block : ∀ k, k < w.heap.size → v.ownBlock ≠ some k → w'.heap[k]? = w.heap[k]?
theorem Gb.to {v v' : Value} {w w1 w' : World} (h : Gb v w1 v' w') (hn : Nx w w1) (hv : ∀ k, v.ownBlock = some k → w.heap.size ≤ k) : Nx w w' :=
  ⟨h.os.trans hn.os, h.tape.trans hn.tape, h.output.trans hn.output, Nat.le_trans hn.size h.size, fun k hk => (h.block k (Nat.lt_of_lt_of_le hk hn.size) (fun e => by have := hv k e; omega)).trans (hn.block k hk)⟩

/-- []byte(s), owned -/
theorem wpList_bytesB {P : Program} (w : World) {ops : Array Oper} {rest : List Oper} {o : Oper} {a : Act} {Q : Exit → Act → World → Prop} {src dst e : TypeId} (hgd : o.guard = none) (x : Operand) (ho : o.op = .convert src dst x) (hs : P.underlying src = some .string) (hd : P.underlying dst = some (.slice e)) (he : P.underlying e = some (.int .u8))
    (s : ByteArray) (l : List UInt8) (hl : Tx s l) (hx : a.eval x = .string s) (hm : l.length ≤ maxLen)
    (h : ∀ v w', OwnB w' w.heap.size v l → Nx w w' → wpList P ops Q rest (a.put o.dst v) w') : wpList P ops Q (o :: rest) a w := by
  refine wpList_plain hgd fun K hK => ?_
  have hrun := Lib.run_convert_string_bytes (P := P) w src dst e s hs hd he
  have hn : Nx w (Lib.bytesWorld w e s) := Joins.below_bytesWorld _ w e s (Nat.le_refl _)
  have hsz : s.size = l.length := hl.size
  have hge := grownCap_ge w s.size 0 e
  have hcs : (Lib.bytesCells w e s).size = grownCap w s.size 0 e := by
    unfold Lib.bytesCells
    simp
    have : s.data.size = s.size := rfl
    omega
  have hnew := Lib.bytesWorld_at_new w e s
  have hr : OwnB (Lib.bytesWorld w e s) w.heap.size (.slice (some ⟨w.heap.size, 0, none⟩) s.size (grownCap w s.size 0 e)) l := by
    refine ⟨w.heap.size, grownCap w s.size 0 e, by rw [hsz], Nat.le_refl _, by rw [Lib.bytesWorld_size]; omega, by omega, grownCap_le_maxLen _ _ _ _ (by omega), fun j hj => ?_, fun j hj => ?_⟩
    · rw [← hcs] at hj
      constructor
      · simp only [World.cell?, hnew]
        simp [hj]
      · simp only [World.frozen?, hnew]
        simp
        omega
    · rw [Lib.bytesWorld_cell w e s j (by omega), show s.data.toList = l from hl]
      simp [bv, hj]
  have := hK _ _ (h _ _ hr hn)
  unfold Oper.wp execOp
  simp only [ho, Sem.run_bind, Sem.run_pure, Result.andThen_ok, hx, hrun]
  exact this

theorem heap_setCells_tape (b : Nat) : ∀ (vs : List Value) (o : Nat) (w : World), (w.setCells b o vs).tape = w.tape ∧ (w.setCells b o vs).heap.size = w.heap.size
  | [], _, _ => ⟨rfl, rfl⟩
  | v :: r, o, w => by
    have h := heap_setCells_tape b r (o + 1) (w.setCell ⟨b, o, none⟩ v)
    rw [World.setCells]
    exact ⟨h.1, by rw [h.2]; simp [World.setCell]⟩

/-- append of a source's bytes -/
theorem wpList_appB {P : Program} (w : World) {ops : Array Oper} {rest : List Oper} {o : Oper} {a : Act} {Q : Exit → Act → World → Prop} (hgd : o.guard = none) (s x : Operand) (t tx e : TypeId)
    (ho : o.op = .call { callee := .builtin .append, args := #[s, x], argTypes := #[t, tx] })
    (ht : P.underlying t = some (.slice e)) (hinf : (P.info? e).map (fun i => (i.zero, i.size, i.bytes)) = some (some (.int .u8 0), 1, 1))
    (B : Nat) (v : Value) (xs ys : List UInt8) (hs : a.eval s = v) (hown : OwnB w B v xs) (xv : Value) (hx : a.eval x = xv) (hsrc : Src P 1 tx xv ys.length (ys.map bv) w)
    (h63 : (xs.length : Int) + (ys.length : Int) ≤ 1000000) (hB : B ≤ w.heap.size)
    (h : ∀ v' w', OwnB w' B v' (xs ++ ys) → Gb v w v' w' → wpList P ops Q rest (a.put o.dst v') w') : wpList P ops Q (o :: rest) a w := by
  refine wpList_plain hgd fun K hK => ?_
  obtain ⟨i, hi, hz, h1, h2⟩ := info_parts hinf
  have key : ∃ v' w', (Builtin.append_ #[t, tx] o.type #[v, xv]).run P w = .ok v' w' ∧ OwnB w' B v' (xs ++ ys) ∧ Gb v w v' w' := by
    obtain ⟨g, c, rfl, b1, b2, b3, b4, b5, b6⟩ := hown
    by_cases hroom : xs.length + ys.length ≤ c
    · have hr := run_append_room_src (P := P) w t tx o.type e i ht hi g 0 xs.length c xv ys.length (ys.map bv) (by rw [h1]; exact hsrc) hroom
        (fun j hj => by rw [h1]; simp at hj; rw [show 0 + xs.length * 1 + j = xs.length + j by omega]; exact (b5 _ (by omega)).1)
        (fun j hj => by rw [h1]; simp at hj; rw [show 0 + xs.length * 1 + j = xs.length + j by omega]; exact (b5 _ (by omega)).2)
      rw [h1, show 0 + xs.length * 1 = xs.length by omega] at hr
      have hin := World.cell?_setCells_in g (ys.map bv) xs.length w (fun j hj => by simp at hj; exact (b5 _ (by omega)).1)
      refine ⟨_, _, hr, ⟨g, c, by rw [List.length_append], b1, by rw [(heap_setCells_tape g _ _ w).2]; exact b2, by rw [List.length_append]; exact hroom, b4, fun j hj => ⟨World.isSome_setCells g _ _ w _ (b5 j hj).1, by rw [World.frozen?_setCells]; exact (b5 j hj).2⟩, fun j hj => ?_⟩,
        ⟨World.os_setCells w _ _ _, (heap_setCells_tape g _ _ w).1, World.output_setCells w _ _ _, by rw [(heap_setCells_tape g _ _ w).2]; exact Nat.le_refl _, fun k hk hne => World.heap_setCells_other w _ _ _ hk (fun e' => hne (by rw [e']; rfl))⟩⟩
      by_cases hlt : j < xs.length
      · rw [World.cell?_setCells_out g _ _ w ⟨g, j, none⟩ (fun _ _ => .inl hlt), List.getElem_append_left hlt]
        exact b6 j hlt
      · rw [List.length_append] at hj
        have := hin (j - xs.length) (by simp; omega)
        rw [show xs.length + (j - xs.length) = j by omega] at this
        rw [this, List.getElem_append_right (by omega)]
        simp
    · have hold : (Builtin.firstCells i.size xs.length (.slice (some ⟨g, 0, none⟩) xs.length c)).run P w.drew = .ok (xs.map bv).toArray w.drew := by
        refine run_firstCells_some w.drew i.size xs.length ⟨g, 0, none⟩ xs.length c (xs.map bv) (by rw [h1]; simp) fun j u hu => ?_
        have hj : j < xs.length := by
          rcases Nat.lt_or_ge j xs.length with h | h
          · exact h
          · rw [List.getElem?_eq_none (by simpa using h)] at hu; cases hu
        rw [Addr.add_lit, Nat.zero_add]
        have := b6 j hj
        simp [hj] at hu
        rw [← hu]
        exact this
      have hr := run_append_grow_src (P := P) w t tx o.type e i (.int .u8 0) ht hi hz (some ⟨g, 0, none⟩) xs.length c (xs.map bv) hold xv ys.length (ys.map bv) (by rw [h1]; exact hsrc) (by omega) (by omega) (growslice_fits (by omega) (by rw [h2]; omega))
      have hge := grownCap_ge w (xs.length + ys.length) c e
      refine ⟨_, _, hr, ⟨w.heap.size, grownCap w (xs.length + ys.length) c e, by rw [List.length_append], hB, by simp, by rw [List.length_append]; exact hge, grownCap_le_maxLen _ _ _ _ (by unfold maxLen; omega), fun j hj => ?_, fun j hj => ?_⟩, ⟨rfl, rfl, rfl, by simp, fun k hk _ => (nx0 w.drew _).block k hk⟩⟩
      · have hnew := Blk.new w.drew ((xs.map bv ++ ys.map bv).toArray ++ Builtin.zeroCells (Value.int .u8 0).cells (grownCap w (xs.length + ys.length) c e - (xs.length + ys.length))) e
        refine ⟨?_, hnew.free j⟩
        rw [show (⟨w.heap.size, j, none⟩ : Addr) = ⟨w.drew.heap.size, j, none⟩ from rfl, hnew.cell j]
        simp [size_zeroCells, Value.cells]
        omega
      · have hnew := Blk.new w.drew ((xs.map bv ++ ys.map bv).toArray ++ Builtin.zeroCells (Value.int .u8 0).cells (grownCap w (xs.length + ys.length) c e - (xs.length + ys.length))) e
        rw [show (⟨w.heap.size, j, none⟩ : Addr) = ⟨w.drew.heap.size, j, none⟩ from rfl, hnew.cell j]
        rw [List.length_append] at hj
        rw [Array.getElem?_append_left (by simp; exact hj), ← List.map_append]
        have hj2 : j < (xs ++ ys).length := by rw [List.length_append]; exact hj
        rw [List.getElem?_toArray, List.getElem?_map, List.getElem?_eq_getElem hj2]
        rfl
  obtain ⟨v', w', hrun, ho', hgb⟩ := key
  have := hK _ _ (h v' w' ho' hgb)
  unfold Oper.wp execOp
  simp only [ho, resolve, invoke, builtin, Sem.run_bind, Sem.run_pure, Result.andThen_ok, List.map_toArray, List.map_cons, List.map_nil, hs, hx, hrun]
  exact this
end Go.Proofs.YtpaacfoiiihbeaaDoor
