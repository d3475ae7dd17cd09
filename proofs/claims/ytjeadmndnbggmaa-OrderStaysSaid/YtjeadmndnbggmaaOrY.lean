/- The region of OrderStays that turns a row and doubles one value: three appends and two fresh slices, in any order. -/
import Derived.Test.YtjeadmndnbggmaaOrB
import Derived.Test.YtjeadmndnbggmaaRowO
import Derived.Test.YtjeadmndnbggmaaRegY
set_option linter.unusedVariables false
set_option linter.unusedSimpArgs false
namespace Go.Proofs.Ytjeadmndnbggmaa
open Go.RowKit

/-- all that lay lies, but for a row of one's own -/
structure Gp (v : Value) (w : World) (v' : Value) (w' : World) : Prop where
  os : w'.os = w.os
  tape : w'.tape = w.tape
  output : w'.output = w.output
  size : w.heap.size ≤ w'.heap.size
  block : ∀ k, k < w.heap.size → v.ownBlock ≠ some k → w'.heap[k]? = w.heap[k]?
  own : ∀ k, v'.ownBlock = some k → v.ownBlock = some k ∨ w.heap.size ≤ k
section
variable (w : World) {o : Oper} {a : Act} {Q : Exit → Act → World → Prop} {K : Act → World → Prop} {α : Type} {f : α → Array Value} {k sz : Nat} {T T2 : TypeId} {z : Value}
theorem op_appP (hinfo : (Try.prog.info? T).map (fun i => (i.zero, i.size, i.bytes)) = some (some z, k, sz)) (hund : Try.prog.underlying T2 = some (.slice T)) (hzs : z.cells.size = k) (hk : 0 < k) (hsz : sz ≤ 1000)
    (hf : ∀ x, (f x).size = k)
    (s x : Operand) (ho : o.op = .call { callee := .builtin .append, args := #[s, x], argTypes := #[T2, T2] })
    (B : Nat) (v : Value) (xs ys : List α) (hone : ∀ y ∈ ys, ∀ u ∈ (f y).toList, u.oneCell' = true) (hs : a.eval s = v) (hown : OwnS f k T w B v xs) (g off m c : Nat) (hm : m = ys.length) (hx : a.eval x = .slice (some ⟨g, off, none⟩) m c)
    (hy : ∀ i (h : i < ys.length) j, j < k → w.cell? ⟨g, off + i * k + j, none⟩ = (f ys[i])[j]?) (h63 : (xs.length : Int) + (ys.length : Int) ≤ 100000) (hB : B ≤ w.heap.size)
    (h : ∀ v' w', OwnS f k T w' B v' (xs ++ ys) → Gp v w v' w' → K (a.put o.dst v') w') : o.wp Try.prog a w K Q := by
  obtain ⟨i, hi, hz, h1, h2⟩ := info_parts hinfo
  subst hm
  have hlen : (rowL f ys).length = ys.length * k := rowL_length hf ys
  have hcells : ∀ j u, (rowL f ys)[j]? = some u → w.cell? ((⟨g, off, none⟩ : Addr).add j) = some u := by
    intro j u hu
    have hj : j < ys.length * k := by
      rcases Nat.lt_or_ge j (ys.length * k) with h | h
      · exact h
      · rw [List.getElem?_eq_none (by rw [hlen]; exact h)] at hu; cases hu
    have hq : j / k < ys.length := Nat.div_lt_of_lt_mul (by rw [Nat.mul_comm]; exact hj)
    have hr : j % k < k := Nat.mod_lt _ hk
    have e : j / k * k + j % k = j := by rw [Nat.mul_comm]; exact Nat.div_add_mod j k
    have h3 := hy (j / k) hq (j % k) hr
    rw [Nat.add_assoc, e] at h3
    rw [Addr.add_lit, h3, ← rowL_get hf ys (j / k) hq (j % k) hr, e]
    exact hu
  obtain ⟨v', w', hrun, ho', hg, _, hob⟩ := run_append_own_at (P := Try.prog) w B T2 o.type T i _ k sz hund hi hz h1 h2 hzs hk v xs.length (rowL f xs) hown ⟨g, off, none⟩ ys.length c (rowL f ys) hlen hcells (fun u hu => by
      obtain ⟨y, hm, hy⟩ := List.mem_flatMap.1 hu
      exact hone y hm u hy) (by simp [maxLen]; omega)
    (by
        have : (xs.length + ys.length) * sz ≤ 100000 * 1000 := Nat.mul_le_mul (by omega) hsz
        omega) hB
  have hown' : OwnS f k T w' B v' (xs ++ ys) := by
    unfold OwnS
    rw [List.length_append, rowL_app]
    exact ho'
  have := h v' w' hown' ⟨hg.os, hg.tape, hg.output, hg.size, fun k hk hv => hg.block k hk (fun e => hv e.symm), fun k e => by
    rcases hob with h | h
    · exact .inl (h ▸ e)
    · rw [h] at e; cases e; exact .inr (Nat.le_refl _)⟩
  unfold Oper.wp execOp
  simp only [ho, resolve, invoke, builtin, Sem.run_bind, Sem.run_pure, Result.andThen_ok, List.map_toArray, List.map_cons, List.map_nil, hs, hx, hrun]
  exact this
end
section
variable {α : Type} {f : α → Array Value} {k : Nat} {T : TypeId} {w w' : World} {B : Nat} {v : Value} {xs : List α}
theorem OwnS.ltP (h : OwnS f k T w B v xs) (g : Nat) (e : v.ownBlock = some g) : g < w.heap.size := (World.ownsRow.lt h g e).2
theorem OwnS.geP (h : OwnS f k T w B v xs) (g : Nat) (e : v.ownBlock = some g) : B ≤ g := (World.ownsRow.lt h g e).1
/-- an empty row of one's own, made just now -/
theorem OwnS.fresh (hB : B ≤ w.heap.size) : OwnS f k T (w.alloc (.cells #[] T)) B (.slice (some ⟨w.heap.size, 0, none⟩) 0 0) ([] : List α) := by
  exact ⟨by simp [rowL], .inr ⟨w.heap.size, 0, #[], rfl, hB, (Blk.new w #[] T).2, Nat.le_refl _, Nat.zero_le _, by simp, by simp [rowL]⟩⟩
end
def upB (on : Nat → Bool) (i : Nat) : Nat → Bool := fun j => if j = i then true else on j
theorem upB_ls {ls : Array Bool} {i : Nat} (hi : i < ls.size) : (fun j => (ls.setIfInBounds i true).getD j false) = upB (fun j => ls.getD j false) i := by
  funext j
  show (ls.setIfInBounds i true).getD j false = if j = i then true else ls.getD j false
  by_cases h : j = i
  · subst h; rw [if_pos rfl, Array.getD_eq_getD_getElem?, Array.getElem?_setIfInBounds, if_pos rfl, if_pos hi]; rfl
  · rw [if_neg h, Array.getD_eq_getD_getElem?, Array.getD_eq_getD_getElem?, Array.getElem?_setIfInBounds, if_neg (fun e => h e.symm)]
/-- how far the region is: what each operation has handed on -/
structure StS (wd : World) (k : Nat) (ys : List ValS) (Y : ValS) (C : Nat → Option Value) (on : Nat → Bool) (x : Nat → Value) (w : World) : Prop where
  nx : Nx wd w
  cs : ∀ j v, C j = some v → on j = true → x j = v
  o0 : on 0 = true → on 4 = false → OwnS valA 5 29 w wd.heap.size (x 0) []
  o4 : on 4 = true → on 8 = false → OwnS valA 5 29 w wd.heap.size (x 4) (ys.drop k)
  o8 : on 8 = true → on 14 = false → OwnS valA 5 29 w wd.heap.size (x 8) (ys.drop k ++ ys.take k)
  o14 : on 14 = true → OwnS valA 5 29 w wd.heap.size (x 14) (ys.drop k ++ ys.take k ++ [Y])
  o15 : on 15 = true → x 15 = x 14
  o13 : on 13 = true → ∃ g, x 13 = .slice (some ⟨g, 0, none⟩) 1 1 ∧ wd.heap.size ≤ g ∧ g < w.heap.size ∧ (∀ j, j < 5 → w.cell? ⟨g, j, none⟩ = (valA Y)[j]?) ∧ (on 0 = true → on 4 = false → (x 0).ownBlock ≠ some g) ∧ (on 4 = true → on 8 = false → (x 4).ownBlock ≠ some g) ∧ (on 8 = true → on 14 = false → (x 8).ownBlock ≠ some g)
section
variable {wd : World} {k : Nat} {ys : List ValS} {Y : ValS} {C : Nat → Option Value} {on : Nat → Bool} {x : Nat → Value} {w w' : World} {v : Value}
theorem upB_ne {i j : Nat} (h : j ≠ i) : upB on i j = on j := if_neg h
theorem upB_eq (i : Nat) : upB on i i = true := if_pos rfl
theorem upd_ne {i j : Nat} (h : j ≠ i) : RI.upd x i v j = x j := by unfold RI.upd; simp [h]
theorem upd_eq (i : Nat) : RI.upd x i v i = v := by unfold RI.upd; simp
/-- a step that makes nothing -/
theorem StS.const (h : StS wd k ys Y C on x w) {i : Nat} (hC : C i = some v) (h0 : 0 ≠ i) (h4 : 4 ≠ i) (h8 : 8 ≠ i) (h13 : 13 ≠ i) (h14 : 14 ≠ i) (h15 : 15 ≠ i) : StS wd k ys Y C (upB on i) (RI.upd x i v) w := by
  refine ⟨h.nx, fun j u hj ho => ?_, ?_, ?_, ?_, ?_, ?_, ?_⟩
  · by_cases e : j = i
    · subst e; rw [upd_eq]; rw [hC] at hj; exact Option.some.inj hj
    · rw [upd_ne e]; rw [upB_ne e] at ho; exact h.cs j u hj ho
  · rw [upB_ne h0, upB_ne h4, upd_ne h0]; exact h.o0
  · rw [upB_ne h4, upB_ne h8, upd_ne h4]; exact h.o4
  · rw [upB_ne h8, upB_ne h14, upd_ne h8]; exact h.o8
  · rw [upB_ne h14, upd_ne h14]; exact h.o14
  · rw [upB_ne h15, upd_ne h15, upd_ne h14]; exact h.o15
  · rw [upB_ne h13, upB_ne h0, upB_ne h4, upB_ne h8, upB_ne h14, upd_ne h13, upd_ne h0, upd_ne h4, upd_ne h8]; exact h.o13
/-- the empty row is made -/
theorem StS.mk0 (h : StS wd k ys Y C on x w) (n4 : on 4 = false) (n8 : on 8 = false) (n14 : on 14 = false) (hC : C 0 = none) : StS wd k ys Y C (upB on 0) (RI.upd x 0 (.slice (some ⟨w.heap.size, 0, none⟩) 0 0)) (w.alloc (.cells #[] 29)) := by
  have hn : Nx w (w.alloc (.cells #[] 29)) := nx0 _ _
  refine ⟨h.nx.trans hn, fun j u hj ho => ?_, fun _ _ => ?_, ?_, ?_, ?_, ?_, ?_⟩
  · have e : j ≠ 0 := fun e => by rw [e, hC] at hj; cases hj
    rw [upd_ne e]; rw [upB_ne e] at ho; exact h.cs j u hj ho
  · rw [upd_eq]; exact OwnS.fresh h.nx.size
  · rw [upB_ne (by decide), n4]; exact fun e => by cases e
  · rw [upB_ne (by decide), n8]; exact fun e => by cases e
  · rw [upB_ne (by decide), n14]; exact fun e => by cases e
  · rw [upB_ne (by decide), upd_ne (by decide), upd_ne (by decide)]; exact h.o15
  · rw [upB_ne (by decide : 13 ≠ 0), upB_ne (by decide : 4 ≠ 0), upB_ne (by decide : 8 ≠ 0), upB_ne (by decide : 14 ≠ 0), upd_ne (by decide : 13 ≠ 0), upd_ne (by decide : 4 ≠ 0), upd_ne (by decide : 8 ≠ 0)]
    intro ho
    obtain ⟨g, h1, h2, h3, h4, -, h6, h7⟩ := h.o13 ho
    exact ⟨g, h1, h2, Nat.lt_of_lt_of_le h3 hn.size, fun j hj => (hn.cell (p := ⟨g, j, none⟩) h3).trans (h4 j hj), fun _ _ e => by
      rw [upd_eq] at e
      have e2 : w.heap.size = g := Option.some.inj e
      omega, h6, h7⟩
/-- the one value's row is made -/
theorem StS.mk13 (h : StS wd k ys Y C on x w) (hC : C 13 = none) : StS wd k ys Y C (upB on 13) (RI.upd x 13 (.slice (some ⟨w.heap.size, 0, none⟩) 1 1)) (w.alloc (.cells (valA Y) 29)) := by
  have hn : Nx w (w.alloc (.cells (valA Y) 29)) := nx0 _ _
  refine ⟨h.nx.trans hn, fun j u hj ho => ?_, ?_, ?_, ?_, ?_, ?_, fun _ => ?_⟩
  · have e : j ≠ 13 := fun e => by rw [e, hC] at hj; cases hj
    rw [upd_ne e]; rw [upB_ne e] at ho; exact h.cs j u hj ho
  · rw [upB_ne (by decide), upB_ne (by decide), upd_ne (by decide)]; exact fun a b => (h.o0 a b).nx hn
  · rw [upB_ne (by decide), upB_ne (by decide), upd_ne (by decide)]; exact fun a b => (h.o4 a b).nx hn
  · rw [upB_ne (by decide), upB_ne (by decide), upd_ne (by decide)]; exact fun a b => (h.o8 a b).nx hn
  · rw [upB_ne (by decide), upd_ne (by decide)]; exact fun a => (h.o14 a).nx hn
  · rw [upB_ne (by decide), upd_ne (by decide), upd_ne (by decide)]; exact h.o15
  · rw [upB_ne (by decide : 0 ≠ 13), upB_ne (by decide : 4 ≠ 13), upB_ne (by decide : 8 ≠ 13), upB_ne (by decide : 14 ≠ 13), upd_ne (by decide : 0 ≠ 13), upd_ne (by decide : 4 ≠ 13), upd_ne (by decide : 8 ≠ 13)]
    have hb := Blk.new w (valA Y) 29
    refine ⟨w.heap.size, upd_eq 13, h.nx.size, hb.lt, fun j hj => hb.cell j, fun a b e => ?_, fun a b e => ?_, fun a b e => ?_⟩
    · have := (h.o0 a b).ltP _ e; omega
    · have := (h.o4 a b).ltP _ e; omega
    · have := (h.o8 a b).ltP _ e; omega
theorem Gp.nx {B : Nat} {xs : List ValS} {u : Value} (hg : Gp u w v w') (ho : OwnS valA 5 29 w wd.heap.size u xs) (h : Nx wd w) : Nx wd w' :=
  ⟨hg.os.trans h.os, hg.tape.trans h.tape, hg.output.trans h.output, Nat.le_trans h.size hg.size, fun b hb => (hg.block b (Nat.lt_of_lt_of_le hb h.size) (fun e => by have := ho.geP b e; omega)).trans (h.block b hb)⟩
/-- the first append -/
theorem StS.app4 (h : StS wd k ys Y C on x w) (n0 : on 0 = true) (n4 : on 4 = false) (n8 : on 8 = false) (n14 : on 14 = false) (hC : C 4 = none) (ho : OwnS valA 5 29 w' wd.heap.size v (ys.drop k)) (hg : Gp (x 0) w v w') : StS wd k ys Y C (upB on 4) (RI.upd x 4 v) w' := by
  refine ⟨hg.nx (h.o0 n0 n4) h.nx (B := 0), fun j u hj ho => ?_, ?_, fun _ _ => ?_, ?_, ?_, ?_, ?_⟩
  · have e : j ≠ 4 := fun e => by rw [e, hC] at hj; cases hj
    rw [upd_ne e]; rw [upB_ne e] at ho; exact h.cs j u hj ho
  · rw [upB_eq]; exact fun _ e => by cases e
  · rw [upd_eq]; exact ho
  · rw [upB_ne (by decide), n8]; exact fun e => by cases e
  · rw [upB_ne (by decide), n14]; exact fun e => by cases e
  · rw [upB_ne (by decide), upd_ne (by decide), upd_ne (by decide)]; exact h.o15
  · rw [upB_ne (by decide : 13 ≠ 4), upB_eq, upB_ne (by decide : 8 ≠ 4), n8, upd_ne (by decide : 13 ≠ 4), upd_eq]
    intro hh
    obtain ⟨g, h1, h2, h3, h4, h5, h6, h7⟩ := h.o13 hh
    exact ⟨g, h1, h2, Nat.lt_of_lt_of_le h3 hg.size, fun j hj => (World.cell?_of_block (hg.block g h3 (h5 n0 n4))).trans (h4 j hj), (fun _ e => by cases e), fun _ _ e => by
      rcases hg.own g e with e | e
      · exact h5 n0 n4 e
      · omega, (fun e => by cases e)⟩
/-- the second append -/
theorem StS.app8 (h : StS wd k ys Y C on x w) (n4 : on 4 = true) (n8 : on 8 = false) (n14 : on 14 = false) (hC : C 8 = none) (ho : OwnS valA 5 29 w' wd.heap.size v (ys.drop k ++ ys.take k)) (hg : Gp (x 4) w v w') : StS wd k ys Y C (upB on 8) (RI.upd x 8 v) w' := by
  refine ⟨hg.nx (h.o4 n4 n8) h.nx (B := 0), fun j u hj ho => ?_, ?_, ?_, fun _ _ => ?_, ?_, ?_, ?_⟩
  · have e : j ≠ 8 := fun e => by rw [e, hC] at hj; cases hj
    rw [upd_ne e]; rw [upB_ne e] at ho; exact h.cs j u hj ho
  · rw [upB_ne (by decide : 4 ≠ 8), n4]; exact fun _ e => by cases e
  · rw [upB_eq]; exact fun _ e => by cases e
  · rw [upd_eq]; exact ho
  · rw [upB_ne (by decide), n14]; exact fun e => by cases e
  · rw [upB_ne (by decide), upd_ne (by decide), upd_ne (by decide)]; exact h.o15
  · rw [upB_ne (by decide : 13 ≠ 8), upB_eq, upB_ne (by decide : 4 ≠ 8), n4, upB_ne (by decide : 14 ≠ 8), n14, upd_ne (by decide : 13 ≠ 8), upd_eq]
    intro hh
    obtain ⟨g, h1, h2, h3, h4, h5, h6, h7⟩ := h.o13 hh
    exact ⟨g, h1, h2, Nat.lt_of_lt_of_le h3 hg.size, fun j hj => (World.cell?_of_block (hg.block g h3 (h6 n4 n8))).trans (h4 j hj), (fun _ e => by cases e), (fun _ e => by cases e), fun _ _ e => by
      rcases hg.own g e with e | e
      · exact h6 n4 n8 e
      · omega⟩
/-- the third append -/
theorem StS.app14 (h : StS wd k ys Y C on x w) (n4 : on 4 = true) (n8 : on 8 = true) (n14 : on 14 = false) (n15 : on 15 = false) (hC : C 14 = none) (ho : OwnS valA 5 29 w' wd.heap.size v (ys.drop k ++ ys.take k ++ [Y])) (hg : Gp (x 8) w v w') : StS wd k ys Y C (upB on 14) (RI.upd x 14 v) w' := by
  refine ⟨hg.nx (h.o8 n8 n14) h.nx (B := 0), fun j u hj ho => ?_, ?_, ?_, ?_, fun _ => ?_, ?_, ?_⟩
  · have e : j ≠ 14 := fun e => by rw [e, hC] at hj; cases hj
    rw [upd_ne e]; rw [upB_ne e] at ho; exact h.cs j u hj ho
  · rw [upB_ne (by decide : 4 ≠ 14), n4]; exact fun _ e => by cases e
  · rw [upB_ne (by decide : 8 ≠ 14), n8]; exact fun _ e => by cases e
  · rw [upB_eq]; exact fun _ e => by cases e
  · rw [upd_eq]; exact ho
  · rw [upB_ne (by decide : 15 ≠ 14), n15]; exact fun e => by cases e
  · rw [upB_ne (by decide : 13 ≠ 14), upB_eq, upB_ne (by decide : 4 ≠ 14), n4, upB_ne (by decide : 8 ≠ 14), n8, upd_ne (by decide : 13 ≠ 14)]
    intro hh
    obtain ⟨g, h1, h2, h3, h4, h5, h6, h7⟩ := h.o13 hh
    exact ⟨g, h1, h2, Nat.lt_of_lt_of_le h3 hg.size, fun j hj => (World.cell?_of_block (hg.block g h3 (h7 n8 n14))).trans (h4 j hj), (fun _ e => by cases e), (fun _ e => by cases e), fun _ e => by cases e⟩
/-- the row is put into its place -/
theorem StS.put15 (h : StS wd k ys Y C on x w) (hC : C 15 = none) (hv : v = x 14) : StS wd k ys Y C (upB on 15) (RI.upd x 15 v) w := by
  refine ⟨h.nx, fun j u hj ho => ?_, ?_, ?_, ?_, ?_, ?_, ?_⟩
  · have e : j ≠ 15 := fun e => by rw [e, hC] at hj; cases hj
    rw [upd_ne e]; rw [upB_ne e] at ho; exact h.cs j u hj ho
  · rw [upB_ne (by decide), upB_ne (by decide), upd_ne (by decide)]; exact h.o0
  · rw [upB_ne (by decide), upB_ne (by decide), upd_ne (by decide)]; exact h.o4
  · rw [upB_ne (by decide), upB_ne (by decide), upd_ne (by decide)]; exact h.o8
  · rw [upB_ne (by decide), upd_ne (by decide)]; exact h.o14
  · intro _; rw [upd_eq, upd_ne (by decide)]; exact hv
  · rw [upB_ne (by decide : 13 ≠ 15), upB_ne (by decide : 0 ≠ 15), upB_ne (by decide : 4 ≠ 15), upB_ne (by decide : 8 ≠ 15), upB_ne (by decide : 14 ≠ 15), upd_ne (by decide : 13 ≠ 15), upd_ne (by decide : 0 ≠ 15), upd_ne (by decide : 4 ≠ 15), upd_ne (by decide : 8 ≠ 15)]; exact h.o13
theorem StS.upd' {ls : Array Bool} {i : Nat} (hi : i < ls.size) (h : StS wd k ys Y C (upB (fun j => ls.getD j false) i) x w) : StS wd k ys Y C (fun j => (ls.setIfInBounds i true).getD j false) x w := by rw [upB_ls hi]; exact h
/-- and the slot that is written last holds what it held -/
def StV (wd : World) (k : Nat) (ys : List ValS) (Y : ValS) (C : Nat → Option Value) (LV : Value) (on : Nat → Bool) (x : Nat → Value) (w : World) : Prop := StS wd k ys Y C on x w ∧ (on 15 = false → x 15 = LV)
theorem StV.stay {LV : Value} (h : on 15 = false → x 15 = LV) {i : Nat} (hi : 15 ≠ i) : upB on i 15 = false → RI.upd x i v 15 = LV := by
  rw [upB_ne hi, upd_ne hi]; exact h
theorem StV.upd' {LV : Value} {ls : Array Bool} {i : Nat} (hi : i < ls.size) (h : StV wd k ys Y C LV (upB (fun j => ls.getD j false) i) x w) : StV wd k ys Y C LV (fun j => (ls.setIfInBounds i true).getD j false) x w := by rw [upB_ls hi]; exact h
end
end Go.Proofs.Ytjeadmndnbggmaa
