/- Normal forms of values without parts, and of all of a value's parts. -/
import Derived.Test.YtjeadmndnbggmaaOrE
import Derived.Test.YtjeadmndnbggmaaOrD
set_option linter.unusedVariables false
set_option linter.unusedSimpArgs false
namespace Go.Proofs.Ytjeadmndnbggmaa
open Go.RowKit

/-- a number's cells -/
def OkS (y : ValS) : Prop := y.s = [] ∧ (∃ A c, y.l = .slice A 0 c ∧ c ≤ maxLen) ∧ (∃ A c, y.ids = .slice A 0 c ∧ c ≤ maxLen) ∧ intK y.k = true ∧ -9223372036854775808 ≤ y.n ∧ y.n ≤ 9223372036854775807
def lfV (y : ValS) : Val := leafV y.k y.n
def zeroS : ValS := ⟨0, 0, [], .slice none 0 0, .slice none 0 0⟩
theorem OkS.rd {y : ValS} (h : OkS y) (n : Nat) (w : World) : RdV (n + 1) w y (lfV y) := by
  obtain ⟨h1, ⟨A, c, h2, h3⟩, ⟨B, d, h4, h5⟩, -⟩ := h
  exact ⟨rfl, rfl, h1, ⟨A, c, [], h2, Nat.zero_le _, h3, fun h => absurd h (by decide), rfl, fun i h => absurd h (by simp)⟩, ⟨B, d, h4, Nat.zero_le _, h5, Rd.nil⟩⟩
theorem OkS.of {y : ValS} {n : Nat} {w : World} {A : Val} (h : RdV n w y A) (hA : leafOk A) : OkS y ∧ lfV y = A := by
  cases n with
  | zero => exact h.elim
  | succ n =>
    obtain ⟨k, a, s, l, d⟩ := A
    obtain ⟨hk, hr, rfl, rfl, rfl⟩ := hA
    obtain ⟨rfl, rfl, h3, ⟨A, c, ys, h4, -, h5, -⟩, ⟨B, e, h6, -, h7, -⟩⟩ := h
    exact ⟨⟨h3, ⟨A, c, h4, h5⟩, ⟨B, e, h6, h7⟩, hk, hr⟩, rfl⟩
theorem RdV.bare {w w' : World} {n : Nat} {y : ValS} {A : Val} (h : RdV n w y A) (hA : bareV A) : RdV n w' y A := by
  cases n with
  | zero => exact h.elim
  | succ n =>
    obtain ⟨k, a, s, l, d⟩ := A
    obtain ⟨rfl, rfl, rfl⟩ := hA
    obtain ⟨h1, h2, h3, ⟨A, c, ys, h4, h40, h5, -⟩, ⟨B, e, h6, h60, h7, -⟩⟩ := h
    exact ⟨h1, h2, h3, ⟨A, c, [], h4, h40, h5, fun h => absurd h (by decide), rfl, fun i h => absurd h (by simp)⟩, ⟨B, e, h6, h60, h7, Rd.nil⟩⟩
theorem OkS.leaf {y : ValS} (h : OkS y) : leafOk (lfV y) := leafK_ok h.2.2.2.1 h.2.2.2.2
theorem prt_leafs (n : Nat) : ∀ {l : List Val}, (∀ x ∈ l, leafOk x) → prtV (normV n) l = (l, 0)
  | [], _ => rfl
  | x :: r, h => by
    have e : normV n x = (x, 0) := by
      have hx := h x (by simp)
      cases n with
      | zero => rfl
      | succ n =>
        obtain ⟨k, a, s, l, i⟩ := x
        obtain ⟨hk, -, rfl, rfl, rfl⟩ := hx
        exact norm_leaf n hk a
    unfold prtV
    rw [e, prt_leafs n fun y hy => h y (by simp [hy])]; rfl
theorem norm_bare (n : Nat) {A : Val} (h1 : lstK (match A with | .mk k _ _ _ _ => k) = false) (h2 : (match A with | .mk k _ _ _ _ => k) ≠ 12) : normV (n + 1) A = (A, 0) := by
  obtain ⟨k, a, s, l, i⟩ := A
  unfold normV
  rw [if_pos ⟨h1, h2⟩]
def valG : Value := .agg #[.int .i64 0, .int .i64 0, .string ⟨#[]⟩, .slice none 0 0, .slice none 0 0]
theorem infoG : (Try.prog.info? 29).map (fun i => (i.zero, i.size, i.bytes)) = some (some valG, 5, 80) := by kernel_rfl
theorem made_rows (N : Nat) : madeCells valG.cells (N * 5) = (rowL valA (List.replicate N zeroS)).toArray := by
  apply Array.ext_getElem?
  intro i
  have hl : (rowL valA (List.replicate N zeroS)).length = N * 5 := by rw [rowL_length valA_size, List.length_replicate]
  by_cases h : i < N * 5
  · have hi : i / 5 < (List.replicate N zeroS).length := by rw [List.length_replicate]; omega
    have hj : i % 5 < 5 := Nat.mod_lt _ (by decide)
    have hg := rowL_get valA_size (List.replicate N zeroS) (i / 5) hi (i % 5) hj
    rw [show i / 5 * 5 + i % 5 = i by omega, List.getElem_replicate] at hg
    rw [show (rowL valA (List.replicate N zeroS)).toArray[i]? = (rowL valA (List.replicate N zeroS))[i]? from by simp, hg]
    unfold madeCells
    rw [Array.getElem?_map, Array.getElem?_range, if_pos h]
    have : ∀ j, j < 5 → some (valG.cells[j]!) = (valA zeroS)[j]? := by
      intro j hj
      have : j = 0 ∨ j = 1 ∨ j = 2 ∨ j = 3 ∨ j = 4 := by omega
      rcases this with rfl | rfl | rfl | rfl | rfl <;> rfl
    exact this (i % 5) hj
  · rw [Array.getElem?_eq_none (by rw [size_madeCells]; omega), show (rowL valA (List.replicate N zeroS)).toArray[i]? = (rowL valA (List.replicate N zeroS))[i]? from by simp, List.getElem?_eq_none (by omega)]
section
variable (w : World) {ops : Array Oper} {rest : List Oper} {o : Oper} {a : Act} {Q : Exit → Act → World → Prop}
theorem wpList_mkV (hgd : o.guard = none) (l c : Operand) (hop : o.op = Op.makeSlice 25 l c)
    (kl kc : IntKind) (N : Nat) (hl : a.eval l = .int kl N) (hc : a.eval c = .int kc N) (hN : N ≤ 100000)
    (h : ∀ g w', Hid (Blk w' w.heap.size g (rowL valA (List.replicate N zeroS)).toArray 29) → Hid (Nx w w') → wpList Try.prog ops Q rest (a.put o.dst (.slice (some ⟨g, 0, none⟩) N N)) w') : wpList Try.prog ops Q (o :: rest) a w := by
  obtain ⟨i, hi, hz, h1, h2⟩ := info_parts infoG
  refine wpList_plain hgd fun K hK => ?_
  have hrun := run_make (P := Try.prog) w 25 29 i valG Try.underlying25 hi hz kl kc N N (Int.natCast_nonneg _) (Int.le_refl _) (by rw [h2]; omega) (by omega)
  rw [h1, made_rows] at hrun
  have := hK _ _ (h w.heap.size (w.alloc (.cells (rowL valA (List.replicate N zeroS)).toArray 29)) ⟨Nat.le_refl _, heap_alloc_new w _⟩ (nx0 w _))
  unfold Oper.wp execOp
  simp only [hop, Sem.run_bind, Sem.run_pure, Result.andThen_ok, hl, hc, hrun]
  exact this
end
theorem results_ct {P : Program} {fn : Func} {p a : Tmp} {ty : TypeId} (h : fn.results = #[.cell p ty, .tmp a]) (tmps : Array Value) (w : World) (g : Nat) (t : TypeId) (cs : Array Value) (fr : Nat × Nat) (d : TypeDesc)
    (hp : tmps.getD p undef = .pointer (some ⟨g, 0, none⟩)) (hg : w.heap[g]? = some (.cells cs t fr))
    (hu : P.underlying ty = some d) (hd : (match d with | .struct _ | .array _ _ => true | _ => false) = true) (hi : (P.info? ty).map (·.size) = some cs.size) :
    (results fn tmps).run P w = .ok (.tuple #[.agg cs, tmps.getD a undef]) w := by
  have hp' : tmps[p]?.getD undef = .pointer (some ⟨g, 0, none⟩) := by simpa using hp
  simp [results, h, hp', asAddr, run_loadVar_row w g t ty cs fr d hg hu hd hi]
set_option maxRecDepth 100000 in
set_option maxHeartbeats 12800000 in
theorem norml_any (n : Nat) (w : World) (x : ValS) (A : Val) (hx : RdV n w x A) (hA : bareV A) (hk : x.k < 32) (h1 : lstK x.k = false) (h12 : x.k ≠ 12) :
    Calls Try.prog 5 #[.agg (valA x)] w fun e w' => ∃ y, e = .returned (.tuple #[.agg (valA y), .int .i64 0]) ∧ RdV n w' y A ∧ IsSlv y.l ∧ IsSlv y.ids ∧ Nx w w' := by
  obtain ⟨⟨lA, lu, lc, hxl⟩, ⟨dA, du, dc, hxd⟩⟩ := hx.slv
  have HCP : Hid (∀ wx, Nx w wx → Calls Try.prog 9 #[.agg (valA x)] wx fun e w' => ∃ y, e = .returned (.agg (valA y)) ∧ RdV n w' y A ∧ IsSlv y.l ∧ IsSlv y.ids ∧ Nx wx w') := fun wx hw => Copy_any n wx x A (hx.nx hw) hA
  obtain ⟨xk, xn, xs, xl, xd⟩ := x
  dsimp only at hk h1 h12 hxl hxd
  subst hxl hxd
  have hi := in_any
  have I1 : Hid (∀ wx, Calls Try.prog 10 #[.int .u32 61440, .int .i64 (xk : Int)] wx fun e w' => e = .returned (.bool false) ∧ w' = wx) := fun wx => by
    have := in_any wx 61440 xk (lstK xk || decide (xk = 12)) (by decide) hk (in_all ⟨xk, hk⟩)
    rw [h1, decide_eq_false h12] at this
    exact this
  have HB0 := Lib.hid hA
  clear hi hx h1 h12 hA
  rw [valA_agg] at HCP ⊢
  obtain ⟨g1, hg1⟩ : ∃ g, w.heap.size = g := ⟨_, rfl⟩
  obtain ⟨w1, hw1⟩ : ∃ x, w.alloc (.cells #[.int .i64 (xk : Int), .int .i64 xn, .string ⟨xs.toArray⟩, .slice lA lu lc, .slice dA du dc] 29) = x := ⟨_, rfl⟩
  have hb1 : Blk w1 g1 g1 #[.int .i64 (xk : Int), .int .i64 xn, .string ⟨xs.toArray⟩, .slice lA lu lc, .slice dA du dc] 29 := by rw [← hw1, ← hg1]; exact Blk.new w _ _
  have hn1 : Nx w w1 := by rw [← hw1]; exact nx0 _ _
  obtain ⟨g2, hg2⟩ : ∃ g, w1.heap.size = g := ⟨_, rfl⟩
  obtain ⟨w2, hw2⟩ : ∃ x, w1.alloc (.cells #[.int .i64 0, .int .i64 0, .string ⟨#[]⟩, .slice none 0 0, .slice none 0 0] 29) = x := ⟨_, rfl⟩
  have hb2 : Blk w2 g2 g2 #[.int .i64 0, .int .i64 0, .string ⟨#[]⟩, .slice none 0 0, .slice none 0 0] 29 := by rw [← hw2, ← hg2]; exact Blk.new w1 _ _
  have hn2 : Nx w1 w2 := by rw [← hw2]; exact nx0 _ _
  have HB2 := Lib.hid hb2
  have HN2 := Lib.hid (hn1.trans hn2)
  have HG : Hid (w.heap.size ≤ g2) := by
    unfold Hid
    have h1 := hb1.lt
    rw [hg1, ← hg2]; omega
  have hb1' := hb1.below hn2
  have a0 : w2.cell? ⟨g1, 0, none⟩ = some (.int .i64 (xk : Int)) := hb1'.cell 0
  have a1 : w2.cell? ⟨g1, 1, none⟩ = some (.int .i64 xn) := hb1'.cell 1
  have a2 : w2.cell? ⟨g1, 2, none⟩ = some (.string ⟨xs.toArray⟩) := hb1'.cell 2
  have a3 : w2.cell? ⟨g1, 3, none⟩ = some (.slice lA lu lc) := hb1'.cell 3
  have a4 : w2.cell? ⟨g1, 4, none⟩ = some (.slice dA du dc) := hb1'.cell 4
  clear hb1 hn1 hb2 hn2 hb1'
  go_enter Try.func5, Try.ntmps5
  go_wp2_with fail
  clear hw1 hg1 hw2 hg2
  refine (I1.out w2).mono ?_; rintro e w' ⟨rfl, hw⟩; obtain rfl := hw.symm
  go_wp2_with fail
  refine (HCP.out w2 HN2.out).mono ?_; rintro e w3 ⟨⟨yk, yn, ys, yl, yd⟩, rfl, hy, ⟨mA, mu, mc, rfl⟩, ⟨eA, eu, ec, rfl⟩, hn3⟩
  have HZ := Lib.hid (HB2.out.below hn3)
  have HN3 := Lib.hid (HN2.out.trans hn3)
  have HY := Lib.hid hy
  rw [valA_agg]
  clear a0 a1 a2 a3 a4 hn3 hy
  have z0 : w3.cell? ⟨g2, 0, none⟩ = some (.int .i64 0) := HZ.out.cell 0
  have z1 : w3.cell? ⟨g2, 1, none⟩ = some (.int .i64 0) := HZ.out.cell 1
  have z2 : w3.cell? ⟨g2, 2, none⟩ = some (.string ⟨#[]⟩) := HZ.out.cell 2
  have z3 : w3.cell? ⟨g2, 3, none⟩ = some (.slice none 0 0) := HZ.out.cell 3
  have z4 : w3.cell? ⟨g2, 4, none⟩ = some (.slice none 0 0) := HZ.out.cell 4
  have r0 := HZ.out.free 0
  have r1 := HZ.out.free 1
  have r2 := HZ.out.free 2
  have r3 := HZ.out.free 3
  have r4 := HZ.out.free 4
  go_wp2_with fail
  have HBC : Hid (Blk (wputs w3 g2 0 [.int .i64 (yk : Int), .int .i64 yn, .string ⟨ys.toArray⟩, .slice mA mu mc, .slice eA eu ec]) g2 g2 #[.int .i64 (yk : Int), .int .i64 yn, .string ⟨ys.toArray⟩, .slice mA mu mc, .slice eA eu ec] 29) := HZ.out.putAll [.int .i64 (yk : Int), .int .i64 yn, .string ⟨ys.toArray⟩, .slice mA mu mc, .slice eA eu ec] rfl
  have HNC : Hid (Nx w (wputs w3 g2 0 [.int .i64 (yk : Int), .int .i64 yn, .string ⟨ys.toArray⟩, .slice mA mu mc, .slice eA eu ec])) := Nx.puts HG.out [.int .i64 (yk : Int), .int .i64 yn, .string ⟨ys.toArray⟩, .slice mA mu mc, .slice eA eu ec] 0 HN3.out
  refine bodyPost_ret (results_ct rfl _ _ g2 _ _ _ _ rfl HBC.out.2 Try.underlying29 rfl (by kernel_rfl)) rfl ?_
  exact ⟨⟨yk, yn, ys, .slice mA mu mc, .slice eA eu ec⟩, rfl, HY.out.bare HB0.out, ⟨_, _, _, rfl⟩, ⟨_, _, _, rfl⟩, HNC.out⟩
end Go.Proofs.Ytjeadmndnbggmaa
