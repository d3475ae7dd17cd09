/- The contracts of big over numbers that are read, whatever noughts stand behind; the laws' own first question. -/
import Derived.Test.YtlcnjcdofmohhaaBigK
namespace Go.Proofs.Ytlcnjcdofmohhaa
open Go.RowKit

/-- a number of at most K entries that is read -/
def Num (w : World) (v : Value) (n K : Nat) : Prop := ∃ A c ys, v = .slice A ys.length c ∧ Rd uv w A ys ∧ ys.length ≤ c ∧ c ≤ maxLen ∧ ys.length ≤ K ∧ val ys = n
theorem Num.below {w w' : World} {v : Value} {n K : Nat} (h : Num w v n K) (hb : Below w.heap.size w w') : Num w' v n K := by
  obtain ⟨A, c, ys, h1, h2, h3⟩ := h
  exact ⟨A, c, ys, h1, h2.below hb, h3⟩
theorem IsNum.num {w : World} {v : Value} {n K : Nat} (h : IsNum w v n) (hk : n < 4294967296 ^ K) : Num w v n K := by
  obtain ⟨A, c, ys, h1, h2, h3, h4, h5, h6, h7⟩ := h.open_ K hk
  exact ⟨A, c, ys, h1, h2, h3, h4, h5, h7⟩
theorem Num.of {w : World} {A : Option Addr} {xs : List UInt32} {c K : Nat} (hr : Rd uv w A xs) (hc : xs.length ≤ c) (hm : c ≤ maxLen) (hl : xs.length ≤ K) : Num w (.slice A xs.length c) (val xs) K := ⟨A, c, xs, rfl, hr, hc, hm, hl, rfl⟩
theorem Num.lt {w : World} {v : Value} {n K : Nat} (h : Num w v n K) : n < 4294967296 ^ K := by
  obtain ⟨A, c, ys, h1, h2, h3, h4, h5, rfl⟩ := h
  exact Nat.lt_of_lt_of_le (val_lt ys) (Nat.pow_le_pow_right (by decide) h5)

theorem add_n (v u : Value) (a b K : Nat) (w : World) (h : Num w v a K) (g : Num w u b K) (hK : (K : Int) ≤ 5000) :
    Calls Try.prog 16 #[v, u] w fun e w' => ∃ v', e = .returned v' ∧ IsNum w' v' (a + b) ∧ Below w.heap.size w w' := by
  obtain ⟨A, c, xs, rfl, h2, h3, h4, h5, rfl⟩ := h
  obtain ⟨B, d, ys, rfl, g2, g3, g4, g5, rfl⟩ := g
  exact add_any A xs c B ys d w h2 h3 (by omega) g2 g3 (by omega)
theorem mul_n (v u : Value) (a b K : Nat) (w : World) (h : Num w v a K) (g : Num w u b K) (hK : (K : Int) ≤ 5000) :
    Calls Try.prog 18 #[v, u] w fun e w' => ∃ v', e = .returned v' ∧ IsNum w' v' (a * b) ∧ Below w.heap.size w w' := by
  obtain ⟨A, c, xs, rfl, h2, h3, h4, h5, rfl⟩ := h
  obtain ⟨B, d, ys, rfl, g2, g3, g4, g5, rfl⟩ := g
  exact mul_any A xs c B ys d w h2 h3 (by omega) g2 g3 (by omega)
theorem sub_n (v u : Value) (a b K : Nat) (w : World) (h : Num w v a K) (g : Num w u b K) (hK : (K : Int) ≤ 5000) :
    Calls Try.prog 12 #[v, u] w fun e w' => ∃ v' is, e = .returned (.tuple #[v', .bool is]) ∧ SubN w' a b v' is ∧ Below w.heap.size w w' := by
  obtain ⟨A, c, xs, rfl, h2, h3, h4, h5, rfl⟩ := h
  obtain ⟨B, d, ys, rfl, g2, g3, g4, g5, rfl⟩ := g
  exact sub_any A xs c B ys d w h2 h3 h4 (by omega) g2 g3 g4 (by omega)
theorem div_n (v u : Value) (a b K : Nat) (w : World) (h : Num w v a K) (g : Num w u b K) (hK : (K : Int) ≤ 5000) :
    Calls Try.prog 14 #[v, u] w fun e w' => ∃ q r ok, e = .returned (.tuple #[q, r, .bool ok]) ∧ DivN w' a b q r ok ∧ Below w.heap.size w w' := by
  obtain ⟨A, c, xs, rfl, h2, h3, h4, h5, rfl⟩ := h
  obtain ⟨B, d, ys, rfl, g2, g3, g4, g5, rfl⟩ := g
  exact div_any A xs c B ys d w h2 h3 (by omega) g2 g3 g4 (by omega)
theorem cmp_n (v u : Value) (a b K : Nat) (w : World) (h : Num w v a K) (g : Num w u b K) (hK : (K : Int) ≤ 5000) :
    Calls Try.prog 20 #[v, u] w fun e w' => e = .returned (.int .i64 (cmpI a b)) ∧ Below w.heap.size w w' := by
  obtain ⟨A, c, xs, rfl, h2, h3, h4, h5, rfl⟩ := h
  obtain ⟨B, d, ys, rfl, g2, g3, g4, g5, rfl⟩ := g
  exact cmp_any A xs c B ys d w h2 h3 h4 (by omega) g2 g3 g4 (by omega)
theorem shl_n (v : Value) (a K : Nat) (n : Int) (w : World) (h : Num w v a K) (hK : (K : Int) ≤ 5000) (hn1 : -100000 ≤ n) (hn2 : n ≤ 100000) :
    Calls Try.prog 22 #[v, .int .i64 n] w fun e w' => ∃ v', e = .returned v' ∧ IsNum w' v' (shV a n) ∧ Below w.heap.size w w' := by
  obtain ⟨A, c, xs, rfl, h2, h3, h4, h5, rfl⟩ := h
  exact shl_any A xs c n w h2 h3 h4 (by omega) hn1 hn2
theorem bits_n (v : Value) (a K : Nat) (w : World) (h : Num w v a K) (hK : (K : Int) ≤ 5000) :
    Calls Try.prog 24 #[v] w fun e w' => e = .returned (.int .i64 (blen a : Nat)) ∧ w = w' := by
  obtain ⟨A, c, xs, rfl, h2, h3, h4, h5, rfl⟩ := h
  exact bits_any A xs c w h2 h3 h4 (by omega)
theorem low_n (v : Value) (a K : Nat) (w : World) (h : Num w v a K) (hK : (K : Int) ≤ 5000) :
    Calls Try.prog 26 #[v] w fun e w' => e = .returned (.int .u64 (a % 18446744073709551616 : Nat)) ∧ w = w' := by
  obtain ⟨A, c, xs, rfl, h2, h3, h4, h5, rfl⟩ := h
  exact low_any A xs c w h2 h3 (by omega)

theorem ln1 {w : World} {v : Value} {n : Nat} (h : IsNum w v n) (hn : n < 4294967296 * 4294967296) : Num w v n 2 := h.num (by simpa [Nat.pow_succ] using hn)

set_option maxRecDepth 100000 in
set_option maxHeartbeats 1600000 in
theorem bbegun_any (w : World) : Calls Try.prog 9 #[] w fun e w' => e = .returned (.bool true) ∧ Below w.heap.size w w' := by
  go_enter Try.func9, Try.ntmps9
  go_wp2_with fail
  refine (of_any 17 _ (by decide)).mono ?_; rintro e w1 ⟨v1, rfl, hn1, hb1⟩
  go_wp2_with fail
  refine (of_any 5 _ (by decide)).mono ?_; rintro e w2 ⟨v2, rfl, hn2, hb2⟩
  have hn1' := hn1.below hb2
  have hb := nx hb1 hb2
  go_wp2_with fail
  refine (div_n v1 v2 17 5 2 _ (ln1 hn1' (by decide)) (ln1 hn2 (by decide)) (by decide)).mono ?_; rintro e w3 ⟨q, r, ok, rfl, hdiv, hb3⟩
  unfold DivN at hdiv
  rw [if_neg (by decide)] at hdiv
  obtain ⟨hq, hr, rfl⟩ := hdiv
  have hb := nx hb hb3
  go_wp2_with fail
  refine (of_any 9 _ (by decide)).mono ?_; rintro e w4 ⟨v4, rfl, hn4, hb4⟩
  go_wp2_with fail
  refine (of_any 4 _ (by decide)).mono ?_; rintro e w5 ⟨v5, rfl, hn5, hb5⟩
  have hn4' := hn4.below hb5
  have hb45 := nx hb4 hb5
  go_wp2_with fail
  refine (sub_n v4 v5 9 4 2 _ (ln1 hn4' (by decide)) (ln1 hn5 (by decide)) (by decide)).mono ?_; rintro e w6 ⟨dv, is, rfl, hsub, hb6⟩
  unfold SubN at hsub
  rw [if_neg (by decide)] at hsub
  obtain ⟨hd, rfl⟩ := hsub
  have hb46 := nx hb45 hb6
  have hq6 := hq.below hb46
  have hr6 := hr.below hb46
  have hb := nx hb hb46
  go_wp2_with fail
  refine (low_n q _ 2 _ (ln1 hq6 (by decide)) (by decide)).mono ?_; rintro e w' ⟨rfl, rfl⟩
  go_wp2_with fail
  refine (low_n r _ 2 _ (ln1 hr6 (by decide)) (by decide)).mono ?_; rintro e w' ⟨rfl, rfl⟩
  go_wp2_with fail
  refine (low_n dv _ 2 _ (ln1 hd (by decide)) (by decide)).mono ?_; rintro e w' ⟨rfl, rfl⟩
  go_wp2_with fail
  refine (ten_any 3 _ (by decide)).mono ?_; rintro e w7 ⟨v7, rfl, hn7, hb7⟩
  have hb := nx hb hb7
  go_wp2_with fail
  refine (bits_n v7 _ 2 _ (ln1 hn7 (by decide)) (by decide)).mono ?_; rintro e w' ⟨rfl, rfl⟩
  rw [show blen (10 ^ 3) = 10 from by decide]
  go_wp2_with fail
  refine (of_any 1 _ (by decide)).mono ?_; rintro e w8 ⟨v8, rfl, hn8, hb8⟩
  go_wp2_with fail
  refine (of_any 2 _ (by decide)).mono ?_; rintro e w9 ⟨v9, rfl, hn9, hb9⟩
  have hn8' := hn8.below hb9
  have hb := nx (nx hb hb8) hb9
  go_wp2_with fail
  refine (cmp_n v8 v9 1 2 2 _ (ln1 hn8' (by decide)) (ln1 hn9 (by decide)) (by decide)).mono ?_; rintro e w10 ⟨rfl, hb10⟩
  rw [show cmpI 1 2 = -1 from by decide]
  have hb := nx hb hb10
  go_wp2_with fail
  refine (of_any 0 _ (by decide)).mono ?_; rintro e w11 ⟨v11, rfl, hn11, hb11⟩
  obtain ⟨A11, c11, y11, rfl, -, -, -, H11⟩ := hn11
  have hz : y11.length = 0 := by rw [H11.out]; rfl
  have hb := nx hb hb11
  go_wp2_with fail
  refine (of_any 6 _ (by decide)).mono ?_; rintro e w12 ⟨v12, rfl, hn12, hb12⟩
  go_wp2_with fail
  refine (of_any 7 _ (by decide)).mono ?_; rintro e w13 ⟨v13, rfl, hn13, hb13⟩
  have hn12' := hn12.below hb13
  have hb := nx (nx hb hb12) hb13
  go_wp2_with fail
  refine (mul_n v12 v13 6 7 2 _ (ln1 hn12' (by decide)) (ln1 hn13 (by decide)) (by decide)).mono ?_; rintro e w14 ⟨v14, rfl, hn14, hb14⟩
  have hb := nx hb hb14
  go_wp2_with fail
  refine (low_n v14 _ 2 _ (ln1 hn14 (by decide)) (by decide)).mono ?_; rintro e w' ⟨rfl, rfl⟩
  go_wp2_with fail
  go_ret
  exact ⟨rfl, hb⟩

set_option maxRecDepth 100000 in
set_option maxHeartbeats 800000 in
theorem light_any (g : Nat) (A : Option Addr) (n c : Nat) (B : Option Addr) (m d : Nat) (w : World) (h0 : w.cell? ⟨g, 0, none⟩ = some (.slice A n c)) (h1 : w.cell? ⟨g, 1, none⟩ = some (.slice B m d)) :
    Calls Try.prog 10 #[.slice (some ⟨g, 0, none⟩) 2 2] w fun e w' => e = .returned (.bool (decide (n ≤ 12) && decide (m ≤ 12))) ∧ w = w' := by
  go_enter Try.func10, Try.ntmps10
  go_wp2_with fail
  refine wp_loop_rounds 3 ?_
  rw [rounds_succ]
  by_cases hn : n ≤ 12
  · have e1 : Hid (decide (n ≤ 12) = true) := decide_eq_true hn
    have g1 : decide (12 < (n : Int)) = false := decide_eq_false (by omega)
    go_wp2_with fail
    rw [rounds_succ]
    by_cases hm : m ≤ 12
    · have e2 : Hid (decide (m ≤ 12) = true) := decide_eq_true hm
      have g2 : decide (12 < (m : Int)) = false := decide_eq_false (by omega)
      go_wp2_with fail
      rw [rounds_succ]
      go_wp2_with fail
      go_ret
      refine ⟨?_, rfl⟩
      rw [e1.out, e2.out]; rfl
    · have e2 : Hid (decide (m ≤ 12) = false) := decide_eq_false hm
      have g2 : decide (12 < (m : Int)) = true := decide_eq_true (by omega)
      go_wp2_with fail
      go_ret
      refine ⟨?_, rfl⟩
      rw [e1.out, e2.out]; rfl
  · have e1 : Hid (decide (n ≤ 12) = false) := decide_eq_false hn
    have g1 : decide (12 < (n : Int)) = true := decide_eq_true (by omega)
    go_wp2_with fail
    go_ret
    refine ⟨?_, rfl⟩
    rw [e1.out]; rfl

/-- what is known of a slice of words that came in -/
def RowWords (w : World) (A : Option Addr) (len cap : Nat) : Prop := ∃ xs : List UInt32, len = xs.length ∧ Rd uv w A xs ∧ xs.length ≤ cap ∧ cap ≤ maxLen
theorem row_words_nil (w : World) : RowWords w none 0 0 := ⟨[], rfl, Rd.nil, Nat.le_refl _, Nat.zero_le _⟩
theorem row_words (w : World) (x : Addr) (len cap : Nat) (zs : List Int) (hl : len ≤ cap) (hm : cap ≤ maxLen) (hz : zs.length = cap)
    (hcell : ∀ i, i < zs.length → w.cell? (x.add i) = some (.int .u32 (zs.getD i 0))) (hwz : ∀ n ∈ zs, (Lit.int .u32 n).wf = true) : RowWords w (some x) len cap := by
  obtain ⟨xs, h1, h2, h3, h4, h5⟩ := row_ints (k := .u32) w x len cap zs hl hm hz hcell hwz
  refine ⟨xs.map fun n => UInt32.ofNat n.toNat, by simpa using h1, fun hn => ?_, by simpa using h3, h4⟩
  rw [List.length_map] at hn
  obtain ⟨b, off, e, hb, hc⟩ := h2 hn
  refine ⟨b, off, e, hb, fun j hj => ?_⟩
  rw [List.length_map] at hj
  rw [hc j hj, List.getElem_map]
  have hw := h5 _ (List.getElem_mem hj)
  generalize xs[j] = n at hw
  have h01 : 0 ≤ n ∧ n ≤ 4294967295 := by
    simp [Lit.wf, IntKind.min, IntKind.max, IntKind.signed, IntKind.bits] at hw
    omega
  rw [← uv_ofNat n.toNat n (by omega)]
end Go.Proofs.Ytlcnjcdofmohhaa
