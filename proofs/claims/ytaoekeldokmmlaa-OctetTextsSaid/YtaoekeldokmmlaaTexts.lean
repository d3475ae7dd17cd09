/- OctetTexts: for every two strings and every slice of bytes the law returns true and leaves memory as it was. No condition. -/
import Derived.Test.YtaoekeldokmmlaaBegun
import Derived.Test.YtaoekeldokmmlaaRefA
namespace Go.Proofs.Ytaoekeldokmmlaa
open Go.RowKit

theorem take_left' (l m : List UInt8) (n : Nat) (h : l.length = n) : (l ++ m).take n = l := by rw [← h]; exact List.take_left
theorem drop_left' (l m : List UInt8) (n : Nat) (h : l.length = n) : (l ++ m).drop n = m := by rw [← h]; exact List.drop_left
theorem num_beT' (n x k : Nat) (hk : k ≤ n) : num (beT n x k) = x / 256 ^ (n - k) % 256 ^ k := by
  induction k with
  | zero => simp [beT, num, Nat.mod_one]
  | succ k ih =>
    rw [beT_succ, num_snoc, ih (by omega)]
    have e : 2 ^ (8 * (n - 1 - k)) = 256 ^ (n - (k + 1)) := by rw [Nat.pow_mul, show n - 1 - k = n - (k + 1) from by omega]
    rw [e, show n - k = (n - (k + 1)) + 1 from by omega, Nat.pow_succ, ← Nat.div_div_eq_div_mul]
    generalize x / 256 ^ (n - (k + 1)) = y
    rw [UInt8.toNat_ofNat']
    have h : y % 256 ^ (k + 1) = y % 256 + 256 * (y / 256 % 256 ^ k) := by rw [Nat.pow_succ, Nat.mul_comm, Nat.mod_mul]
    rw [h]
    omega
theorem num_be' (n x : Nat) : num (be n x) = x % 256 ^ n := by
  unfold be; rw [num_beT' n x n (Nat.le_refl _)]; simp

/-- what TakeText makes of bytes -/
def textS (xs : List UInt8) : Option (ByteArray × Nat) :=
  if 4 ≤ xs.length ∧ 4 + num (xs.take 4) ≤ xs.length then some (⟨((xs.drop 4).take (num (xs.take 4))).toArray⟩, 4 + num (xs.take 4)) else none
def textV (xs : List UInt8) : Value := match textS xs with
  | some (s, n) => .tuple #[.string s, .int .i64 n, .int .i64 0]
  | none => .tuple #[.string ⟨#[]⟩, .int .i64 0, .int .i64 3]

theorem takeText_any (A : Option Addr) (xs : List UInt8) (c : Nat) (w : World) (hr : Rd bv w A xs) (hc : xs.length ≤ c) (hm : c ≤ maxLen) :
    Calls Try.prog 16 #[.slice A xs.length c] w fun e w' => e = .returned (textV xs) ∧ w = w' := by
  unfold textV textS
  by_cases h4 : 4 ≤ xs.length
  · by_cases hn : 4 + num (xs.take 4) ≤ xs.length
    · rw [if_pos ⟨h4, hn⟩]; exact takeText_ok A xs c w hr hc hm h4 hn
    · rw [if_neg (fun h => hn h.2)]; exact takeText_short A xs c w hr hc hm h4 (by omega)
  · rw [if_neg (fun h => h4 h.1)]; exact takeText_short4 A xs c w (Nat.le_trans hc hm) (by omega)

set_option maxHeartbeats 400000 in
theorem refTakeText_any (A : Option Addr) (xs : List UInt8) (c : Nat) (w : World) (hr : Rd bv w A xs) (hc : xs.length ≤ c) (hm : c ≤ maxLen) :
    Calls Try.prog 17 #[.slice A xs.length c] w fun e w' => e = .returned (textV xs) ∧ w = w' := by
  unfold textV textS
  by_cases h4 : 4 ≤ xs.length
  · by_cases hn : 4 + num (xs.take 4) ≤ xs.length
    · rw [if_pos ⟨h4, hn⟩]
      go_enter Try.func17, Try.ntmps17
      go_wp2_with fail
      refine (refTake_ok A xs c 4 _ hr hc hm (by omega) h4).mono ?_; rintro e w' ⟨rfl, rfl⟩
      unfold maxLen at hm
      generalize hN : num (xs.take 4) = N at *
      have HN := Lib.hid hN
      clear hN
      have hle : (N : Int) ≤ (xs.length : Int) - 4 := by omega
      go_wp2_with (first
        | (refine wpList_sl (f := bv) _ bT rfl _ _ _ rfl A xs c rfl hr hc 4 (4 + N) (.inr ⟨_, _, rfl, rfl⟩) (.inr ⟨_, _, rfl, rfl⟩) (by omega) (by omega) (by omega) ?_; intro A1 ys c1 hcut hc1 hc2; obtain ⟨hr1, HY, hlo, hhi⟩ := hcut)
        | (refine wpList_str _ rfl _ rfl Try.underlying22 Try.underlying5 Try.underlying9 A1 ys c1 rfl hr1 ?_; intro s HS hs1 hs2))
      go_ret3
      refine ⟨?_, rfl⟩
      have e1 : (4 + (N : Int)).toNat = 4 + N := by omega
      rw [HS.out, HY.out, HN.out, e1]
      simp [List.drop_take]
    · rw [if_neg (fun h => hn h.2)]
      go_enter Try.func17, Try.ntmps17
      go_wp2_with fail
      refine (refTake_ok A xs c 4 _ hr hc hm (by omega) h4).mono ?_; rintro e w' ⟨rfl, rfl⟩
      unfold maxLen at hm
      generalize hN : num (xs.take 4) = N at *
      clear hN
      have hle : ¬ (N : Int) ≤ (xs.length : Int) - 4 := by omega
      go_wp2_with fail
      go_ret3
      exact ⟨rfl, rfl⟩
  · rw [if_neg (fun h => h4 h.1)]
    go_enter Try.func17, Try.ntmps17
    go_wp2_with fail
    refine (refTake_short A xs c 4 _ (Nat.le_trans hc hm) (by omega) (by omega)).mono ?_; rintro e w' ⟨rfl, rfl⟩
    go_wp2_with fail
    go_ret3
    exact ⟨rfl, rfl⟩

theorem text_both (xs : List UInt8) : ∃ (s : ByteArray) (n e : Nat),
    (∀ A c w, Rd bv w A xs → xs.length ≤ c → c ≤ maxLen → Calls Try.prog 16 #[.slice A xs.length c] w fun r w' => r = .returned (.tuple #[.string s, .int .i64 n, .int .i64 e]) ∧ w = w') ∧
    (∀ A c w, Rd bv w A xs → xs.length ≤ c → c ≤ maxLen → Calls Try.prog 17 #[.slice A xs.length c] w fun r w' => r = .returned (.tuple #[.string s, .int .i64 n, .int .i64 e]) ∧ w = w') := by
  have h1 := fun A c w hr hc hm => takeText_any A xs c w hr hc hm
  have h2 := fun A c w hr hc hm => refTakeText_any A xs c w hr hc hm
  unfold textV at h1 h2
  cases h : textS xs with
  | some p => rw [h] at h1 h2; exact ⟨p.1, p.2, 0, h1, h2⟩
  | none => rw [h] at h1 h2; exact ⟨⟨#[]⟩, 0, 3, h1, h2⟩

theorem textS_put (s : ByteArray) (m : List UInt8) (hs : s.size ≤ 60) : 4 ≤ (be 4 s.size ++ s.data.toList ++ m).length ∧ num ((be 4 s.size ++ s.data.toList ++ m).take 4) = s.size ∧
    4 + s.size ≤ (be 4 s.size ++ s.data.toList ++ m).length ∧ ((be 4 s.size ++ s.data.toList ++ m).drop 4).take s.size = s.data.toList ∧ (be 4 s.size ++ s.data.toList ++ m).drop (4 + s.size) = m := by
  have hl : s.data.toList.length = s.size := len_bytes s
  have hlen : (be 4 s.size ++ s.data.toList ++ m).length = 4 + s.size + m.length := by rw [List.length_append, List.length_append, be_len, hl]
  refine ⟨by omega, ?_, by omega, ?_, ?_⟩
  · rw [List.append_assoc, take_left' _ _ _ (be_len _ _), num_be']
    exact Nat.mod_eq_of_lt (by omega)
  · rw [List.append_assoc, drop_left' _ _ _ (be_len _ _), take_left' _ _ _ hl]
  · rw [drop_left' _ _ _ (by rw [List.length_append, be_len, hl])]

theorem takeText_is (A : Option Addr) (W : List UInt8) (c : Nat) (w : World) (s : ByteArray) (m : List UInt8) (hW : Hid (W = be 4 s.size ++ s.data.toList ++ m)) (hs : s.size ≤ 60) (hr : Rd bv w A W) (hc : W.length ≤ c) (hm : c ≤ maxLen) :
    Calls Try.prog 16 #[.slice A W.length c] w fun r w' => r = .returned (.tuple #[.string s, .int .i64 (4 + s.size : Nat), .int .i64 0]) ∧ w = w' := by
  obtain ⟨h1, h2, h3, h4, h5⟩ := textS_put s m hs
  rw [← hW.out] at h1 h2 h3 h4
  have := takeText_ok A W c w hr hc hm h1 (by rw [h2]; exact h3)
  rw [h2, h4] at this
  exact this

set_option maxHeartbeats 1000000 in
theorem OctetTexts_walk (s t : ByteArray) (A : Option Addr) (xs : List UInt8) (c : Nat) (w : World) (hs0 : s.size ≤ maxLen) (ht0 : t.size ≤ maxLen) (hr : Rd bv w A xs) (hc : xs.length ≤ c) (hm : c ≤ maxLen) :
    Calls Try.prog 5 #[.string s, .string t, .slice A xs.length c] w fun e w' => e = .returned (.bool true) ∧ Below w.heap.size w w' := by
  unfold maxLen at hs0 ht0
  by_cases hs : s.size ≤ 60
  · by_cases ht : t.size ≤ 60
    · by_cases hx : xs.length ≤ 60
      · have d1 : decide (60 < (s.size : Int)) = false := decide_eq_false (by omega)
        have d2 : decide (60 < (t.size : Int)) = false := decide_eq_false (by omega)
        have d3 : decide (60 < (xs.length : Int)) = false := decide_eq_false (by omega)
        obtain ⟨p, i, e0, hb1, hb2⟩ := text_both xs
        have HB1 := Lib.hid hb1
        have HB2 := Lib.hid hb2
        clear hb1 hb2
        go_enter Try.func5, Try.ntmps5
        go_wp2_with fail
        refine (begun_any _).mono ?_; rintro e w0 ⟨rfl, hb0⟩
        have hr0 := hr.below hb0
        go_wp2_with fail
        refine (HB1.out A c _ hr0 hc hm).mono ?_; rintro e w' ⟨rfl, rfl⟩
        go_wp2_with fail
        refine (HB2.out A c _ hr0 hc hm).mono ?_; rintro e w' ⟨rfl, rfl⟩
        go_wp2_with fail
        refine (putText_any none [] 0 s _ Rd.nil (by decide) (by simp; omega)).mono ?_; rintro e w1 ⟨v1, rfl, hown1, hb3⟩
        obtain ⟨A1, c1, W1, rfl, HW1, h1a, h1b, hc1, hm1, hr1, -⟩ := hown1.name (4 + s.size) (by rw [List.length_append, List.length_append, be_len, len_bytes]; simp)
        clear hown1
        go_wp2_with fail
        refine (putText_any A1 W1 c1 t _ hr1 hc1 (by omega)).mono ?_; rintro e w2 ⟨v2, rfl, hown2, hb4⟩
        obtain ⟨A2, c2, W2, rfl, HW2, h2a, h2b, hc2, hm2, hr2, -⟩ := hown2.name (8 + s.size + t.size) (by rw [List.length_append, List.length_append, be_len, len_bytes]; omega)
        have HW : Hid (W2 = be 4 s.size ++ s.data.toList ++ (be 4 t.size ++ t.data.toList ++ [])) := by
          unfold Hid; rw [HW2.out, HW1.out]; simp
        clear hown2 hr1 HW1 HW2
        go_wp2_with fail
        refine (takeText_is A2 W2 c2 _ s _ HW hs hr2 hc2 hm2).mono ?_; rintro e w' ⟨rfl, rfl⟩
        have g1 : (((4 + s.size : Nat) : Int) != 4 + (s.size : Int)) = false := by rw [bne_eq_false_iff_eq]; omega
        have g2 : decide ((W2.length : Int) < ((4 + s.size : Nat) : Int)) = false := decide_eq_false (by omega)
        unfold maxLen at hm2
        go_wp2_with (refine wpList_sl (f := bv) _ bT rfl _ _ _ rfl A2 W2 c2 rfl hr2 hc2 (4 + s.size) W2.length (.inr ⟨_, _, rfl, rfl⟩) (.inl ⟨rfl, rfl⟩) (by omega) (by omega) (by omega) ?_; intro A3 ys c3 hcut hc3 hc3'; obtain ⟨hr3, HY, h3a, h3b⟩ := hcut)
        have e1 : (4 + (s.size : Int)).toNat = 4 + s.size := by omega
        have e2 : ((W2.length : Int)).toNat = W2.length := by omega
        have HY2 : Hid (ys = be 4 t.size ++ t.data.toList ++ []) := by
          unfold Hid
          rw [HY.out, e1, e2, List.take_length, HW.out]
          exact (textS_put s _ hs).2.2.2.2
        clear e1 e2
        refine (takeText_is A3 ys c3 _ t _ HY2 ht hr3 hc3 (by unfold maxLen; omega)).mono ?_; rintro e w' ⟨rfl, rfl⟩
        have g3 : (4 + (s.size : Int) + ((4 + t.size : Nat) : Int) == (W2.length : Int)) = true := by rw [beq_iff_eq]; omega
        have g4 : (4 + (s.size : Int) + (4 + (t.size : Int)) == (W2.length : Int)) = true := by rw [beq_iff_eq]; omega
        go_wp2_with fail
        go_ret
        exact ⟨rfl, nx hb0 (nx hb3 hb4)⟩
      · have d1 : decide (60 < (s.size : Int)) = false := decide_eq_false (by omega)
        have d2 : decide (60 < (t.size : Int)) = false := decide_eq_false (by omega)
        have d3 : decide (60 < (xs.length : Int)) = true := decide_eq_true (by omega)
        go_enter Try.func5, Try.ntmps5
        go_wp2_with fail
        refine (begun_any _).mono ?_; rintro e w0 ⟨rfl, hb0⟩
        go_wp2_with fail
        go_ret
        exact ⟨rfl, hb0⟩
    · have d1 : decide (60 < (s.size : Int)) = false := decide_eq_false (by omega)
      have d2 : decide (60 < (t.size : Int)) = true := decide_eq_true (by omega)
      go_enter Try.func5, Try.ntmps5
      go_wp2_with fail
      refine (begun_any _).mono ?_; rintro e w0 ⟨rfl, hb0⟩
      go_wp2_with fail
      go_ret
      exact ⟨rfl, hb0⟩
  · have d1 : decide (60 < (s.size : Int)) = true := decide_eq_true (by omega)
    go_enter Try.func5, Try.ntmps5
    go_wp2_with fail
    refine (begun_any _).mono ?_; rintro e w0 ⟨rfl, hb0⟩
    go_wp2_with fail
    go_ret
    exact ⟨rfl, hb0⟩
end Go.Proofs.Ytaoekeldokmmlaa
