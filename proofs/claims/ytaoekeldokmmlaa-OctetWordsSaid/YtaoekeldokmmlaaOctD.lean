/- The contracts of octet's functions: sealed records. -/
import Derived.Test.YtaoekeldokmmlaaOctC
namespace Go.Proofs.Ytaoekeldokmmlaa
open Go.RowKit

theorem crcSteps_lt (k r : Nat) (h : r < 4294967296) : crcSteps k r < 4294967296 := by
  induction k with
  | zero => exact h
  | succ k ih => have := (crc_bits (crcSteps k r) (by omega)).2; simp only [crcSteps]; omega
theorem crcReg_lt (l : List UInt8) : crcReg l < 4294967296 := by
  unfold crcReg
  suffices h : ∀ (l : List UInt8) (r : Nat), r < 4294967296 → l.foldl crcByte r < 4294967296 from h l _ (by decide)
  intro l
  induction l with
  | nil => intro r h; exact h
  | cons x l ih =>
    intro r h
    refine ih _ (crcSteps_lt 8 _ ?_)
    have := x.toNat_lt
    exact Nat.xor_lt_two_pow (n := 32) h (by omega)
theorem crc_lt (l : List UInt8) : crc l < 4294967296 := Nat.xor_lt_two_pow (n := 32) (by decide) (crcReg_lt l)

set_option maxHeartbeats 400000 in
theorem seal_any (A : Option Addr) (xs : List UInt8) (c : Nat) (w : World) (hr : Rd bv w A xs) (hc : xs.length ≤ c) (hm : c ≤ maxLen) (hl : (xs.length : Int) ≤ 16777215) :
    Calls Try.prog 21 #[.slice A xs.length c] w fun e w' => ∃ v', e = .returned v' ∧
      Own bv 5 w' w.heap.size v' (be 3 xs.length ++ xs ++ be 4 (crc xs)) ∧ Below w.heap.size w w' := by
  have hge : decide ((16777216 : Int) ≤ (xs.length : Int)) = false := decide_eq_false (by omega)
  go_enter Try.func21, Try.ntmps21
  go_wp2_with (at_make; go_must (refine wpList_mk0 (f := bv) _ bT rfl _ _ rfl w.heap.size _ _ _ rfl rfl (by omega) (by omega) (by omega) (Nat.le_refl _) ?_; intro v1 w1 hown1 hbel1; have hr1 := hr.below hbel1; have hs1 := hbel1.size))
  refine (push_any w.heap.size v1 [] _ 3 _ (by omega) (by omega) (by simp) hown1 hs1).mono ?_; rintro e w2 ⟨v2, rfl, hown2, hbel2⟩
  have hr2 := hr.below (hbel1.trans hbel2)
  have hs2 := (hbel1.trans hbel2).size
  go_wp2_with (at_builtin; go_must (refine wpList_app (f := bv) _ bT rfl _ _ rfl bv_one w.heap.size _ _ _ rfl hown2 _ _ rfl hr2 (by simp [be_len, maxLen]; omega) (by simp [be_len]; omega) hs2 ?_; intro v3 w3 hown3 hbel3))
  have hr3 := hr.below ((hbel1.trans hbel2).trans hbel3)
  have hs3 := ((hbel1.trans hbel2).trans hbel3).size
  refine (sum_any A xs c _ hr3 hc hm).mono ?_; rintro e w' ⟨rfl, rfl⟩
  have hcr : (crc xs : Int) ≤ 4294967295 := by have := crc_lt xs; omega
  generalize hC : crc xs = C at *
  have HC := Lib.hid hC
  clear hC
  go_wp2_with fail
  refine (push_any w.heap.size v3 _ C 4 _ (by omega) (by omega) (by simp [be_len]; omega) hown3 hs3).mono ?_; rintro e w4 ⟨v4, rfl, hown4, hbel4⟩
  go_wp2_with fail
  go_ret
  exact ⟨_, rfl, by rw [HC.out]; simpa using hown4, ((hbel1.trans hbel2).trans hbel3).trans hbel4⟩

/-- what Unseal makes of bytes: the data, the record's length, the error -/
def unsealS (xs : List UInt8) : List UInt8 × Nat × Nat :=
  if xs.length < 3 then ([], 0, 3)
  else if xs.length < 7 + num (xs.take 3) then ([], 0, 3)
  else if num ((xs.drop (3 + num (xs.take 3))).take 4) ≠ crc ((xs.drop 3).take (num (xs.take 3))) then ([], 0, 2)
  else ((xs.drop 3).take (num (xs.take 3)), 7 + num (xs.take 3), 0)

theorem num_take_lt (xs : List UInt8) (k : Nat) : num (xs.take k) < 256 ^ k :=
  Nat.lt_of_lt_of_le (num_lt _) (Nat.pow_le_pow_right (by decide) (by rw [List.length_take]; omega))

set_option maxHeartbeats 400000 in
theorem unseal_short3 (A : Option Addr) (xs : List UInt8) (c : Nat) (w : World) (hm : xs.length ≤ maxLen) (hl : xs.length < 3) :
    Calls Try.prog 19 #[.slice A xs.length c] w fun e w' => e = .returned (.tuple #[.slice none 0 0, .int .i64 0, .int .i64 3]) ∧ w = w' := by
  go_enter Try.func19, Try.ntmps19
  go_wp2_with fail
  refine (take_short A xs c 3 _ hm (by omega) hl).mono ?_; rintro e w' ⟨rfl, rfl⟩
  go_wp2_with fail
  go_ret3
  exact ⟨rfl, rfl⟩

set_option maxHeartbeats 400000 in
theorem unseal_short (A : Option Addr) (xs : List UInt8) (c : Nat) (w : World) (hr : Rd bv w A xs) (hc : xs.length ≤ c) (hm : c ≤ maxLen) (hl : 3 ≤ xs.length) (hn : xs.length < 7 + num (xs.take 3)) :
    Calls Try.prog 19 #[.slice A xs.length c] w fun e w' => e = .returned (.tuple #[.slice none 0 0, .int .i64 0, .int .i64 3]) ∧ w = w' := by
  go_enter Try.func19, Try.ntmps19
  go_wp2_with fail
  refine (take_ok A xs c 3 _ hr hc hm (by omega) hl).mono ?_; rintro e w' ⟨rfl, rfl⟩
  unfold maxLen at hm
  have hN3 : (num (xs.take 3) : Int) ≤ 16777215 := by have := num_take_lt xs 3; omega
  generalize num (xs.take 3) = N at *
  go_wp2_with fail
  go_ret3
  exact ⟨rfl, rfl⟩

set_option maxHeartbeats 800000 in
theorem unseal_form (A : Option Addr) (xs : List UInt8) (c : Nat) (w : World) (hr : Rd bv w A xs) (hc : xs.length ≤ c) (hm : c ≤ maxLen) (hl : 3 ≤ xs.length) (hn : 7 + num (xs.take 3) ≤ xs.length)
    (hs : num ((xs.drop (3 + num (xs.take 3))).take 4) ≠ crc ((xs.drop 3).take (num (xs.take 3)))) :
    Calls Try.prog 19 #[.slice A xs.length c] w fun e w' => e = .returned (.tuple #[.slice none 0 0, .int .i64 0, .int .i64 2]) ∧ w = w' := by
  go_enter Try.func19, Try.ntmps19
  go_wp2_with fail
  refine (take_ok A xs c 3 _ hr hc hm (by omega) hl).mono ?_; rintro e w' ⟨rfl, rfl⟩
  have hm' := hm
  unfold maxLen at hm
  have hN3 : (num (xs.take 3) : Int) ≤ 16777215 := by have := num_take_lt xs 3; omega
  generalize num (xs.take 3) = N at *
  have HS := Lib.hid hs
  clear hs
  go_wp2_with (first
    | (refine wpList_sl (f := bv) _ bT rfl _ _ _ rfl A xs c rfl hr hc 3 (3 + N) (.inr ⟨_, _, rfl, rfl⟩) (.inr ⟨_, _, rfl, rfl⟩) (by omega) (by omega) (by omega) ?_; intro A1 ys c1 hcut hc1 hc2; obtain ⟨hr1, HY, hlo, hhi⟩ := hcut)
    | (refine wpList_sl (f := bv) _ bT rfl _ _ _ rfl A xs c rfl hr hc (3 + N) xs.length (.inr ⟨_, _, rfl, rfl⟩) (.inl ⟨rfl, rfl⟩) (by omega) (by omega) (by omega) ?_; intro A2 zs c2 hcut hc3 hc4; obtain ⟨hr2, HZ, hlo2, hhi2⟩ := hcut))
  refine (take_ok A2 zs c2 4 _ hr2 hc3 (by omega) (by omega) (by omega)).mono ?_; rintro e w' ⟨rfl, rfl⟩
  have hT4 : (num (zs.take 4) : Int) ≤ 4294967295 := by have := num_take_lt zs 4; omega
  generalize hT : num (zs.take 4) = T at *
  have HT := Lib.hid hT
  clear hT
  go_wp2_with fail
  refine (sum_any A1 ys c1 _ hr1 hc1 (by omega)).mono ?_; rintro e w' ⟨rfl, rfl⟩
  have hC4 : (crc ys : Int) ≤ 4294967295 := by have := crc_lt ys; omega
  generalize hC : crc ys = C at *
  have hne : T ≠ C := by
    rw [← HT.out, ← hC, HZ.out, HY.out]
    have e3 : (3 + (N : Int)).toNat = 3 + N := by omega
    rw [e3]
    simpa [List.drop_take] using HS.out
  have hneI : (T : Int) ≠ (C : Int) := by omega
  have hne' : ((T : Int) == (C : Int)) = false := by simpa using hneI
  have hne2 : ((T : Int) != (C : Int)) = true := by simpa using hneI
  clear hneI
  clear hC hne
  go_wp2_with fail
  go_ret3
  exact ⟨rfl, rfl⟩

set_option maxHeartbeats 800000 in
theorem unseal_ok (A : Option Addr) (xs : List UInt8) (c : Nat) (w : World) (hr : Rd bv w A xs) (hc : xs.length ≤ c) (hm : c ≤ maxLen) (hl : 3 ≤ xs.length) (hn : 7 + num (xs.take 3) ≤ xs.length)
    (hs : num ((xs.drop (3 + num (xs.take 3))).take 4) = crc ((xs.drop 3).take (num (xs.take 3)))) :
    Calls Try.prog 19 #[.slice A xs.length c] w fun e w' => ∃ v', e = .returned (.tuple #[v', .int .i64 (7 + num (xs.take 3) : Nat), .int .i64 0]) ∧
      Own bv 5 w' w.heap.size v' ((xs.drop 3).take (num (xs.take 3))) ∧ Below w.heap.size w w' := by
  go_enter Try.func19, Try.ntmps19
  go_wp2_with fail
  refine (take_ok A xs c 3 _ hr hc hm (by omega) hl).mono ?_; rintro e w' ⟨rfl, rfl⟩
  have hm' := hm
  unfold maxLen at hm
  have hN3 : (num (xs.take 3) : Int) ≤ 16777215 := by have := num_take_lt xs 3; omega
  generalize hN : num (xs.take 3) = N at *
  have HN := Lib.hid hN
  clear hN
  have HS := Lib.hid hs
  clear hs
  go_wp2_with (first
    | (refine wpList_sl (f := bv) _ bT rfl _ _ _ rfl A xs c rfl hr hc 3 (3 + N) (.inr ⟨_, _, rfl, rfl⟩) (.inr ⟨_, _, rfl, rfl⟩) (by omega) (by omega) (by omega) ?_; intro A1 ys c1 hcut hc1 hc2; obtain ⟨hr1, HY, hlo, hhi⟩ := hcut)
    | (refine wpList_sl (f := bv) _ bT rfl _ _ _ rfl A xs c rfl hr hc (3 + N) xs.length (.inr ⟨_, _, rfl, rfl⟩) (.inl ⟨rfl, rfl⟩) (by omega) (by omega) (by omega) ?_; intro A2 zs c2 hcut hc3 hc4; obtain ⟨hr2, HZ, hlo2, hhi2⟩ := hcut))
  refine (take_ok A2 zs c2 4 _ hr2 hc3 (by omega) (by omega) (by omega)).mono ?_; rintro e w' ⟨rfl, rfl⟩
  have hT4 : (num (zs.take 4) : Int) ≤ 4294967295 := by have := num_take_lt zs 4; omega
  generalize hT : num (zs.take 4) = T at *
  have HT := Lib.hid hT
  clear hT
  go_wp2_with fail
  refine (sum_any A1 ys c1 _ hr1 hc1 (by omega)).mono ?_; rintro e w' ⟨rfl, rfl⟩
  have e3 : (3 + (N : Int)).toNat = 3 + N := by omega
  have hC : crc ys = T := by
    rw [← HT.out, HZ.out, HY.out, e3]
    simpa [List.drop_take] using HS.out.symm
  clear e3
  rw [hC]
  clear hC
  go_wp2_with fail
  refine (extend_any A1 ys c1 0 _ hr1 hc1 (by omega) (by omega)).mono ?_; rintro e w1 ⟨v1, rfl, hown1, hbel1⟩
  go_wp2_with fail
  go_ret3
  refine ⟨_, ?_, hown1.cast ?_, hbel1⟩
  · rw [HN.out]
    simp
    omega
  · rw [HY.out, HN.out]
    have e3 : (3 + (N : Int)).toNat = 3 + N := by omega
    rw [e3]
    simp [List.drop_take]
end Go.Proofs.Ytaoekeldokmmlaa
