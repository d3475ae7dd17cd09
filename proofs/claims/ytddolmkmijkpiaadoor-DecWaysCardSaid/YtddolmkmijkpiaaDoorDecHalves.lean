/- DecHalves: for every number the law returns true and leaves memory as it was. No condition. -/
import Derived.Test.YtddolmkmijkpiaaDoorDecT4
namespace Go.Proofs.YtddolmkmijkpiaaDoor
open Go.RowKit

theorem valS_gen (l : List UInt8) : ∀ a : Nat, l.foldl (fun x c => 10 * x + digV c) a = a * 10 ^ l.length + valS l := by
  induction l with
  | nil => intro a; simp [valS]
  | cons d l ih2 =>
    intro a
    unfold valS
    simp only [List.foldl_cons, List.length_cons]
    rw [ih2, ih2 (10 * 0 + digV d), Nat.pow_succ, Nat.add_mul]
    have : 10 * a * 10 ^ l.length = a * (10 ^ l.length * 10) := by rw [Nat.mul_comm 10 a, Nat.mul_assoc, Nat.mul_comm 10]
    rw [this]
    simp [Nat.add_assoc]
theorem valS_app (a b : List UInt8) : valS (a ++ b) = valS a * 10 ^ b.length + valS b := by
  rw [← valS_gen]
  unfold valS
  rw [List.foldl_append]
theorem near_frac (m d f : Nat) (h1 : 4503599627370496 ≤ m) (h2 : m < 9007199254740992) (hf : f < 10 ^ (d + 1)) :
    numS (m * 10 ^ (d + 1) + f) (-((d + 1 : Nat) : Int)) = 1074 * 4503599627370496 + rnd (m * 10 ^ (d + 1) + f) (10 ^ (d + 1)) := by
  have hp : 0 < 10 ^ (d + 1) := Nat.pow_pos (by decide)
  have ht := tz_eq
  unfold numS
  rw [if_neg (by omega), Int.neg_neg, Int.toNat_natCast]
  generalize 10 ^ (d + 1) = Y at *
  have hT : 0 < 2 ^ tz := Nat.pow_pos (by decide)
  have e1 : Y * 2 ^ (tz + 53) = 9007199254740992 * Y * 2 ^ tz := by rw [p53, Nat.mul_assoc]
  have e2 : Y * 2 ^ (tz + 52) = 4503599627370496 * Y * 2 ^ tz := by rw [p52, Nat.mul_assoc]
  have h3 : lev ((m * Y + f) * 2 ^ tz) Y = tz := by
    refine lev_is _ _ _ hp ?_ (.inr ?_)
    · rw [e1]
      refine Nat.mul_lt_mul_of_pos_right ?_ hT
      have : (m + 1) * Y ≤ 9007199254740992 * Y := Nat.mul_le_mul_right _ h2
      rw [Nat.add_mul, Nat.one_mul] at this
      omega
    · rw [e2]
      refine Nat.mul_le_mul_right _ ?_
      have : 4503599627370496 * Y ≤ m * Y := Nat.mul_le_mul_right _ h1
      omega
  unfold near
  rw [h3, rnd_mul _ _ _ hT, ht]
theorem parse_frac (m : Nat) (hm : m < 10 ^ 20) (F : List UInt8) (hF : digs F) (hne : F ≠ []) (hl : F.length ≤ 20) (N : Nat) (hN : numS (m * 10 ^ F.length + valS F) (-(F.length : Int)) = N) (hl2 : N < LIM) :
    parseS (decS m ++ (46 :: F)) = (N, 0) := by
  have := parse_main [] false (.inl ⟨rfl, rfl⟩) (decS m) F (46 :: F) (decS_digs m) hF (.inr ⟨rfl, hne⟩) (by have := decS_len' m 20 hm (by decide); omega) [] 0 Sfx.nil
  rw [valS_app, valS_decS, show (0 : Int) - (F.length : Int) = -(F.length : Int) from by omega, hN, if_pos hl2] at this
  simpa using this

set_option maxRecDepth 100000 in
set_option maxHeartbeats 3200000 in
theorem DecHalves_walk (a b : Int) (w : World) (ht : Tab w) (ha1 : 0 ≤ a) (ha2 : a ≤ 18446744073709551615) (hb1 : 0 ≤ b) (hb2 : b ≤ 255) :
    Calls Tryd.prog 10 #[.int .u64 a, .int .u8 b] w fun e w' => e = .returned (.bool true) ∧ Below w.heap.size w w' := by
  obtain ⟨q, hq, hq2⟩ : ∃ q : Nat, a % 4503599627370496 = (q : Int) ∧ q < 4503599627370496 := ⟨(a % 4503599627370496).toNat, by omega, by omega⟩
  obtain ⟨m, hm, hm2⟩ : ∃ m : Nat, 4503599627370496 + (q : Int) = (m : Int) ∧ Hid (m = 4503599627370496 + q) := ⟨4503599627370496 + q, by omega, rfl⟩
  have hm3 : m < 10 ^ 20 := by have := hm2.out; omega
  have hm4 : 4503599627370496 ≤ m := by have := hm2.out; omega
  have hm5 : m < 9007199254740992 := by have := hm2.out; omega
  have hmi : (m : Int) ≤ 9223372036854775807 := by omega
  have hmq : (m : Int) - 4503599627370496 = (q : Int) := by omega
  obtain ⟨L, hL⟩ : ∃ L : Nat, Hid (L = 1074 * 4503599627370496 + m) := ⟨_, rfl⟩
  have hor : bits .or .u64 (4841369599423283200 : Int) (q : Int) = (L : Int) := by
    have h := or52 q 1075 hq2 (by decide)
    rw [show ((1075 * 4503599627370496 : Nat) : Int) = 4841369599423283200 from rfl] at h
    rw [h]
    have := hL.out
    have := hm2.out
    omega
  have p1 : Hid (parseS (decS m ++ [46, 53]) = (L + m % 2, 0)) := by
    refine parse_frac m hm3 [53] (by intro c hc; rw [List.mem_singleton.1 hc]; decide) (by simp) (by decide) _ ?_ (by have := hL.out; unfold LIM; omega)
    rw [show (-(([53] : List UInt8).length : Int)) = -((0 + 1 : Nat) : Int) from rfl, show valS [53] = 5 from rfl, show m * 10 ^ ([53] : List UInt8).length = m * 10 ^ (0 + 1) from rfl, near_frac m 0 5 hm4 hm5 (by decide), rnd_half _ _ m (by decide) (by simp; omega), hL.out]
    omega
  have p2 : Hid (parseS (decS m ++ [46, 53, 48, 48, 48, 48, 48, 48, 48, 49]) = (L + 1, 0)) := by
    refine parse_frac m hm3 [53, 48, 48, 48, 48, 48, 48, 48, 49] (by intro c hc; revert c; decide) (by simp) (by decide) _ ?_ (by have := hL.out; unfold LIM; omega)
    rw [show (-(([53, 48, 48, 48, 48, 48, 48, 48, 49] : List UInt8).length : Int)) = -((8 + 1 : Nat) : Int) from rfl, show valS [53, 48, 48, 48, 48, 48, 48, 48, 49] = 500000001 from by decide, show m * 10 ^ ([53, 48, 48, 48, 48, 48, 48, 48, 49] : List UInt8).length = m * 10 ^ (8 + 1) from rfl, near_frac m 8 500000001 hm4 hm5 (by decide), rnd_is _ _ (m + 1) (by simp; omega) (by simp; omega), hL.out]
    omega
  have p3 : Hid (parseS (decS m ++ [46, 52, 57, 57, 57, 57, 57, 57, 57, 57]) = (L, 0)) := by
    refine parse_frac m hm3 [52, 57, 57, 57, 57, 57, 57, 57, 57] (by intro c hc; revert c; decide) (by simp) (by decide) _ ?_ (by have := hL.out; unfold LIM; omega)
    rw [show (-(([52, 57, 57, 57, 57, 57, 57, 57, 57] : List UInt8).length : Int)) = -((8 + 1 : Nat) : Int) from rfl, show valS [52, 57, 57, 57, 57, 57, 57, 57, 57] = 499999999 from by decide, show m * 10 ^ ([52, 57, 57, 57, 57, 57, 57, 57, 57] : List UInt8).length = m * 10 ^ (8 + 1) from rfl, near_frac m 8 499999999 hm4 hm5 (by decide), rnd_is _ _ m (by simp; omega) (by simp; omega), hL.out]
  have hLi : (L : Int) ≤ 9218868437227405312 := by have := hL.out; omega
  have hml := decS_len 19 m (by omega)
  clear hm3 hm4 hm5 hq2
  have hb3 : b % 3 = 0 ∨ b % 3 = 1 ∨ b % 3 = 2 := by omega
  rcases hb3 with h | h | h
  · have e5 : ((L + m % 2 : Nat) : Int) = (L : Int) + (m : Int) % 2 := by omega
    go_enter Tryd.func10, Tryd.ntmps10
    go_wp2_with fail
    refine (dbegun_any _ ht).mono ?_; rintro e w0 ⟨rfl, hb⟩
    go_wp2_with fail
    refine (tenText_n m _ hmi).mono ?_; rintro e w5 ⟨tx, rfl, htx, htxs, hw5⟩
    have hb := Nx.trans hb hw5
    have hs2 : ¬ 9223372036854775807 < tx.size + 2 := by omega
    go_wp2_with fail
    refine (parse_any _ (decS m ++ [46, 53]) _ (Tx.plus htx.out (Tx.of [46, 53])) (by simp; omega)).mono ?_; rintro e w6 ⟨rfl, hw6⟩
    rw [p1.out, e5]
    have hb := Nx.trans (Nx.al hb _) hw6
    go_wp2_with fail
    go_ret
    exact ⟨rfl, hb⟩
  · have e5 : ((L + 1 : Nat) : Int) = (L : Int) + 1 := by omega
    go_enter Tryd.func10, Tryd.ntmps10
    go_wp2_with fail
    refine (dbegun_any _ ht).mono ?_; rintro e w0 ⟨rfl, hb⟩
    go_wp2_with fail
    refine (tenText_n m _ hmi).mono ?_; rintro e w5 ⟨tx, rfl, htx, htxs, hw5⟩
    have hb := Nx.trans hb hw5
    have hs2 : ¬ 9223372036854775807 < tx.size + 10 := by omega
    go_wp2_with fail
    refine (parse_any _ (decS m ++ [46, 53, 48, 48, 48, 48, 48, 48, 48, 49]) _ (Tx.plus htx.out (Tx.of [46, 53, 48, 48, 48, 48, 48, 48, 48, 49])) (by simp; omega)).mono ?_; rintro e w6 ⟨rfl, hw6⟩
    rw [p2.out, e5]
    have hb := Nx.trans (Nx.al hb _) hw6
    go_wp2_with fail
    go_ret
    exact ⟨rfl, hb⟩
  · go_enter Tryd.func10, Tryd.ntmps10
    go_wp2_with fail
    refine (dbegun_any _ ht).mono ?_; rintro e w0 ⟨rfl, hb⟩
    go_wp2_with fail
    refine (tenText_n m _ hmi).mono ?_; rintro e w5 ⟨tx, rfl, htx, htxs, hw5⟩
    have hb := Nx.trans hb hw5
    have hs2 : ¬ 9223372036854775807 < tx.size + 10 := by omega
    go_wp2_with fail
    refine (parse_any _ (decS m ++ [46, 52, 57, 57, 57, 57, 57, 57, 57, 57]) _ (Tx.plus htx.out (Tx.of [46, 52, 57, 57, 57, 57, 57, 57, 57, 57])) (by simp; omega)).mono ?_; rintro e w6 ⟨rfl, hw6⟩
    rw [p3.out]
    have hb := Nx.trans (Nx.al hb _) hw6
    go_wp2_with fail
    go_ret
    exact ⟨rfl, hb⟩
end Go.Proofs.YtddolmkmijkpiaaDoor
