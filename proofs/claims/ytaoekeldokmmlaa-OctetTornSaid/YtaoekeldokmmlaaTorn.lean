/- OctetTorn: for every two slices of bytes and every two places the law returns true and leaves memory as it was. No condition. -/
import Derived.Test.YtaoekeldokmmlaaTornM
import Derived.Test.YtaoekeldokmmlaaHyb
import Derived.Deep.DeepCutAuto
import Derived.RegionTactic
namespace Go.Proofs.Ytaoekeldokmmlaa
open Go.RowKit

/-- a record cut off anywhere is short -/
theorem unseal_torn (A : Option Addr) (ys xs : List UInt8) (c m : Nat) (w : World) (hy : Hid (ys = (record xs).take m)) (hm1 : m < 7 + xs.length) (hx : xs.length < 16777216) (hr : Rd bv w A ys) (hc : ys.length ≤ c) (hm : c ≤ maxLen) :
    Calls Try.prog 19 #[.slice A ys.length c] w fun e w' => e = .returned (.tuple #[.slice none 0 0, .int .i64 0, .int .i64 3]) ∧ w = w' := by
  have hl : ys.length = m := by rw [hy.out, List.length_take, record_len]; omega
  by_cases h3 : 3 ≤ ys.length
  · refine unseal_short A ys c w hr hc hm h3 ?_
    rw [hy.out, List.take_take, Nat.min_eq_left (by omega), record_take3 xs hx, List.length_take, record_len]
    omega
  · exact unseal_short3 A ys c w (Nat.le_trans hc hm) (by omega)
/-- a record of which a byte is turned is none -/
theorem unseal_turned (A : Option Addr) (ys xs : List UInt8) (c q n : Nat) (y : UInt8) (w : World) (hnl : ys.length = n) (hy : Hid (ys = (record xs).set q y)) (hq3 : 3 ≤ q) (hq : q < (record xs).length) (hne : y ≠ (record xs)[q]) (hx : xs.length < 16777216) (hr : Rd bv w A ys) (hc : ys.length ≤ c) (hm : c ≤ maxLen) :
    Calls Try.prog 19 #[.slice A n c] w fun e w' => e = .returned (.tuple #[.slice none 0 0, .int .i64 0, .int .i64 2]) ∧ w = w' := by
  subst hnl
  obtain ⟨h1, h2⟩ := record_turned xs hx q hq3 hq y hne
  rw [← hy.out] at h1 h2
  have hl : ys.length = 7 + xs.length := by rw [hy.out, List.length_set, record_len]
  exact unseal_form A ys c w hr hc hm (by omega) (by rw [h1]; omega) (by rw [h1]; exact h2)
/-- a record with whatever behind -/
theorem unseal_whole (A : Option Addr) (ys xs m : List UInt8) (c : Nat) (w : World) (hy : Hid (ys = record xs ++ m)) (hx : xs.length < 16777216) (hr : Rd bv w A ys) (hc : ys.length ≤ c) (hm : c ≤ maxLen) :
    Calls Try.prog 19 #[.slice A ys.length c] w fun e w' => ∃ v', e = .returned (.tuple #[v', .int .i64 (7 + xs.length : Nat), .int .i64 0]) ∧ Own bv 5 w' w.heap.size v' xs ∧ Below w.heap.size w w' := by
  have hl : ys.length = 7 + xs.length + m.length := by rw [hy.out, List.length_append, record_len]
  have h3 : num (ys.take 3) = xs.length := by
    rw [hy.out, List.take_append_of_le_length (by rw [record_len]; omega)]; exact record_take3 xs hx
  have := unseal_ok A ys c w hr hc hm (by omega) (by rw [h3]; omega) (by rw [h3, hy.out, record_sum, record_data])
  rw [h3, hy.out, record_data, ← hy.out] at this
  exact this

theorem flip_bits (x : UInt8) (j : Nat) (hj : j < 8) : bits .xor .u8 (x.toNat : Int) (2 ^ j % 256) = (((x ^^^ UInt8.ofNat (2 ^ j)).toNat : Nat) : Int) ∧ x ^^^ UInt8.ofNat (2 ^ j) ≠ x := by
  have hx := x.toNat_lt
  have hp : 2 ^ j < 256 := Nat.lt_of_lt_of_le (Nat.pow_lt_pow_right (by decide) hj) (by decide)
  have hp0 : 0 < 2 ^ j := Nat.pow_pos (by decide)
  have e : ((2 : Int) ^ j % 256) = ((2 ^ j : Nat) : Int) := by
    rw [Int.natCast_pow]
    have : ((2 ^ j : Nat) : Int) < 256 := by omega
    rw [Int.natCast_pow] at this
    have h0 : (0 : Int) ≤ ((2 : Nat) : Int) ^ j := by rw [← Int.natCast_pow]; omega
    exact Int.emod_eq_of_lt h0 this
  have hn : (UInt8.ofNat (2 ^ j)).toNat = 2 ^ j := by rw [UInt8.toNat_ofNat']; exact Nat.mod_eq_of_lt hp
  constructor
  · rw [e, u8_xor_nat _ _ hx hp, UInt8.toNat_xor, hn]
  · intro h
    have := congrArg UInt8.toNat h
    rw [UInt8.toNat_xor, hn] at this
    have h2 := congrArg (x.toNat ^^^ ·) this
    simp only [← Nat.xor_assoc, Nat.xor_self, Nat.zero_xor] at h2
    omega

set_option maxHeartbeats 1000000 in
theorem OctetTorn_walk (A : Option Addr) (xs : List UInt8) (c : Nat) (B : Option Addr) (ys : List UInt8) (d : Nat) (t u : Int) (w : World) (hr : Rd bv w A xs) (hc : xs.length ≤ c) (hm : c ≤ maxLen) (hs : Rd bv w B ys) (hd : ys.length ≤ d) (hn : d ≤ maxLen)
    (ht1 : 0 ≤ t) (ht2 : t ≤ 65535) (hu1 : 0 ≤ u) (hu2 : u ≤ 65535) :
    Calls Try.prog 7 #[.slice A xs.length c, .slice B ys.length d, .int .u16 t, .int .u16 u] w fun e w' => e = .returned (.bool true) ∧ Below w.heap.size w w' := by
  by_cases hx : xs.length ≤ 80
  · by_cases hy : ys.length ≤ 20
    · have d1 : decide (80 < (xs.length : Int)) = false := decide_eq_false (by omega)
      have d2 : decide (20 < (ys.length : Int)) = false := decide_eq_false (by omega)
      go_enter Try.func7, Try.ntmps7
      go_wp2_with fail
      refine (begun_any _).mono ?_; rintro e w0 ⟨rfl, hb0⟩
      go_wp2_with fail
      refine (seal_any A xs c _ (hr.below hb0) hc hm (by omega)).mono ?_; rintro e w1 ⟨v1, rfl, hown1, hb1⟩
      obtain ⟨A1, c1, W1, rfl, HW1, h1a, h1b, hc1, hm1, hr1, -⟩ := hown1.name (7 + xs.length) (by have := record_len xs; unfold record at this; exact this)
      have HR1 : Hid (W1 = record xs) := HW1
      clear HW1 hown1
      have hb01 := nx hb0 hb1
      have hs1 := hs.below hb01
      have hlen : ((W1.length : Int) != 7 + (xs.length : Int)) = false := by rw [bne_eq_false_iff_eq]; omega
      unfold maxLen at hm1 hm hn
      have r1 : 0 ≤ t % (W1.length : Int) := Int.emod_nonneg _ (by omega)
      have r2 : t % (W1.length : Int) < (W1.length : Int) := Int.emod_lt_of_pos _ (by omega)
      go_wp2_with (refine wpList_sl (f := bv) _ bT rfl _ _ _ rfl A1 W1 c1 rfl hr1 hc1 0 (t % (W1.length : Int)) (.inl ⟨rfl, rfl⟩) (.inr ⟨_, _, rfl, rfl⟩) (by omega) r1 (by omega) ?_; intro A2 zs c2 hcut hc2 hc2'; obtain ⟨hr2, HZ, h2a, h2b⟩ := hcut)
      have hz1 : (zs.length : Int) ≤ 1000 := by omega
      have HZ1 : Hid (zs = (record xs).take (t % (W1.length : Int)).toNat) := by unfold Hid; rw [HZ.out, HR1.out]; simp
      refine (unseal_torn A2 zs xs c2 _ _ HZ1 (by omega) (by omega) hr2 hc2 (by unfold maxLen; omega)).mono ?_; rintro e w' ⟨rfl, rfl⟩
      clear r1 r2 HZ HZ1 h2a h2b hz1 hr2 hc2 hc2'
      have q1 : 0 ≤ u % (8 * (W1.length : Int) - 24) := Int.emod_nonneg _ (by omega)
      have q2 : u % (8 * (W1.length : Int) - 24) < 8 * (W1.length : Int) - 24 := Int.emod_lt_of_pos _ (by omega)
      go_wp2_with (at_builtin; refine wpList_app (f := bv) _ bT rfl _ _ rfl bv_one w1.heap.size _ [] W1 rfl (Own.empty w1) _ _ rfl (hr1.alloc _) (by simp [maxLen]; omega) (by simp; omega) (by simp) ?_; intro v3 w3 hown3 hbel3; rw [List.nil_append] at hown3; have hb3 : Below w1.heap.size w1 w3 := (nx0 w1 _).trans hbel3; clear hbel3; have hr13 := hr1.below hb3)
      obtain ⟨b, hb⟩ := Int.eq_ofNat_of_zero_le (a := 24 + u % (8 * (W1.length : Int) - 24)) (by omega)
      have hbA : 24 ≤ b := by omega
      have hbB : b < 8 * W1.length := by omega
      rw [hb]
      clear hb q1 q2
      have hg3 := hown3.gen
      rcases id hg3 with ⟨h0, h0'⟩ | ⟨g, off, cap, rfl, hBg, hgl, hn3, hm3, hsp3, hcs3⟩
      · exfalso; have : W1.length = 0 := by rw [h0']; rfl
        omega
      have hc3 := hcs3 (b / 8) (by omega)
      obtain ⟨-, hf3⟩ := hsp3 (b / 8) (by omega)
      have hst : ∀ y, OwnG bv (w3.setCell ⟨g, off + b / 8, none⟩ (bv y)) w1.heap.size (.slice (some ⟨g, off, none⟩) (W1.set (b / 8) y).length cap) (W1.set (b / 8) y) := fun y => hg3.set_ (i := b / 8) (y := y) (by omega)
      have hbs : ∀ u, Below w1.heap.size w1 (w3.setCell ⟨g, off + b / 8, none⟩ u) := fun u => hb3.setCell (p := ⟨g, off + b / 8, none⟩) hBg u
      have HST := Lib.hid hst
      have HBS := Lib.hid hbs
      clear hst hbs hcs3 hsp3 hg3 hown3
      unfold bv at hc3
      obtain ⟨Y, hY, hYne⟩ : ∃ Y : UInt8, bits .xor .u8 (W1[b / 8].toNat : Int) (2 ^ (b % 8) % 256) = (Y.toNat : Int) ∧ Hid (Y ≠ W1[b / 8]) :=
        ⟨_, (flip_bits W1[b / 8] (b % 8) (by omega)).1, (flip_bits W1[b / 8] (b % 8) (by omega)).2⟩
      go_region
      go_wp2_with fail
      have HW : Hid (W1.set (b / 8) Y = (record xs).set (b / 8) Y) := by unfold Hid; rw [HR1.out]
      have hne2 : ∀ h : b / 8 < (record xs).length, Y ≠ (record xs)[b / 8] := by
        intro h
        have h1 := hYne.out
        have h2 : W1[b / 8]? = (record xs)[b / 8]? := by rw [HR1.out]
        rw [List.getElem?_eq_getElem (by omega), List.getElem?_eq_getElem h] at h2
        rw [← Option.some.inj h2]; exact h1
      have hq : b / 8 < (record xs).length := by rw [record_len]; omega
      obtain ⟨A3, c3, e3, hc3', hm3', hr3⟩ := (HST.out Y).sl
      cases e3
      refine (unseal_turned (some ⟨g, off, none⟩) _ xs cap (b / 8) W1.length Y _ (by simp) HW (by omega) hq (hne2 hq) (by omega) hr3.drew hc3' hm3').mono ?_; rintro e w' ⟨rfl, rfl⟩
      have hb4 : Below w1.heap.size w1 (w3.setCell ⟨g, off + b / 8, none⟩ (bv Y)).drew := (HBS.out _).drew
      clear hne2 hq HW hr3 hc3' hm3' HST HBS hYne hY hc3 hf3 hr13 hb3
      generalize (w3.setCell ⟨g, off + b / 8, none⟩ (bv Y)).drew = w4 at *
      have hr14 := hr1.below hb4
      have hs4 := hs1.below hb4
      go_wp2_with (at_builtin; first
        | (refine wpList_app (f := bv) _ bT rfl _ _ rfl bv_one w4.heap.size _ [] W1 rfl (Own.empty w4) _ _ rfl (hr14.alloc _) (by simp [maxLen]; omega) (by simp; omega) (by simp) ?_; intro v5 w5 hown5 hbel5; rw [List.nil_append] at hown5; have hb5 : Below w4.heap.size w4 w5 := (nx0 w4 _).trans hbel5; clear hbel5; have hs5 := hs4.below hb5)
        | (refine wpList_app (f := bv) _ bT rfl _ _ rfl bv_one w4.heap.size _ W1 ys rfl hown5 _ _ rfl hs5 (by simp [maxLen]; omega) (by simp; omega) hb5.size ?_; intro v6 w6 hown6 hbel6))
      obtain ⟨A6, c6, W6, rfl, HW6, h6a, h6b, hc6, hm6, hr6, -⟩ := hown6.name (W1.length + ys.length) (by simp)
      clear hown6
      have HW7 : Hid (W6 = record xs ++ ys) := by unfold Hid; rw [HW6.out, HR1.out]
      refine (unseal_whole A6 W6 xs ys c6 _ HW7 (by omega) hr6 hc6 hm6).mono ?_; rintro e w7 ⟨v7, rfl, hown7, hb7⟩
      obtain ⟨A7, c7, rfl, hc7, hm7, hr7⟩ := hown7.sl
      have hbw6 : Below w.heap.size w w6 := nx (nx hb01 hb4) (hb5.trans hbel6)
      have hbw7 := nx hbw6 hb7
      have k1 := conv_str (P := Try.prog) w7 22 9 5 Try.underlying22 Try.underlying5 Try.underlying9 hr7 c7
      have k2 := conv_str (P := Try.prog) w7 22 9 5 Try.underlying22 Try.underlying5 Try.underlying9 (hr.below hbw7) c
      have g1 : (((7 + xs.length : Nat) : Int) == (W1.length : Int)) = true := by rw [beq_iff_eq]; omega
      have g2 : (7 + (xs.length : Int) == (W1.length : Int)) = true := by rw [beq_iff_eq]; omega
      go_wp2_with fail
      go_ret
      exact ⟨rfl, hbw7⟩
    · have d1 : decide (80 < (xs.length : Int)) = false := decide_eq_false (by omega)
      have d2 : decide (20 < (ys.length : Int)) = true := decide_eq_true (by omega)
      go_enter Try.func7, Try.ntmps7
      go_wp2_with fail
      refine (begun_any _).mono ?_; rintro e w0 ⟨rfl, hb0⟩
      go_wp2_with fail
      go_ret
      exact ⟨rfl, hb0⟩
  · have d1 : decide (80 < (xs.length : Int)) = true := decide_eq_true (by omega)
    go_enter Try.func7, Try.ntmps7
    go_wp2_with fail
    refine (begun_any _).mono ?_; rintro e w0 ⟨rfl, hb0⟩
    go_wp2_with fail
    go_ret
    exact ⟨rfl, hb0⟩
end Go.Proofs.Ytaoekeldokmmlaa
