/- The contracts of big: entries, how many bits a word has, lists without noughts behind, order, the low bits. -/
import Derived.Test.YtiefheocomkfiaaNum
set_option linter.unusedVariables false
set_option linter.unusedSimpArgs false
namespace Go.Proofs.Ytiefheocomkfiaa
open Go.RowKit

set_option maxHeartbeats 400000 in
theorem elem_any (A : Option Addr) (xs : List UInt32) (c : Nat) (i : Nat) (w : World) (hr : Rd uv w A xs) (hc : xs.length ≤ c) (hl : (xs.length : Int) ≤ 1000000) (hi : (i : Int) ≤ 1000000000) :
    Calls Try.prog 69 #[.slice A xs.length c, .int .i64 i] w fun e w' => e = .returned (.int .u64 (ent xs i : Nat)) ∧ w = w' := by
  by_cases hlt : i < xs.length
  · obtain ⟨b, off, rfl, hb, hcell⟩ := hr.at_ (k := i) hlt
    unfold uv at hcell
    have he : Hid (ent xs i = xs[i].toNat) := by unfold Hid ent; rw [List.getD, List.getElem?_eq_getElem hlt]; rfl
    have hx : (xs[i].toNat : Int) ≤ 4294967295 := by have := xs[i].toNat_lt; omega
    have hd : decide (xs.length ≤ i) = false := decide_eq_false (by omega)
    go_enter Try.func69, Try.ntmps69
    go_wp2
    go_ret
    refine ⟨?_, rfl⟩
    rw [he.out]
    rfl
  · have he : Hid (ent xs i = 0) := by unfold Hid ent; rw [List.getD, List.getElem?_eq_none (by omega)]; rfl
    have hd : decide (xs.length ≤ i) = true := decide_eq_true (by omega)
    go_enter Try.func69, Try.ntmps69
    go_wp2
    go_ret
    refine ⟨?_, rfl⟩
    rw [he.out]
    rfl

set_option maxHeartbeats 800000 in
theorem length_any (v : Nat) (w : World) (hv : (v : Int) ≤ 4294967295) :
    Calls Try.prog 70 #[.int .u32 v] w fun e w' => e = .returned (.int .i64 (blen v : Nat)) ∧ w = w' := by
  go_enter Try.func70, Try.ntmps70
  go_wp2_with fail
  go_loop [0, 3] (fun x k => ∃ n u : Nat, k = .int .i64 n ∧ n ≤ 32 ∧ x = .int .u32 u ∧ (u : Int) ≤ 4294967295 ∧ Hid (v / 2 ^ n = u) ∧ Hid (n = 0 ∨ 2 ^ (n - 1) ≤ v)) (fun x _ => (intOf x).toNat)
  case atStart => exact ⟨0, v, rfl, by omega, rfl, hv, by unfold Hid; simp, .inl rfl⟩
  case round =>
    obtain ⟨n, u, rfl, hn, rfl, hu, HU, HN⟩ := hrel
    by_cases h0 : 0 < u
    · have hd : decide (0 < u) = true := decide_eq_true h0
      have hp : 2 ^ n ≤ v := by
        rcases Nat.lt_or_ge v (2 ^ n) with h | h
        · have := HU.out; rw [Nat.div_eq_of_lt h] at this; omega
        · exact h
      have hn31 : n ≤ 31 := by
        rcases Nat.lt_or_ge 31 n with h | h
        · have : 2 ^ 32 ≤ 2 ^ n := Nat.pow_le_pow_right (by decide) h
          omega
        · exact h
      have HP := Lib.hid hp
      clear hp
      go_wp2_with fail
      go_round
      case rel =>
        refine ⟨n + 1, u / 2, by go_num, by omega, by go_num, by omega, ?_, .inr HP.out⟩
        unfold Hid
        rw [Nat.pow_succ, ← Nat.div_div_eq_div_mul, HU.out]
      case measure => simp [intOf]; omega
    · obtain rfl : u = 0 := by omega
      have hfin : Hid (blen v = n) := by
        have h := HU.out
        have hlt : v < 2 ^ n := (Nat.div_eq_zero_iff_lt (Nat.pow_pos (by decide))).1 h
        exact (bits_unique _ _ hlt HN.out).symm
      go_wp2_with fail
      go_ret
      refine ⟨?_, rfl⟩
      rw [hfin.out]
      rfl

def lenV : Value → Nat | .slice _ n _ => n | _ => 0

set_option maxHeartbeats 1600000 in
theorem trim_any (A : Option Addr) (xs : List UInt32) (c : Nat) (w : World) (hr : Rd uv w A xs) (hc : xs.length ≤ c) (hm : c ≤ maxLen) (hl : (xs.length : Int) ≤ 1000000) :
    Calls Try.prog 61 #[.slice A xs.length c] w fun e w' => ∃ v', e = .returned v' ∧ IsNum w v' (val xs) ∧ w = w' := by
  unfold maxLen at hm
  go_enter Try.func61, Try.ntmps61
  go_wp2_with fail
  go_loop [0] (fun v => ∃ A' c' n, v = .slice A' n c' ∧ n ≤ xs.length ∧ n ≤ c' ∧ c' ≤ c ∧ Rd uv w A' (xs.take n) ∧ Hid (∀ j, n ≤ j → xs.getD j 0 = 0)) (fun v => lenV v)
  case atStart =>
    refine ⟨A, c, xs.length, rfl, Nat.le_refl _, hc, Nat.le_refl _, ?_, fun j hj => by rw [List.getD, List.getElem?_eq_none hj]; rfl⟩
    rw [List.take_length]; exact hr
  case round =>
    obtain ⟨A1, c1, n, rfl, hn, hnc, hcc, hr1, HZ⟩ := hrel
    have fin : (n = 0 ∨ xs.getD (n - 1) 0 ≠ 0) → IsNum w (.slice A1 n c1) (val xs) := fun h => by
      have e : (xs.take n).length = n := by rw [List.length_take]; omega
      refine ⟨A1, c1, xs.take n, by rw [e], hr1, by omega, by unfold maxLen; omega, take_limbs xs n hn HZ.out h⟩
    rcases n with _ | m
    · have hz := Lib.hid (fin (.inl rfl))
      clear fin
      go_wp2_with fail
      go_ret
      exact ⟨_, rfl, hz.out, rfl⟩
    · have hml : m < xs.length := by omega
      obtain ⟨b, off, rfl, hb, hcell⟩ : ∃ b off, A1 = some ⟨b, off, none⟩ ∧ b < w.heap.size ∧ w.cell? ⟨b, off + m, none⟩ = some (.int .u32 (xs[m].toNat : Int)) := by
        obtain ⟨b, off, h1, h2, h3⟩ := hr1.at_ (k := m) (by rw [List.length_take]; omega)
        rw [List.getElem_take] at h3
        exact ⟨b, off, h1, h2, h3⟩
      have HG : Hid (xs.getD m 0 = xs[m]) := by unfold Hid; rw [List.getD, List.getElem?_eq_getElem (by omega)]; rfl
      have HL : Hid ((xs.take (m + 1)).length = m + 1) := by unfold Hid; rw [List.length_take]; omega
      by_cases hx : xs[m] = 0
      · have hb0 : ((xs[m].toNat : Int) == 0) = true := by rw [hx]; rfl
        have HX := Lib.hid hx
        clear hx fin
        go_wp2_with (refine wpList_sl (f := uv) _ uT rfl _ _ _ rfl _ (xs.take (m + 1)) c1 (by rw [HL.out]; rfl) hr1 (by rw [HL.out]; omega) 0 (m : Int) (.inl ⟨rfl, rfl⟩) (.inr ⟨_, _, rfl, rfl⟩) (by omega) (by omega) (by rw [HL.out]; omega) ?_; intro A2 ys c2 hcut hc1 hc2; obtain ⟨hr2, HY, hlo, hhi⟩ := hcut)
        go_round
        case rel =>
          have e : ys.length = m := by omega
          refine ⟨A2, c2, ys.length, rfl, by omega, hc1, by omega, hr2.cast ?_, fun j hj => ?_⟩
          · rw [e, HY.out]; simp [List.take_take]
          · by_cases hjm : j = m
            · subst hjm; rw [HG.out, HX.out]
            · exact HZ.out j (by omega)
        case measure => simp [lenV]; omega
      · have hb0 : ((xs[m].toNat : Int) == 0) = false := by
          rw [beq_eq_false_iff_ne]
          intro h
          exact hx (UInt32.toNat_inj.1 (by simpa using h))
        have hz := Lib.hid (fin (.inr (by rw [Nat.add_sub_cancel, HG.out]; exact hx)))
        clear hx fin
        go_wp2_with fail
        go_ret
        exact ⟨_, rfl, hz.out, rfl⟩

def cmpZ (a b : Int) : Int := if a < b then -1 else if b < a then 1 else 0

set_option maxHeartbeats 400000 in
theorem nanInt_any (a : Int) (w : World) : Calls Try.prog 83 #[.int .i64 a] w fun e w' => e = .returned (.bool false) ∧ w = w' := by
  have g0 : (a != a) = false := by simp
  go_enter Try.func83, Try.ntmps83
  go_wp2_with fail
  go_ret
  exact ⟨rfl, rfl⟩
set_option maxHeartbeats 400000 in
theorem nanU32_any (a : Int) (w : World) : Calls Try.prog 84 #[.int .u32 a] w fun e w' => e = .returned (.bool false) ∧ w = w' := by
  have g0 : (a != a) = false := by simp
  go_enter Try.func84, Try.ntmps84
  go_wp2_with fail
  go_ret
  exact ⟨rfl, rfl⟩

set_option maxHeartbeats 800000 in
theorem cmpInt_any (a b : Int) (w : World) : Calls Try.prog 79 #[.int .i64 a, .int .i64 b] w fun e w' => e = .returned (.int .i64 (cmpZ a b)) ∧ w = w' := by
  rcases (by omega : a < b ∨ (¬ a < b ∧ b < a) ∨ (¬ a < b ∧ ¬ b < a)) with h | ⟨h1, h2⟩ | ⟨h1, h2⟩
  · have hz : Hid (cmpZ a b = -1) := by unfold Hid cmpZ; rw [if_pos h]
    go_enter Try.func79, Try.ntmps79
    go_wp2_with fail
    refine (nanInt_any a _).mono ?_; rintro e w' ⟨rfl, rfl⟩
    go_wp2_with fail
    refine (nanInt_any b _).mono ?_; rintro e w' ⟨rfl, rfl⟩
    go_wp2_with fail
    go_ret
    exact ⟨by rw [hz.out]; rfl, rfl⟩
  · have hz : Hid (cmpZ a b = 1) := by unfold Hid cmpZ; rw [if_neg h1, if_pos h2]
    go_enter Try.func79, Try.ntmps79
    go_wp2_with fail
    refine (nanInt_any a _).mono ?_; rintro e w' ⟨rfl, rfl⟩
    go_wp2_with fail
    refine (nanInt_any b _).mono ?_; rintro e w' ⟨rfl, rfl⟩
    go_wp2_with fail
    go_ret
    exact ⟨by rw [hz.out]; rfl, rfl⟩
  · have hz : Hid (cmpZ a b = 0) := by unfold Hid cmpZ; rw [if_neg h1, if_neg h2]
    go_enter Try.func79, Try.ntmps79
    go_wp2_with fail
    refine (nanInt_any a _).mono ?_; rintro e w' ⟨rfl, rfl⟩
    go_wp2_with fail
    refine (nanInt_any b _).mono ?_; rintro e w' ⟨rfl, rfl⟩
    go_wp2_with fail
    go_ret
    exact ⟨by rw [hz.out]; rfl, rfl⟩
set_option maxHeartbeats 800000 in
theorem cmpU32_any (a b : Int) (w : World) : Calls Try.prog 80 #[.int .u32 a, .int .u32 b] w fun e w' => e = .returned (.int .i64 (cmpZ a b)) ∧ w = w' := by
  rcases (by omega : a < b ∨ (¬ a < b ∧ b < a) ∨ (¬ a < b ∧ ¬ b < a)) with h | ⟨h1, h2⟩ | ⟨h1, h2⟩
  · have hz : Hid (cmpZ a b = -1) := by unfold Hid cmpZ; rw [if_pos h]
    go_enter Try.func80, Try.ntmps80
    go_wp2_with fail
    refine (nanU32_any a _).mono ?_; rintro e w' ⟨rfl, rfl⟩
    go_wp2_with fail
    refine (nanU32_any b _).mono ?_; rintro e w' ⟨rfl, rfl⟩
    go_wp2_with fail
    go_ret
    exact ⟨by rw [hz.out]; rfl, rfl⟩
  · have hz : Hid (cmpZ a b = 1) := by unfold Hid cmpZ; rw [if_neg h1, if_pos h2]
    go_enter Try.func80, Try.ntmps80
    go_wp2_with fail
    refine (nanU32_any a _).mono ?_; rintro e w' ⟨rfl, rfl⟩
    go_wp2_with fail
    refine (nanU32_any b _).mono ?_; rintro e w' ⟨rfl, rfl⟩
    go_wp2_with fail
    go_ret
    exact ⟨by rw [hz.out]; rfl, rfl⟩
  · have hz : Hid (cmpZ a b = 0) := by unfold Hid cmpZ; rw [if_neg h1, if_neg h2]
    go_enter Try.func80, Try.ntmps80
    go_wp2_with fail
    refine (nanU32_any a _).mono ?_; rintro e w' ⟨rfl, rfl⟩
    go_wp2_with fail
    refine (nanU32_any b _).mono ?_; rintro e w' ⟨rfl, rfl⟩
    go_wp2_with fail
    go_ret
    exact ⟨by rw [hz.out]; rfl, rfl⟩

theorem or_lo (a b : Nat) (ha : (a : Int) ≤ 4294967295) (hb : (b : Int) ≤ 4294967295) : bits .or .u64 ((b : Int) * 4294967296) (a : Int) = ((a + b * 4294967296 : Nat) : Int) := by
  have h0 : ((b : Int) * 4294967296) = ((b * 4294967296 : Nat) : Int) := by omega
  have hl : b * 4294967296 < 18446744073709551616 := by omega
  have hl2 : a < 18446744073709551616 := by omega
  have ha' : a < 2 ^ 32 := by omega
  rw [h0, bits_or_u64_nat _ a hl hl2]
  have := Nat.two_pow_add_eq_or_of_lt (i := 32) (b := a) ha' b
  rw [Nat.mul_comm b, show (4294967296 : Nat) = 2 ^ 32 from rfl, ← this, Nat.add_comm]

set_option maxHeartbeats 400000 in
theorem low_any (A : Option Addr) (xs : List UInt32) (c : Nat) (w : World) (hr : Rd uv w A xs) (hc : xs.length ≤ c) (hl : (xs.length : Int) ≤ 1000000) :
    Calls Try.prog 74 #[.slice A xs.length c] w fun e w' => e = .returned (.int .u64 (val xs % 18446744073709551616 : Nat)) ∧ w = w' := by
  go_enter Try.func74, Try.ntmps74
  go_wp2_with fail
  refine (elem_any A xs c 1 _ hr hc hl (by omega)).mono ?_; rintro e w' ⟨rfl, rfl⟩
  have l1 := ent_le xs 1
  go_wp2_with fail
  refine (elem_any A xs c 0 _ hr hc hl (by omega)).mono ?_; rintro e w' ⟨rfl, rfl⟩
  have l0 := ent_le xs 0
  have hv : Hid (val xs % 18446744073709551616 = ent xs 0 + ent xs 1 * 4294967296) := by
    unfold Hid
    rw [ent_val, ent_val]
    generalize val xs = V
    omega
  go_wp2_with fail
  go_ret
  refine ⟨?_, rfl⟩
  rw [hv.out, ← or_lo (ent xs 0) (ent xs 1) l0 l1]
  rfl

set_option maxHeartbeats 400000 in
theorem of_any (n : Nat) (w : World) (hn : (n : Int) ≤ 18446744073709551615) :
    Calls Try.prog 47 #[.int .u64 n] w fun e w' => ∃ v', e = .returned v' ∧ IsNum w' v' n ∧ Below w.heap.size w w' := by
  have hv : Hid (val [UInt32.ofNat n, UInt32.ofNat (n / 4294967296)] = n) := by
    unfold Hid
    simp only [val, UInt32.toNat_ofNat']
    omega
  have h1 : Hid (Value.int .u32 ((n : Int) % 4294967296) = uv (UInt32.ofNat n)) := uv_ofNat _ _ (by omega)
  have h2 : Hid (Value.int .u32 ((n : Int) / 4294967296) = uv (UInt32.ofNat (n / 4294967296))) := uv_ofNat _ _ (by omega)
  go_enter Try.func47, Try.ntmps47
  go_wp2_with fail
  refine (trim_any (some ⟨w.heap.size, 0, none⟩) [UInt32.ofNat n, UInt32.ofNat (n / 4294967296)] 2 _ ?_ (by simp) (by simp [maxLen]) (by simp)).mono ?_
  · rw [h1.out, h2.out]
    exact Rd.litsU [UInt32.ofNat n, UInt32.ofNat (n / 4294967296)] rfl
  rintro e w1 ⟨v1, rfl, hown1, rfl⟩
  rw [hv.out] at hown1
  go_wp2_with fail
  go_ret
  exact ⟨_, rfl, hown1, nx0 w _⟩

/-- bits of a number by its top entry -/
theorem blen_top (l : List UInt32) (t : Nat) (hl : l.length = t + 1) (h0 : ent l t ≠ 0) : blen (val l) = 32 * t + blen (ent l t) := by
  have hlt := val_lt l
  rw [hl] at hlt
  have he : ent l t = val l / 4294967296 ^ t := by
    rw [ent_val]
    exact Nat.mod_eq_of_lt (Nat.div_lt_of_lt_mul (by rw [← Nat.pow_succ]; exact hlt))
  have hB : (4294967296 : Nat) ^ t = 2 ^ (32 * t) := by rw [Nat.pow_mul]
  rw [hB] at he
  generalize ent l t = e at *
  have hP : 0 < 2 ^ (32 * t) := Nat.pow_pos (by decide)
  have hb : blen e = Nat.log2 e + 1 := by unfold blen; rw [if_neg h0]
  have h1 : 2 ^ Nat.log2 e ≤ e := Nat.log2_self_le h0
  have h2 : e < 2 ^ (Nat.log2 e + 1) := (Nat.log2_lt h0).1 (Nat.lt_succ_self _)
  have hv0 : val l ≠ 0 := by
    intro h
    rw [h, Nat.zero_div] at he
    exact h0 he
  unfold blen at *
  rw [if_neg hv0, if_neg h0]
  refine ((bits_unique (val l) (32 * t + (Nat.log2 e + 1)) ?_ (.inr ?_)).trans (by rw [if_neg hv0])).symm
  · rw [Nat.pow_add, Nat.mul_comm]
    rw [he] at h2 ⊢
    exact (Nat.div_lt_iff_lt_mul hP).1 h2
  · rw [show 32 * t + (Nat.log2 e + 1) - 1 = Nat.log2 e + 32 * t from by omega, Nat.pow_add]
    exact Nat.le_trans (Nat.mul_le_mul_right _ h1) (by rw [he]; exact Nat.div_mul_le_self _ _)

theorem limbs_top (n t : Nat) (h : (limbs n).length = t + 1) : ent (limbs n) t ≠ 0 := by
  have hne : limbs n ≠ [] := by intro e; rw [e] at h; simp at h
  have hc := canon_limbs n hne
  intro h0
  apply hc
  rw [List.getLast_eq_getElem]
  unfold ent at h0
  rw [List.getD, List.getElem?_eq_getElem (by omega)] at h0
  simp only [h, Nat.add_sub_cancel]
  exact UInt32.toNat_inj.1 h0

set_option maxHeartbeats 800000 in
theorem bits_any (A : Option Addr) (xs : List UInt32) (c : Nat) (w : World) (hr : Rd uv w A xs) (hc : xs.length ≤ c) (hm : c ≤ maxLen) (hl : (xs.length : Int) ≤ 200000) :
    Calls Try.prog 62 #[.slice A xs.length c] w fun e w' => e = .returned (.int .i64 (blen (val xs) : Nat)) ∧ w = w' := by
  go_enter Try.func62, Try.ntmps62
  go_wp2_with fail
  refine (trim_any A xs c _ hr hc hm (by omega)).mono ?_; rintro e w1 ⟨v1, rfl, hn1, rfl⟩
  obtain ⟨A1, c1, ys, rfl, hr1, hc1, hm1, hl1, HY, HV⟩ := hn1.open_ xs.length (val_lt xs)
  have hyl : (ys.length : Int) ≤ 200000 := by omega
  by_cases h0 : ys.length = 0
  · have hfin : Hid (blen (val xs) = 0) := by
      unfold Hid
      rw [← HV.out, List.eq_nil_of_length_eq_zero h0]; rfl
    have hd : ((ys.length : Int) == 0) = true := by rw [h0]; rfl
    have H0 := Lib.hid h0
    clear h0 hl1
    go_wp2_with fail
    go_ret
    refine ⟨?_, rfl⟩
    rw [hfin.out]
    rfl
  · obtain ⟨t, ht⟩ : ∃ t, ys.length = t + 1 := ⟨ys.length - 1, by omega⟩
    have hd : ((ys.length : Int) == 0) = false := by rw [beq_eq_false_iff_ne]; omega
    obtain ⟨b, off, rfl, hb, hcell⟩ := hr1.at_ (k := t) (by omega)
    obtain ⟨x, HX⟩ : ∃ x, Hid (ent ys t = x) := ⟨_, rfl⟩
    have vx : uv (ys[t]'(by omega)) = .int .u32 (x : Int) := by rw [← HX.out, uv, ent, List.getD, List.getElem?_eq_getElem (by omega)]; rfl
    rw [vx] at hcell
    have lx : (x : Int) ≤ 4294967295 := by rw [← HX.out]; exact ent_le ys t
    have hfin : Hid (blen (val xs) = 32 * t + blen x) := by
      unfold Hid
      rw [← HV.out, ← HX.out]
      exact blen_top ys t ht (by rw [HY.out]; exact limbs_top _ _ (by rw [← HY.out]; exact ht))
    have hbx : (blen x : Int) ≤ 32 := by
      unfold blen
      split
      · decide
      · rename_i hx0
        have : Nat.log2 x < 32 := (Nat.log2_lt hx0).2 (by omega)
        omega
    have i1 : ((ys.length : Int) - 1) = (t : Int) := by omega
    have ht1 : (t : Int) ≤ 200000 := by omega
    have ht2 : t < ys.length := by omega
    have HT := Lib.hid ht
    clear ht vx h0
    go_wp2_with fail
    refine (length_any x _ lx).mono ?_; rintro e w' ⟨rfl, rfl⟩
    go_wp2_with fail
    go_ret
    refine ⟨?_, rfl⟩
    rw [hfin.out]
    congr 2

theorem limbs_less (x y : Nat) (h : (limbs x).length < (limbs y).length) : x < y := by
  rcases Nat.lt_or_ge x y with h' | h'
  · exact h'
  · exfalso
    obtain ⟨t, ht⟩ : ∃ t, (limbs y).length = t + 1 := ⟨(limbs y).length - 1, by omega⟩
    have h1 := limbs_top y t ht
    rw [ent_val, val_limbs] at h1
    have h2 : x < 4294967296 ^ (limbs x).length := by have := val_lt (limbs x); rwa [val_limbs] at this
    have h3 : 4294967296 ^ (limbs x).length ≤ 4294967296 ^ t := Nat.pow_le_pow_right (by decide) (by omega)
    rw [Nat.div_eq_of_lt (by omega)] at h1
    exact h1 rfl
end Go.Proofs.Ytiefheocomkfiaa
