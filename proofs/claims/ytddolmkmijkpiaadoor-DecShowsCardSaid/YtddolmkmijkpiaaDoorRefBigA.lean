/- The contracts of the document's answers for big: entries, lists without noughts behind, order, sums. -/
import Derived.Test.YtddolmkmijkpiaaDoorProg
import Derived.Test.YtddolmkmijkpiaaDoorBigM
import Derived.Test.YtddolmkmijkpiaaDoorOwnG
import Derived.WalkSpells
import Derived.Deep.DeepCutAuto
set_option linter.unusedVariables false
set_option linter.unusedSimpArgs false
namespace Go.Proofs.YtddolmkmijkpiaaDoor
open Go.RowKit

theorem info_u32 : (Tryd.prog.info? 57).map (fun i => (i.zero, i.size, i.bytes)) = some (some (.int .u32 0), 1, 4) := by kernel_rfl
theorem uT : ElT Tryd.prog 46 57 4 := by
  obtain ⟨i, h1, h2, h3, h4⟩ := info_parts info_u32
  exact ⟨Tryd.underlying46, i, _, h1, h2, h3, h4, rfl⟩

/-- entry i of a list, 0 beyond -/
def ent (l : List UInt32) (i : Nat) : Nat := (l.getD i 0).toNat
theorem ent_le (l : List UInt32) (i : Nat) : (ent l i : Int) ≤ 4294967295 := by
  have := (l.getD i 0).toNat_lt; unfold ent; omega
theorem ent_val (l : List UInt32) (i : Nat) : ent l i = val l / 4294967296 ^ i % 4294967296 := val_entry l i

set_option maxHeartbeats 400000 in
theorem refAt_any (A : Option Addr) (xs : List UInt32) (c : Nat) (i : Nat) (w : World) (hr : Rd uv w A xs) (hc : xs.length ≤ c) (hl : (xs.length : Int) ≤ 1000000) (hi : (i : Int) ≤ 1000000000) :
    Calls Tryd.prog 54 #[.slice A xs.length c, .int .i64 i] w fun e w' => e = .returned (.int .u64 (ent xs i : Nat)) ∧ w = w' := by
  by_cases hlt : i < xs.length
  · obtain ⟨b, off, rfl, hb, hcell⟩ := hr.at_ (k := i) hlt
    unfold uv at hcell
    have he : Hid (ent xs i = xs[i].toNat) := by unfold Hid ent; rw [List.getD, List.getElem?_eq_getElem hlt]; rfl
    have hx : (xs[i].toNat : Int) ≤ 4294967295 := by have := xs[i].toNat_lt; omega
    have hd : decide (i < xs.length) = true := decide_eq_true hlt
    go_enter Tryd.func54, Tryd.ntmps54
    go_wp2
    go_ret
    refine ⟨?_, rfl⟩
    rw [he.out]
    rfl
  · have he : Hid (ent xs i = 0) := by unfold Hid ent; rw [List.getD, List.getElem?_eq_none (by omega)]; rfl
    have hd : decide (i < xs.length) = false := decide_eq_false hlt
    go_enter Tryd.func54, Tryd.ntmps54
    go_wp2
    go_ret
    refine ⟨?_, rfl⟩
    rw [he.out]
    rfl

set_option maxHeartbeats 800000 in
theorem refNorm_any (A : Option Addr) (xs : List UInt32) (c : Nat) (w : World) (hr : Rd uv w A xs) (hc : xs.length ≤ c) (hm : c ≤ maxLen) (hl : (xs.length : Int) ≤ 1000000) :
    Calls Tryd.prog 55 #[.slice A xs.length c] w fun e w' => ∃ v', e = .returned v' ∧ Own uv 57 w' w.heap.size v' (limbs (val xs)) ∧ Below w.heap.size w w' := by
  unfold maxLen at hm
  go_enter Tryd.func55, Tryd.ntmps55
  go_wp2_with fail
  go_loop [3] (fun v => ∃ n : Nat, v = .int .i64 n ∧ n ≤ xs.length ∧ Hid (∀ j, n ≤ j → xs.getD j 0 = 0)) (fun v => (intOf v).toNat)
  case atStart => exact ⟨xs.length, rfl, Nat.le_refl _, fun j hj => by rw [List.getD, List.getElem?_eq_none hj]; rfl⟩
  case round =>
    obtain ⟨n, rfl, hn, HZ⟩ := hrel
    have fin : ∀ (P : Prop), (Hid (xs.take n = limbs (val xs)) → P) → (n = 0 ∨ xs.getD (n - 1) 0 ≠ 0) → P := fun P h h' => h (take_limbs xs n hn HZ.out h')
    by_cases h0 : n = 0
    · subst h0
      have hz := fin _ id (.inl rfl)
      go_wp2_with (first
        | (refine wpList_sl (f := uv) _ uT rfl _ _ _ rfl A xs c rfl (hr.alloc _) hc 0 0 (.inl ⟨rfl, rfl⟩) (.inr ⟨_, _, rfl, rfl⟩) (by omega) (by omega) (by omega) ?_; intro A1 ys c1 hcut hc1 hc2; obtain ⟨hr1, HY, hlo, hhi⟩ := hcut)
        | (at_builtin; go_must (refine wpList_app (f := uv) _ uT rfl _ _ rfl uv_one w.heap.size _ [] ys rfl (Own.empty w) _ _ rfl hr1 (by simp [maxLen]; omega) (by simp; omega) (by simp) ?_; intro v1 w1 hown1 hbel1)))
      go_ret
      refine ⟨_, rfl, hown1.cast ?_, (nx0 w _).trans hbel1⟩
      rw [HY.out, ← hz.out]; simp
    · obtain ⟨m, rfl⟩ : ∃ m, n = m + 1 := ⟨n - 1, by omega⟩
      obtain ⟨b, off, rfl, hb, hcell⟩ := hr.at_ (k := m) (by omega)
      unfold uv at hcell
      have hg : xs.getD m 0 = xs[m] := by rw [List.getD, List.getElem?_eq_getElem (by omega)]; rfl
      have HG := Lib.hid hg
      clear hg
      by_cases hx : xs[m] = 0
      · have hb0 : ((xs[m].toNat : Int) == 0) = true := by rw [hx]; rfl
        have HX := Lib.hid hx
        clear hx fin
        go_wp2_with fail
        go_round
        case rel =>
          refine ⟨m, by go_num, by omega, fun j hj => ?_⟩
          by_cases hjm : j = m
          · subst hjm; rw [HG.out, HX.out]
          · exact HZ.out j (by omega)
        case measure => simp [intOf]
      · have hb0 : ((xs[m].toNat : Int) == 0) = false := by
          rw [beq_eq_false_iff_ne]
          intro h
          exact hx (UInt32.toNat_inj.1 (by simpa using h))
        have hz := fin _ id (.inr (by rw [Nat.add_sub_cancel, HG.out]; exact hx))
        have HX := Lib.hid hx
        clear hx fin
        go_wp2_with (first
          | (refine wpList_sl (f := uv) _ uT rfl _ _ _ rfl _ xs c rfl (hr.alloc _) hc 0 ((m : Int) + 1) (.inl ⟨rfl, rfl⟩) (.inr ⟨_, _, rfl, rfl⟩) (by omega) (by omega) (by omega) ?_; intro A1 ys c1 hcut hc1 hc2; obtain ⟨hr1, HY, hlo, hhi⟩ := hcut)
          | (at_builtin; go_must (refine wpList_app (f := uv) _ uT rfl _ _ rfl uv_one w.heap.size _ [] ys rfl (Own.empty w) _ _ rfl hr1 (by simp [maxLen]; omega) (by simp; omega) (by simp) ?_; intro v1 w1 hown1 hbel1)))
        go_ret
        refine ⟨_, rfl, hown1.cast ?_, (nx0 w _).trans hbel1⟩
        have e : ((m : Int) + 1).toNat = m + 1 := by omega
        rw [HY.out, ← hz.out, e]; simp

theorem Rd.litsU {w : World} {e : TypeId} {g : Nat} (xs : List UInt32) (hg : g = w.heap.size) : Rd uv (w.alloc (.cells (xs.map uv).toArray e)) (some ⟨g, 0, none⟩) xs := by
  subst hg
  intro _
  refine ⟨_, _, rfl, by simp, fun j hj => ?_⟩
  rw [World.cell?_alloc_at _ _ _ _ rfl]
  simp [hj]

set_option maxHeartbeats 400000 in
theorem refOf_any (n : Nat) (w : World) (hn : (n : Int) ≤ 18446744073709551615) :
    Calls Tryd.prog 28 #[.int .u64 n] w fun e w' => ∃ v', e = .returned v' ∧ Own uv 57 w' w.heap.size v' (limbs n) ∧ Below w.heap.size w w' := by
  have hv : Hid (val [UInt32.ofNat n, UInt32.ofNat (n / 4294967296)] = n) := by
    unfold Hid
    simp only [val, UInt32.toNat_ofNat']
    omega
  have h1 : Hid (Value.int .u32 ((n : Int) % 4294967296) = uv (UInt32.ofNat n)) := uv_ofNat _ _ (by omega)
  have h2 : Hid (Value.int .u32 ((n : Int) / 4294967296) = uv (UInt32.ofNat (n / 4294967296))) := uv_ofNat _ _ (by omega)
  go_enter Tryd.func28, Tryd.ntmps28
  go_wp2_with fail
  refine (refNorm_any (some ⟨w.heap.size, 0, none⟩) [UInt32.ofNat n, UInt32.ofNat (n / 4294967296)] 2 _ ?_ (by simp) (by simp [maxLen]) (by simp)).mono ?_
  · rw [h1.out, h2.out]
    exact Rd.litsU [UInt32.ofNat n, UInt32.ofNat (n / 4294967296)] rfl
  rintro e w1 ⟨v1, rfl, hown1, hb1⟩
  rw [hv.out] at hown1
  go_wp2_with fail
  go_ret
  exact ⟨_, rfl, hown1.less (by simp), nx (nx0 w _) hb1⟩

theorem or_hi (a b : Nat) (ha : (a : Int) ≤ 4294967295) (hb : (b : Int) ≤ 4294967295) : bits .or .u64 (a : Int) ((b : Int) * 4294967296) = ((a + b * 4294967296 : Nat) : Int) := by
  have h0 : ((b : Int) * 4294967296) = ((b * 4294967296 : Nat) : Int) := by omega
  have hl : b * 4294967296 < 18446744073709551616 := by omega
  have hl2 : a < 18446744073709551616 := by omega
  have ha' : a < 2 ^ 32 := by omega
  rw [h0, bits_or_u64_nat a _ hl2 hl]
  have := Nat.two_pow_add_eq_or_of_lt (i := 32) (b := a) ha' b
  rw [Nat.or_comm, Nat.mul_comm b, show (4294967296 : Nat) = 2 ^ 32 from rfl, ← this, Nat.add_comm]
theorem digits_ext : ∀ (k a b : Nat), a < 4294967296 ^ k → b < 4294967296 ^ k → (∀ j, a / 4294967296 ^ j % 4294967296 = b / 4294967296 ^ j % 4294967296) → a = b
  | 0, a, b, ha, hb, _ => by simp at ha hb; omega
  | k + 1, a, b, ha, hb, h => by
    have h0 := h 0
    rw [Nat.pow_zero, Nat.div_one, Nat.div_one] at h0
    have h1 : a / 4294967296 = b / 4294967296 := by
      rw [Nat.pow_succ] at ha hb
      refine digits_ext k _ _ (Nat.div_lt_of_lt_mul (by omega)) (Nat.div_lt_of_lt_mul (by omega)) fun j => ?_
      have := h (j + 1)
      rw [Nat.pow_succ, Nat.mul_comm (4294967296 ^ j), ← Nat.div_div_eq_div_mul, ← Nat.div_div_eq_div_mul] at this
      exact this
    omega
theorem high_ext (xs ys : List UInt32) (m : Nat) (h : ∀ j, m ≤ j → ent xs j = ent ys j) : val xs / 4294967296 ^ m = val ys / 4294967296 ^ m := by
  have hx := val_lt xs
  have hy := val_lt ys
  refine digits_ext (xs.length + ys.length) _ _ ?_ ?_ fun j => ?_
  · exact Nat.lt_of_le_of_lt (Nat.div_le_self _ _) (Nat.lt_of_lt_of_le hx (Nat.pow_le_pow_right (by decide) (by omega)))
  · exact Nat.lt_of_le_of_lt (Nat.div_le_self _ _) (Nat.lt_of_lt_of_le hy (Nat.pow_le_pow_right (by decide) (by omega)))
  · have := h (m + j) (by omega)
    rw [ent_val, ent_val, Nat.pow_add, ← Nat.div_div_eq_div_mul, ← Nat.div_div_eq_div_mul] at this
    exact this
theorem val_ext (xs ys : List UInt32) (h : ∀ j, ent xs j = ent ys j) : val xs = val ys := by
  simpa using high_ext xs ys 0 fun j _ => h j
theorem val_less (xs ys : List UInt32) (m : Nat) (h : ∀ j, m + 1 ≤ j → ent xs j = ent ys j) (hlt : ent xs m < ent ys m) : val xs < val ys := by
  have h1 := high_ext xs ys (m + 1) h
  rw [ent_val, ent_val] at hlt
  rw [Nat.pow_succ, ← Nat.div_div_eq_div_mul, ← Nat.div_div_eq_div_mul] at h1
  have h2 : val xs / 4294967296 ^ m < val ys / 4294967296 ^ m := by
    generalize val xs / 4294967296 ^ m = a at *
    generalize val ys / 4294967296 ^ m = b at *
    omega
  rcases Nat.lt_or_ge (val xs) (val ys) with h | h
  · exact h
  · have := Nat.div_le_div_right (c := 4294967296 ^ m) h
    omega

set_option maxHeartbeats 400000 in
theorem refLow_any (A : Option Addr) (xs : List UInt32) (c : Nat) (w : World) (hr : Rd uv w A xs) (hc : xs.length ≤ c) (hl : (xs.length : Int) ≤ 1000000) :
    Calls Tryd.prog 40 #[.slice A xs.length c] w fun e w' => e = .returned (.int .u64 (val xs % 18446744073709551616 : Nat)) ∧ w = w' := by
  go_enter Tryd.func40, Tryd.ntmps40
  go_wp2_with fail
  refine (refAt_any A xs c 0 _ hr hc hl (by omega)).mono ?_; rintro e w' ⟨rfl, rfl⟩
  have l0 := ent_le xs 0
  go_wp2_with fail
  refine (refAt_any A xs c 1 _ hr hc hl (by omega)).mono ?_; rintro e w' ⟨rfl, rfl⟩
  have l1 := ent_le xs 1
  have hv : Hid (val xs % 18446744073709551616 = ent xs 0 + ent xs 1 * 4294967296) := by
    unfold Hid
    rw [ent_val, ent_val]
    generalize val xs = V
    omega
  go_wp2_with fail
  go_ret
  refine ⟨?_, rfl⟩
  rw [hv.out, ← or_hi (ent xs 0) (ent xs 1) l0 l1]
  rfl

def cmpI (a b : Nat) : Int := if a < b then -1 else if b < a then 1 else 0

set_option maxRecDepth 100000 in
set_option maxHeartbeats 800000 in
theorem refCmp_any (A : Option Addr) (xs : List UInt32) (c : Nat) (B : Option Addr) (ys : List UInt32) (d : Nat) (w : World) (hr : Rd uv w A xs) (hc : xs.length ≤ c) (hl : (xs.length : Int) ≤ 1000000) (hs : Rd uv w B ys) (hd : ys.length ≤ d) (hl2 : (ys.length : Int) ≤ 1000000) :
    Calls Tryd.prog 39 #[.slice A xs.length c, .slice B ys.length d] w fun e w' => e = .returned (.int .i64 (cmpI (val xs) (val ys))) ∧ w = w' := by
  go_enter Tryd.func39, Tryd.ntmps39
  go_upto_region 1 with (fail)
  go_cut [5] (fun v wx => w = wx ∧ ∃ m : Nat, v = .int .i64 ((m : Int) - 1) ∧ xs.length ≤ m ∧ ys.length ≤ m ∧ (m : Int) ≤ 1000000)
  case first =>
    go_wp2_with fail
    all_goals go_meet
    · exact ⟨rfl, ys.length, rfl, by omega, by omega, hl2⟩
    · exact ⟨rfl, xs.length, rfl, by omega, by omega, hl⟩
  case rest =>
    obtain ⟨rfl, m0, rfl, hm1, hm2, hm3⟩ := hcut
    go_wp2_with fail
    go_loop [5] (fun v => ∃ m : Nat, v = .int .i64 ((m : Int) - 1) ∧ (m : Int) ≤ 1000000 ∧ Hid (∀ j, m ≤ j → ent xs j = ent ys j)) (fun v => (intOf v + 1).toNat)
    case atStart =>
      refine ⟨m0, rfl, hm3, fun j hj => ?_⟩
      unfold ent
      rw [List.getD, List.getD, List.getElem?_eq_none (by omega), List.getElem?_eq_none (by omega)]
    case round =>
      obtain ⟨m, rfl, hm, HE⟩ := hrel
      rcases m with _ | m
      · have hz : cmpI (val xs) (val ys) = 0 := by
          have := val_ext xs ys fun j => HE.out j (Nat.zero_le _)
          unfold cmpI; rw [this]; simp
        have HZ := Lib.hid hz
        clear hz
        go_wp2_with fail
        go_ret
        refine ⟨?_, rfl⟩
        rw [HZ.out]
        rfl
      · have e1 : Hid (∀ j, m + 1 ≤ j → ent xs j = ent ys j) := HE
        obtain ⟨a, HX⟩ : ∃ a, Hid (ent xs m = a) := ⟨_, rfl⟩
        obtain ⟨b, HY⟩ : ∃ b, Hid (ent ys m = b) := ⟨_, rfl⟩
        have la : (a : Int) ≤ 4294967295 := by rw [← HX.out]; exact ent_le xs m
        have lb : (b : Int) ≤ 4294967295 := by rw [← HY.out]; exact ent_le ys m
        rcases Nat.lt_trichotomy a b with hab | hab | hab
        · have HL : Hid (val xs < val ys) := val_less xs ys m e1.out (by rw [HX.out, HY.out]; exact hab)
          go_wp2_with fail
          refine (refAt_any A xs c m _ hr hc hl (by omega)).mono ?_; rintro e w' ⟨rfl, rfl⟩
          rw [HX.out]
          go_wp2_with fail
          refine (refAt_any B ys d m _ hs hd hl2 (by omega)).mono ?_; rintro e w' ⟨rfl, rfl⟩
          rw [HY.out]
          go_wp2_with fail
          go_ret
          refine ⟨?_, rfl⟩
          rw [cmpI, if_pos HL.out]
          rfl
        · subst hab
          go_wp2_with fail
          refine (refAt_any A xs c m _ hr hc hl (by omega)).mono ?_; rintro e w' ⟨rfl, rfl⟩
          rw [HX.out]
          go_wp2_with fail
          refine (refAt_any B ys d m _ hs hd hl2 (by omega)).mono ?_; rintro e w' ⟨rfl, rfl⟩
          rw [HY.out]
          go_wp2_with fail
          refine (refAt_any A xs c m _ hr hc hl (by omega)).mono ?_; rintro e w' ⟨rfl, rfl⟩
          rw [HX.out]
          go_wp2_with fail
          refine (refAt_any B ys d m _ hs hd hl2 (by omega)).mono ?_; rintro e w' ⟨rfl, rfl⟩
          rw [HY.out]
          go_wp2_with fail
          go_round
          case rel =>
            refine ⟨m, by go_num, by omega, fun j hj => ?_⟩
            by_cases hjm : j = m
            · subst hjm; rw [HX.out, HY.out]
            · exact HE.out j (by omega)
          case measure => simp [intOf]
        · have g1 : decide (b < a) = true := decide_eq_true hab
          have g2 : decide (a < b) = false := decide_eq_false (by omega)
          have HL : Hid (val ys < val xs) := val_less ys xs m (fun j hj => (e1.out j hj).symm) (by rw [HX.out, HY.out]; exact hab)
          go_wp2_with fail
          refine (refAt_any A xs c m _ hr hc hl (by omega)).mono ?_; rintro e w' ⟨rfl, rfl⟩
          rw [HX.out]
          go_wp2_with fail
          refine (refAt_any B ys d m _ hs hd hl2 (by omega)).mono ?_; rintro e w' ⟨rfl, rfl⟩
          rw [HY.out]
          go_wp2_with fail
          refine (refAt_any A xs c m _ hr hc hl (by omega)).mono ?_; rintro e w' ⟨rfl, rfl⟩
          rw [HX.out]
          go_wp2_with fail
          refine (refAt_any B ys d m _ hs hd hl2 (by omega)).mono ?_; rintro e w' ⟨rfl, rfl⟩
          rw [HY.out]
          go_wp2_with fail
          go_ret
          refine ⟨?_, rfl⟩
          have hl := HL.out
          rw [cmpI, if_neg (by omega), if_pos hl]
          rfl
end Go.Proofs.YtddolmkmijkpiaaDoor
