/- The contracts of the document's answers for big: shifts. -/
import Derived.Test.YtddolmkmijkpiaaDoorRefBigD
set_option linter.unusedVariables false
set_option linter.unusedSimpArgs false
namespace Go.Proofs.YtddolmkmijkpiaaDoor
open Go.RowKit

/-- a number shifted, its first i bits alone -/
def shF (V : Nat) (n : Int) (i : Nat) : Nat := if 0 ≤ n then (V % 2 ^ i) * 2 ^ n.toNat else (V % 2 ^ i) / 2 ^ (-n).toNat
theorem mod_succ_pow (V i : Nat) : V % 2 ^ (i + 1) = V % 2 ^ i + 2 ^ i * (V / 2 ^ i % 2) := by rw [Nat.pow_succ, Nat.mod_mul]
theorem shF_skip (V : Nat) (n : Int) (i : Nat) (h : V / 2 ^ i % 2 = 0 ∨ (i : Int) + n < 0) : shF V n (i + 1) = shF V n i := by
  unfold shF
  rw [mod_succ_pow]
  rcases h with h | h
  · rw [h]; simp
  · rw [if_neg (by omega), if_neg (by omega)]
    have h1 : V % 2 ^ i < 2 ^ i := Nat.mod_lt _ (Nat.pow_pos (by decide))
    have h2 : 2 ^ (i + 1) ≤ 2 ^ (-n).toNat := Nat.pow_le_pow_right (by decide) (by omega)
    have h3 : 2 ^ i * (V / 2 ^ i % 2) ≤ 2 ^ i := by
      have : V / 2 ^ i % 2 ≤ 1 := by omega
      exact Nat.le_trans (Nat.mul_le_mul_left _ this) (by omega)
    rw [Nat.pow_succ] at h2
    rw [Nat.div_eq_of_lt (by omega), Nat.div_eq_of_lt (by omega)]
theorem shF_set (V : Nat) (n : Int) (i p : Nat) (h : V / 2 ^ i % 2 = 1) (hp : (i : Int) + n = p) : shF V n (i + 1) = shF V n i + 2 ^ p ∧ shF V n i < 2 ^ p := by
  unfold shF
  rw [mod_succ_pow, h, Nat.mul_one]
  have h1 : V % 2 ^ i < 2 ^ i := Nat.mod_lt _ (Nat.pow_pos (by decide))
  by_cases hn : 0 ≤ n
  · rw [if_pos hn, if_pos hn]
    have hp' : p = i + n.toNat := by omega
    rw [hp', Nat.pow_add]
    exact ⟨Nat.add_mul _ _ _, Nat.mul_lt_mul_of_pos_right h1 (Nat.pow_pos (by decide))⟩
  · rw [if_neg hn, if_neg hn]
    have hi : i = p + (-n).toNat := by omega
    have hP : 0 < 2 ^ (-n).toNat := Nat.pow_pos (by decide)
    rw [hi, Nat.pow_add] at h1 ⊢
    constructor
    · rw [Nat.add_mul_div_right _ _ hP]
    · exact Nat.div_lt_of_lt_mul (by rw [Nat.mul_comm (2 ^ (-n).toNat)]; exact h1)
theorem shF_low (l : List UInt32) (p : Nat) (h : val l < 2 ^ p) : ent l (p / 32) < 2 ^ (p % 32) := by
  rw [ent_val]
  have hp : 2 ^ p = 4294967296 ^ (p / 32) * 2 ^ (p % 32) := by
    rw [show (4294967296 : Nat) = 2 ^ 32 from rfl, ← Nat.pow_mul, ← Nat.pow_add]; congr 1; omega
  rw [hp] at h
  exact Nat.lt_of_le_of_lt (Nat.mod_le _ _) (Nat.div_lt_of_lt_mul h)
theorem pow_split (p : Nat) : 4294967296 ^ (p / 32) * 2 ^ (p % 32) = 2 ^ p := by
  rw [show (4294967296 : Nat) = 2 ^ 32 from rfl, ← Nat.pow_mul, ← Nat.pow_add]; congr 1; omega
theorem or_bit (e r : Nat) (hr : r < 32) (he : e < 2 ^ r) : bits .or .u32 (e : Int) (2 ^ r % 4294967296) = ((e + 2 ^ r : Nat) : Int) ∧ e + 2 ^ r < 4294967296 := by
  have hp : 2 ^ (r + 1) ≤ 2 ^ 32 := Nat.pow_le_pow_right (by decide) (by omega)
  have hp2 : 2 ^ (r + 1) = 2 ^ r * 2 := Nat.pow_succ _ _
  have e32 : (2 : Nat) ^ 32 = 4294967296 := rfl
  have h1 : e + 2 ^ r < 4294967296 := by omega
  have hc : ((2 : Int) ^ r % 4294967296) = ((2 ^ r : Nat) : Int) := by
    have : ((2 : Int) ^ r) = ((2 ^ r : Nat) : Int) := by rw [Int.natCast_pow]; rfl
    rw [this]
    exact Int.emod_eq_of_lt (by omega) (by omega)
  refine ⟨?_, h1⟩
  rw [hc, u32_or_nat e (2 ^ r) (by omega) (by omega)]
  have := Nat.two_pow_add_eq_or_of_lt (i := r) (b := e) he 1
  rw [Nat.mul_one] at this
  rw [Nat.or_comm, ← this, Nat.add_comm]

set_option maxRecDepth 100000 in
set_option maxHeartbeats 1600000 in
theorem refShl_any (A : Option Addr) (xs : List UInt32) (c : Nat) (n : Int) (w : World) (hr : Rd uv w A xs) (hc : xs.length ≤ c) (hm : c ≤ maxLen) (hl : (xs.length : Int) ≤ 100000) (hn1 : -100000 ≤ n) (hn2 : n ≤ 100000) :
    Calls Tryd.prog 35 #[.slice A xs.length c, .int .i64 n] w fun e w' => ∃ v', e = .returned v' ∧ Own uv 57 w' w.heap.size v' (limbs (shF (val xs) n (32 * xs.length))) ∧ Below w.heap.size w w' := by
  obtain ⟨m, hm1, hm2, hm3⟩ : ∃ m : Int, 0 ≤ m ∧ n ≤ m ∧ m = max n 0 := ⟨max n 0, by omega, by omega, rfl⟩
  go_enter Tryd.func35, Tryd.ntmps35
  go_upto_region 1 with (fail)
  go_cut [5] (fun v wx => ∃ zs : List UInt32, OwnG uv wx w.heap.size v zs ∧ Hid (zs = List.replicate zs.length 0) ∧ Below w.heap.size w wx ∧ 1 ≤ zs.length ∧ zs.length ≤ 200000 ∧ ∀ i p : Nat, i < 32 * xs.length → (i : Int) + n = p → p / 32 < zs.length)
  case first =>
    by_cases hneg : n < 0
    · go_wp2_with (at_make; go_must (refine wpList_mkz (f := uv) _ uT 0 uZ rfl rfl _ _ rfl w.heap.size _ _ _ rfl rfl (by omega) (by omega) (by omega) (Nat.le_refl _) ?_; intro v1 w1 zs hg1 HZ1 hz1 hz2 hb1))
      go_meet
      refine ⟨zs, hg1, ?_, hb1, by omega, by omega, fun i p hi hp => by omega⟩
      unfold Hid
      rw [HZ1.out, List.length_replicate]
    · go_wp2_with (at_make; go_must (refine wpList_mkz (f := uv) _ uT 0 uZ rfl rfl _ _ rfl w.heap.size _ _ _ rfl rfl (by omega) (by omega) (by omega) (Nat.le_refl _) ?_; intro v1 w1 zs hg1 HZ1 hz1 hz2 hb1))
      go_meet
      refine ⟨zs, hg1, ?_, hb1, by omega, by omega, fun i p hi hp => by omega⟩
      unfold Hid
      rw [HZ1.out, List.length_replicate]
  case rest =>
    obtain ⟨zs, hg1, HZ1, hb1, hz1', hzl, hin⟩ := hcut
    have HIN := Lib.hid hin
    clear hin
    rcases id hg1 with ⟨h0, h0'⟩ | ⟨g, off, cap, rfl, hBg, hgl, hn3, hm3', -, -⟩
    · exfalso
      have : zs.length = 0 := by rw [h0']; rfl
      omega
    have HG1 := Lib.hid hg1
    clear hg1 hn3 hm3'
    go_wp2_with fail
    go_loopw [6] (fun v wr => ∃ (i : Nat) (os : List UInt32), v = .int .i64 i ∧ i ≤ 32 * xs.length ∧ os.length ≤ zs.length ∧ zs.length ≤ os.length ∧ Hid (val os = shF (val xs) n i) ∧
      OwnG uv wr w.heap.size (.slice (some ⟨g, off, none⟩) os.length cap) os ∧ Below w.heap.size w wr) (fun v _ => 32 * xs.length - (intOf v).toNat)
    case atStart =>
      refine ⟨0, zs, rfl, Nat.zero_le _, Nat.le_refl _, Nat.le_refl _, ?_, HG1.out, hb1⟩
      unfold Hid shF
      rw [HZ1.out, val_zeros]
      simp [Nat.mod_one]
    case round =>
      obtain ⟨i, os, rfl, hi, ho1, ho2, HV, hown, hbel⟩ := hrel
      by_cases hlt : i < 32 * xs.length
      · obtain ⟨b, HB⟩ : ∃ b, Hid (val xs / 2 ^ i % 2 = b) := ⟨_, rfl⟩
        have hb2 : b ≤ 1 := by rw [← HB.out]; omega
        have hrw := hr.below hbel
        by_cases h0 : b = 0
        · subst h0
          have HS : Hid (shF (val xs) n (i + 1) = shF (val xs) n i) := shF_skip _ _ _ (.inl HB.out)
          go_wp2_with fail
          refine (refBit_any A xs c i _ hrw hc (by omega) (by omega)).mono ?_; rintro e w' ⟨rfl, rfl⟩
          rw [HB.out]
          go_wp2_with fail
          go_roundw
          case rel => exact ⟨i + 1, os, by go_num, by omega, ho1, ho2, by unfold Hid; rw [HS.out]; exact HV, hown, hbel⟩
          case measure => simp [intOf]; omega
        · obtain rfl : b = 1 := by omega
          by_cases hneg : (i : Int) + n < 0
          · have HS : Hid (shF (val xs) n (i + 1) = shF (val xs) n i) := shF_skip _ _ _ (.inr hneg)
            have hd : decide (0 ≤ (i : Int) + n) = false := decide_eq_false (by omega)
            go_wp2_with fail
            refine (refBit_any A xs c i _ hrw hc (by omega) (by omega)).mono ?_; rintro e w' ⟨rfl, rfl⟩
            rw [HB.out]
            go_wp2_with fail
            go_roundw
            case rel => exact ⟨i + 1, os, by go_num, by omega, ho1, ho2, by unfold Hid; rw [HS.out]; exact HV, hown, hbel⟩
            case measure => simp [intOf]; omega
          · obtain ⟨p, hp⟩ := Int.eq_ofNat_of_zero_le (a := (i : Int) + n) (by omega)
            have HP := Lib.hid hp
            have hp2 : p ≤ 10000000 := by omega
            have hidx : p / 32 < zs.length := HIN.out i p hlt hp
            have hset := shF_set (val xs) n i p HB.out hp
            have HS := Lib.hid hset
            clear hset
            rcases id hown with ⟨h0, _⟩ | ⟨g0, off0, cap0, h0, _, hg0, hn0, hm0, hsp0, hcs0⟩
            · cases h0
            cases h0
            obtain ⟨-, hf1⟩ := hsp0 (p / 32) (by omega)
            have hco := hcs0 (p / 32) (by omega)
            obtain ⟨ev, HE⟩ : ∃ ev, Hid (ent os (p / 32) = ev) := ⟨_, rfl⟩
            have vo : uv (os[p / 32]'(by omega)) = .int .u32 (ev : Int) := by rw [← HE.out, uv, ent, List.getD, List.getElem?_eq_getElem (by omega)]; rfl
            rw [vo] at hco
            have hlow : ev < 2 ^ (p % 32) := by rw [← HE.out]; exact shF_low os p (by rw [HV.out]; exact HS.out.2)
            have hob := or_bit ev (p % 32) (by omega) hlow
            have HOB := Lib.hid hob
            have hst := hown.set_ (i := p / 32) (y := UInt32.ofNat (ev + 2 ^ (p % 32))) (by omega)
            have hbs := hbel.setCell (p := ⟨g, off + p / 32, none⟩) hBg (uv (UInt32.ofNat (ev + 2 ^ (p % 32))))
            have HST := Lib.hid hst
            have HBS := Lib.hid hbs
            have HL := Lib.hid hlow
            clear hst hbs hsp0 hcs0 hn0 vo hown hob hlow
            go_wp2_with fail
            refine (refBit_any A xs c i _ hrw hc (by omega) (by omega)).mono ?_; rintro e w' ⟨rfl, rfl⟩
            rw [HB.out]
            go_upto_region 6 with (fail)
            have x1 : (0 : Int) ≤ (p : Int) / 32 := by omega
            have x2 : (p : Int) / 32 < (zs.length : Int) := by omega
            have x3 : ((p : Int) / 32).toNat = p / 32 := by omega
            have x4 : (0 : Int) ≤ (p : Int) % 32 := by omega
            have x5 : (p : Int) % 32 ≤ 32 := by omega
            have x6 : ((p : Int) % 32).toNat = p % 32 := by omega
            go_region
            all_goals clear x1 x2 x3 x4 x5 x6
            all_goals go_wp2_with fail
            go_roundw
            case rel =>
              have hob := HOB.out
              have hcast : ((ev + 2 ^ (p % 32) : Nat) : Int) = (((ev + 2 ^ (p % 32)) % 4294967296 : Nat) : Int) := by rw [Nat.mod_eq_of_lt hob.2]
              rw [hob.1, uv_ofNat _ _ hcast]
              refine ⟨i + 1, os.set (p / 32) (UInt32.ofNat (ev + 2 ^ (p % 32))), by go_num, by omega, by simpa using ho1, by simpa using ho2, ?_, OwnG.drew HST.out, HBS.out.drew⟩
              unfold Hid
              have hset := val_set os (p / 32) (by omega) (UInt32.ofNat (ev + 2 ^ (p % 32)))
              have he : (os.getD (p / 32) 0).toNat = ev := HE.out
              rw [he, UInt32.toNat_ofNat', Nat.mod_eq_of_lt hob.2, Nat.mul_add, pow_split] at hset
              rw [HS.out.1, ← HV.out]
              omega
            case measure => simp [intOf]; omega
      · obtain rfl : i = 32 * xs.length := by omega
        obtain ⟨A2, c2, e2, hc2, hm2, hr2⟩ := hown.sl
        cases e2
        have h1000 : (os.length : Int) ≤ 1000000 := by omega
        have hsz := hbel.size
        have HL3 : Hid (os.length = zs.length) := by unfold Hid; omega
        have hlt' : ¬ (((32 * xs.length : Nat) : Int) < 32 * (xs.length : Int)) := by omega
        go_wp2_with fail
        rw [← HL3.out]
        refine (refNorm_any (some ⟨g, off, none⟩) os cap _ hr2 hc2 hm2 h1000).mono ?_; rintro e w2 ⟨v2, rfl, hown2, hb2⟩
        rw [HV.out] at hown2
        go_wp2_with fail
        go_ret
        exact ⟨_, rfl, hown2.less hsz, nx hbel hb2⟩

theorem shF_all (xs : List UInt32) (n : Int) : shF (val xs) n (32 * xs.length) = if 0 ≤ n then val xs * 2 ^ n.toNat else val xs / 2 ^ (-n).toNat := by
  unfold shF
  rw [Nat.mod_eq_of_lt (by rw [Nat.pow_mul]; exact val_lt xs)]
end Go.Proofs.YtddolmkmijkpiaaDoor
