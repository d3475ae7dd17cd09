/- The contracts of the document's answers for big: products. -/
import Derived.Test.YtddolmkmijkpiaaDoorRefBigB
import Derived.Deep.QuietTactic
import Derived.BigQuiet
import Derived.RegionTactic
set_option linter.unusedVariables false
set_option linter.unusedSimpArgs false
namespace Go.Proofs.YtddolmkmijkpiaaDoor
open Go.RowKit

theorem uZ : ∀ i, Tryd.prog.info? 57 = some i → i.zero = some (uv 0) := by
  obtain ⟨i, h1, h2, h3, h4⟩ := info_parts info_u32
  intro j hj
  rw [h1] at hj; cases hj; exact h2

theorem val_set (l : List UInt32) (i : Nat) (hi : i < l.length) (y : UInt32) : val (l.set i y) + 4294967296 ^ i * (l.getD i 0).toNat = val l + 4294967296 ^ i * y.toNat := by
  induction l generalizing i with
  | nil => simp at hi
  | cons x l ih =>
    cases i with
    | zero => simp [val]; omega
    | succ i =>
      have := ih i (by simpa using hi)
      simp only [List.set_cons_succ, val_cons, List.getD_cons_succ, Nat.pow_succ, Nat.mul_comm (4294967296 ^ i) 4294967296, Nat.mul_assoc]
      generalize 4294967296 ^ i * (l.getD i 0).toNat = p at *
      generalize 4294967296 ^ i * y.toNat = q at *
      omega
/-- one step of the inner loop -/
theorem mul_step (V V' cc P Pi T a b o S : Nat) (Y Pk : Nat) (hP : P = Pi * Pk) (hS : S = cc + o + a * b) (hb : b = Y / Pk % 4294967296) (hV : V' + P * o = V + P * (S % 4294967296)) (h : V + cc * P = T + a * (Y % Pk) * Pi) :
    V' + S / 4294967296 * (P * 4294967296) = T + a * (Y % (Pk * 4294967296)) * Pi := by
  rw [Nat.mod_mul, ← hb]
  have h1 : P * S = P * (S % 4294967296) + S / 4294967296 * (P * 4294967296) := by
    have := Nat.div_add_mod S 4294967296
    have h2 : P * S = P * (4294967296 * (S / 4294967296) + S % 4294967296) := by rw [this]
    rw [h2, Nat.mul_add, Nat.add_comm, ← Nat.mul_assoc, Nat.mul_comm (P * 4294967296)]
  have h3 : P * S = cc * P + P * o + a * b * P := by rw [hS, Nat.mul_add, Nat.mul_add, Nat.mul_comm P cc, Nat.mul_comm P (a * b)]
  have h4 : a * (Y % Pk + Pk * b) * Pi = a * (Y % Pk) * Pi + a * b * P := by
    rw [hP, Nat.mul_add, Nat.add_mul]
    congr 1
    rw [Nat.mul_comm Pk b, ← Nat.mul_assoc, Nat.mul_assoc (a * b), Nat.mul_comm Pk Pi]
  omega

set_option maxRecDepth 100000 in
set_option maxHeartbeats 1600000 in
theorem refMul_any (A : Option Addr) (xs : List UInt32) (c : Nat) (B : Option Addr) (ys : List UInt32) (d : Nat) (w : World) (hr : Rd uv w A xs) (hc : xs.length ≤ c) (hl : (xs.length : Int) ≤ 100000) (hs : Rd uv w B ys) (hd : ys.length ≤ d) (hl2 : (ys.length : Int) ≤ 100000) :
    Calls Tryd.prog 27 #[.slice A xs.length c, .slice B ys.length d] w fun e w' => ∃ v', e = .returned v' ∧ Own uv 57 w' w.heap.size v' (limbs (val xs * val ys)) ∧ Below w.heap.size w w' := by
  go_enter Tryd.func27, Tryd.ntmps27
  go_wp2_with (at_make; go_must (refine wpList_mkz (f := uv) _ uT 0 uZ rfl rfl _ _ rfl w.heap.size _ _ ((xs.length : Int) + ys.length + 1) rfl rfl (by omega) (by omega) (by omega) (Nat.le_refl _) ?_; intro v1 w1 zs hg1 HZ1 hz1 hz2 hb1))
  rcases id hg1 with ⟨h0, h0'⟩ | ⟨g, off, cap, rfl, hBg, hgl, hn3, hm3, -, -⟩
  · exfalso; have : zs.length = 0 := by rw [h0']; rfl
    omega
  have hn : zs.length = xs.length + ys.length + 1 := by omega
  have HN := Lib.hid hn
  have hnA : xs.length + ys.length + 1 ≤ zs.length := by omega
  have hnB : zs.length ≤ xs.length + ys.length + 1 := by omega
  clear hn hz1 hz2
  have HG1 := Lib.hid hg1
  clear hg1 hn3 hm3
  go_loopw [6] (fun v wr => ∃ (i : Nat) (os : List UInt32), v = .int .i64 i ∧ i ≤ xs.length ∧ os.length ≤ zs.length ∧ zs.length ≤ os.length ∧ Hid (val os = val (xs.take i) * val ys) ∧ Hid (∀ j, i + ys.length ≤ j → os.getD j 0 = 0) ∧
    OwnG uv wr w.heap.size (.slice (some ⟨g, off, none⟩) os.length cap) os ∧ Below w.heap.size w wr) (fun v _ => xs.length - (intOf v).toNat)
  case atStart =>
    refine ⟨0, zs, rfl, Nat.zero_le _, Nat.le_refl _, Nat.le_refl _, ?_, ?_, HG1.out, hb1⟩
    · unfold Hid; rw [HZ1.out, val_zeros]; simp [val]
    · intro j _; rw [HZ1.out]; simp [List.getD, List.getElem?_replicate]; split <;> rfl
  case round =>
    obtain ⟨i, os, rfl, hi, ho1, ho2, HV, HE, hown, hbel⟩ := hrel
    by_cases hlt : i < xs.length
    · obtain ⟨a, HX⟩ : ∃ a, Hid (ent xs i = a) := ⟨_, rfl⟩
      have la : (a : Int) ≤ 4294967295 := by rw [← HX.out]; exact ent_le xs i
      have b0 : decide (i < xs.length) = true := decide_eq_true hlt
      have HO := Lib.hid hown
      clear hown
      go_wp2_with fail
      obtain ⟨wo, rfl⟩ : ∃ wo : World, wo = wr := ⟨_, rfl⟩
      go_loopw [7, 8] (fun v u wq => ∃ (k cc : Nat) (us : List UInt32), u = .int .i64 k ∧ v = .int .u64 cc ∧ (cc : Int) ≤ 4294967295 ∧ k ≤ ys.length ∧ us.length ≤ zs.length ∧ zs.length ≤ us.length ∧
        Hid (val us + cc * 4294967296 ^ (i + k) = val (xs.take i) * val ys + a * (val ys % 4294967296 ^ k) * 4294967296 ^ i) ∧ Hid (∀ j, i + ys.length ≤ j → us.getD j 0 = 0) ∧
        OwnG uv wq w.heap.size (.slice (some ⟨g, off, none⟩) us.length cap) us ∧ Below w.heap.size w wq) (fun _ u _ => ys.length - (intOf u).toNat)
      case atStart => exact ⟨0, 0, os, rfl, rfl, by omega, Nat.zero_le _, ho1, ho2, by unfold Hid; rw [HV.out]; simp [Nat.mod_one], HE, HO.out, hbel⟩
      case round =>
        obtain ⟨k, cc, us, rfl, rfl, hcc, hk, hu1, hu2, HU, HF, hgw, hbw⟩ := hrel
        by_cases hlk : k < ys.length
        · obtain ⟨b, HY⟩ : ∃ b, Hid (ent ys k = b) := ⟨_, rfl⟩
          obtain ⟨o, HO2⟩ : ∃ o, Hid (ent us (i + k) = o) := ⟨_, rfl⟩
          have lb : (b : Int) ≤ 4294967295 := by rw [← HY.out]; exact ent_le ys k
          have lo : (o : Int) ≤ 4294967295 := by rw [← HO2.out]; exact ent_le us (i + k)
          have lab : (a : Int) * (b : Int) ≤ 18446744065119617025 := by
            have := Int.mul_le_mul la lb (by omega) (by omega)
            omega
          have lab0 : 0 ≤ (a : Int) * (b : Int) := Int.mul_nonneg (by omega) (by omega)
          obtain ⟨bx, offx, eA, hbx, hcx⟩ := (hr.below hbw).at_ (k := i) hlt
          obtain ⟨by_, offy, eB, hby, hcy⟩ := (hs.below hbw).at_ (k := k) hlk
          subst eA
          subst eB
          rcases id hgw with ⟨h0, _⟩ | ⟨g0, off0, cap0, h0, _, hg0, hn0, hm0, hsp0, hcs0⟩
          · cases h0
          cases h0
          obtain ⟨-, hf1⟩ := hsp0 (i + k) (by omega)
          have hco := hcs0 (i + k) (by omega)
          clear hsp0 hcs0 hn0
          have vx : uv xs[i] = .int .u32 (a : Int) := by rw [← HX.out, uv, ent, List.getD, List.getElem?_eq_getElem hlt]; rfl
          have vy : uv ys[k] = .int .u32 (b : Int) := by rw [← HY.out, uv, ent, List.getD, List.getElem?_eq_getElem hlk]; rfl
          have vo : uv (us[i + k]'(by omega)) = .int .u32 (o : Int) := by rw [← HO2.out, uv, ent, List.getD, List.getElem?_eq_getElem (by omega)]; rfl
          rw [vx] at hcx
          rw [vy] at hcy
          rw [vo] at hco
          have hst := hgw.set_ (i := i + k) (y := UInt32.ofNat (cc + o + a * b)) (by omega)
          have hbs := hbw.setCell (p := ⟨g, off + (i + k), none⟩) hBg (uv (UInt32.ofNat (cc + o + a * b)))
          have HST := Lib.hid hst
          have HBS := Lib.hid hbs
          clear hst hbs vx vy vo hgw
          have b1 : decide (k < ys.length) = true := decide_eq_true hlk
          go_upto_region 9 with (fail)
          go_region
          all_goals go_wp2_with fail
          go_roundw
          case rel =>
            have hcast : ((cc + o + a * b : Nat) : Int) = (cc : Int) + o + (a : Int) * b := by rw [Int.natCast_add, Int.natCast_add, Int.natCast_mul]
            have hu : Value.int .u32 (((cc : Int) + o + (a : Int) * b) % 4294967296) = uv (UInt32.ofNat (cc + o + a * b)) := uv_ofNat _ _ (by omega)
            have hS : cc + o + a * b ≤ 18446744073709551615 := by omega
            rw [hu]
            refine ⟨k + 1, (cc + o + a * b) / 4294967296, us.set (i + k) (UInt32.ofNat (cc + o + a * b)), by go_num, congrArg (Value.int IntKind.u64) (by omega), by omega, by omega, by simpa using hu1, by simpa using hu2, ?_, ?_, OwnG.drew HST.out, HBS.out.drew⟩
            · unfold Hid
              have hset := val_set us (i + k) (by omega) (UInt32.ofNat (cc + o + a * b))
              have ho : (us.getD (i + k) 0).toNat = o := HO2.out
              rw [ho, UInt32.toNat_ofNat'] at hset
              have hyk : b = val ys / 4294967296 ^ k % 4294967296 := by rw [← HY.out, ent_val]
              have := mul_step (val us) _ cc (4294967296 ^ (i + k)) (4294967296 ^ i) (val (xs.take i) * val ys) a b o (cc + o + a * b) (val ys) (4294967296 ^ k) (Nat.pow_add _ _ _) rfl hyk hset HU.out
              rw [← Nat.add_assoc, Nat.pow_succ, Nat.pow_succ]
              exact this
            · intro j hj
              have := HF.out j hj
              rw [List.getD, List.getElem?_set_ne (by omega)]
              exact this
          case measure => simp [intOf]; omega
        · obtain rfl : k = ys.length := by omega
          have b1 : decide (ys.length < ys.length) = false := decide_eq_false (by omega)
          rcases id hgw with ⟨h0, _⟩ | ⟨g0, off0, cap0, h0, _, hg0, hn0, hm0, hsp0, hcs0⟩
          · cases h0
          cases h0
          obtain ⟨-, hf1⟩ := hsp0 (i + ys.length) (by omega)
          have hco := hcs0 (i + ys.length) (by omega)
          clear hsp0 hcs0 hn0
          unfold uv at hco
          have hst := hgw.set_ (i := i + ys.length) (y := UInt32.ofNat cc) (by omega)
          have hbs := hbw.setCell (p := ⟨g, off + (i + ys.length), none⟩) hBg (uv (UInt32.ofNat cc))
          have HST := Lib.hid hst
          have HBS := Lib.hid hbs
          clear hst hbs hgw
          go_wp2_with fail
          go_roundw
          case rel =>
            have hu : Value.int .u32 (cc : Int) = uv (UInt32.ofNat cc) := uv_ofNat _ _ (by omega)
            rw [hu]
            refine ⟨i + 1, us.set (i + ys.length) (UInt32.ofNat cc), by go_num, by omega, by simpa using hu1, by simpa using hu2, ?_, ?_, HST.out, HBS.out⟩
            · unfold Hid
              have hset := val_set us (i + ys.length) (by omega) (UInt32.ofNat cc)
              have hz : (us.getD (i + ys.length) 0).toNat = 0 := by rw [HF.out _ (Nat.le_refl _)]; rfl
              have hcc' : (UInt32.ofNat cc).toNat = cc := by rw [UInt32.toNat_ofNat']; exact Nat.mod_eq_of_lt (by omega)
              rw [hz, hcc', Nat.mul_zero, Nat.add_zero] at hset
              have hU := HU.out
              rw [Nat.mod_eq_of_lt (val_lt ys)] at hU
              rw [hset, List.take_succ_eq_append_getElem hlt, val_snoc, List.length_take, Nat.min_eq_left (by omega), Nat.add_mul, Nat.mul_comm (4294967296 ^ (i + ys.length)), hU]
              have hx : xs[i].toNat = a := by rw [← HX.out, ent, List.getD, List.getElem?_eq_getElem hlt]; rfl
              rw [hx, Nat.mul_comm (4294967296 ^ i) a, Nat.mul_assoc a, Nat.mul_assoc a, Nat.mul_comm (val ys)]
            · intro j hj
              have := HF.out j (by omega)
              rw [List.getD, List.getElem?_set_ne (by omega)]
              exact this
          case measure => simp [intOf]; omega
    · obtain rfl : i = xs.length := by omega
      have b0 : decide (xs.length < xs.length) = false := decide_eq_false (by omega)
      have hfin : Hid (val os = val xs * val ys) := by unfold Hid; rw [HV.out, List.take_length]
      have hl3 : os.length = zs.length := by omega
      obtain ⟨A2, c2, e2, hc2, hm2, hr2⟩ := hown.sl
      cases e2
      have h1000 : (os.length : Int) ≤ 1000000 := by omega
      have hsz := hbel.size
      have HL3 := Lib.hid hl3
      clear hl3
      go_wp2_with fail
      rw [← HL3.out]
      refine (refNorm_any (some ⟨g, off, none⟩) os cap _ hr2 hc2 hm2 h1000).mono ?_; rintro e w2 ⟨v2, rfl, hown2, hb2⟩
      rw [hfin.out] at hown2
      go_wp2_with fail
      go_ret
      exact ⟨_, rfl, hown2.less hsz, nx hbel hb2⟩
end Go.Proofs.YtddolmkmijkpiaaDoor
