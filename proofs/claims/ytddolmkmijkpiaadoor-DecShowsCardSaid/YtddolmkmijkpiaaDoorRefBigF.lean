/- The contracts of the document's answers for big: quotients. -/
import Derived.Test.YtddolmkmijkpiaaDoorRefBigE
set_option linter.unusedVariables false
set_option linter.unusedSimpArgs false
namespace Go.Proofs.YtddolmkmijkpiaaDoor
open Go.RowKit

theorem div_step (T Y b : Nat) (hY : 0 < Y) (hb : b ≤ 1) :
    (Y ≤ 2 * (T % Y) + b → (2 * T + b) / Y = 2 * (T / Y) + 1 ∧ (2 * T + b) % Y = 2 * (T % Y) + b - Y) ∧
    (2 * (T % Y) + b < Y → (2 * T + b) / Y = 2 * (T / Y) ∧ (2 * T + b) % Y = 2 * (T % Y) + b) := by
  have h := Nat.div_add_mod T Y
  have hm := Nat.mod_lt T hY
  generalize T / Y = q at *
  generalize T % Y = r at *
  have e1 : 2 * (Y * q) = Y * (2 * q) := by rw [Nat.mul_left_comm]
  constructor
  · intro hle
    have e : 2 * T + b = Y * (2 * q + 1) + (2 * r + b - Y) := by rw [Nat.mul_add, Nat.mul_one]; omega
    rw [e, Nat.mul_add_div hY, Nat.mul_add_mod, Nat.div_eq_of_lt (by omega), Nat.mod_eq_of_lt (by omega)]
    exact ⟨by omega, rfl⟩
  · intro hlt
    have e : 2 * T + b = Y * (2 * q) + (2 * r + b) := by omega
    rw [e, Nat.mul_add_div hY, Nat.mul_add_mod, Nat.div_eq_of_lt (by omega), Nat.mod_eq_of_lt (by omega)]
    exact ⟨by omega, rfl⟩
theorem div_pow_succ (V k : Nat) : V / 2 ^ k = 2 * (V / 2 ^ (k + 1)) + V / 2 ^ k % 2 := by
  rw [Nat.pow_succ, ← Nat.div_div_eq_div_mul]; omega
/-- a bit set ahead of which there is none -/
theorem or_bit2 (l : List UInt32) (k q : Nat) (h : val l = 2 ^ (k + 1) * q) :
    bits .or .u32 (ent l (k / 32) : Int) (2 ^ (k % 32) % 4294967296) = ((ent l (k / 32) + 2 ^ (k % 32) : Nat) : Int) ∧ ent l (k / 32) + 2 ^ (k % 32) < 4294967296 := by
  have hr : k % 32 < 32 := Nat.mod_lt _ (by decide)
  have hsp : 2 ^ (k + 1) = 4294967296 ^ (k / 32) * 2 ^ (k % 32 + 1) := by
    rw [Nat.pow_succ 2 (k % 32), ← Nat.mul_assoc, pow_split, Nat.pow_succ]
  have he : ent l (k / 32) = 2 ^ (k % 32 + 1) * (q % 2 ^ (31 - k % 32)) := by
    rw [ent_val, h, hsp, Nat.mul_assoc, Nat.mul_div_cancel_left _ (Nat.pow_pos (by decide))]
    rw [show (4294967296 : Nat) = 2 ^ (k % 32 + 1) * 2 ^ (31 - k % 32) from by rw [← Nat.pow_add, show k % 32 + 1 + (31 - k % 32) = 32 from by omega], Nat.mul_mod_mul_left]
  generalize k % 32 = r at *
  generalize q % 2 ^ (31 - r) = t at *
  have hlt : ent l (k / 32) < 4294967296 := by have := ent_le l (k / 32); omega
  have h2r : 2 ^ r < 2 ^ (r + 1) := Nat.pow_lt_pow_right (by decide) (by omega)
  have hor := Nat.two_pow_add_eq_or_of_lt (i := r + 1) (b := 2 ^ r) h2r t
  rw [← he] at hor
  have hp : 2 ^ r < 4294967296 := Nat.lt_of_lt_of_le (Nat.pow_lt_pow_right (by decide) hr) (by decide)
  have hsum : ent l (k / 32) + 2 ^ r < 4294967296 := by
    rw [hor]; exact Nat.or_lt_two_pow (n := 32) hlt hp
  have hc : ((2 : Int) ^ r % 4294967296) = ((2 ^ r : Nat) : Int) := by
    have : ((2 : Int) ^ r) = ((2 ^ r : Nat) : Int) := by rw [Int.natCast_pow]; rfl
    rw [this]
    exact Int.emod_eq_of_lt (by omega) (by omega)
  refine ⟨?_, hsum⟩
  rw [hc, u32_or_nat _ _ hlt hp, hor]

/-- what Div hands back -/
def DivIs (w w' : World) (x y : Nat) (q r : Value) (ok : Bool) : Prop :=
  if y = 0 then q = .slice none 0 0 ∧ r = .slice none 0 0 ∧ ok = false
  else Own uv 57 w' w.heap.size q (limbs (x / y)) ∧ Own uv 57 w' w.heap.size r (limbs (x % y)) ∧ ok = true

set_option maxRecDepth 100000 in
set_option maxHeartbeats 1600000 in
theorem refDiv_any (A : Option Addr) (xs : List UInt32) (c : Nat) (B : Option Addr) (ys : List UInt32) (d : Nat) (w : World) (hr : Rd uv w A xs) (hc : xs.length ≤ c) (hm : c ≤ maxLen) (hl : (xs.length : Int) ≤ 10000) (hs : Rd uv w B ys) (hd : ys.length ≤ d) (hm2 : d ≤ maxLen) (hl2 : (ys.length : Int) ≤ 10000) :
    Calls Tryd.prog 38 #[.slice A xs.length c, .slice B ys.length d] w fun e w' => ∃ q r ok, e = .returned (.tuple #[q, r, .bool ok]) ∧ DivIs w w' (val xs) (val ys) q r ok ∧ Below w.heap.size w w' := by
  by_cases hy0 : val ys = 0
  · have hz : Hid ((limbs (val ys)).length = 0) := by unfold Hid; rw [hy0]; rfl
    have HY := Lib.hid hy0
    clear hy0
    go_enter Tryd.func38, Tryd.ntmps38
    go_wp2_with fail
    refine (refNorm_any B ys d _ hs hd hm2 (by omega)).mono ?_; rintro e w1 ⟨v1, rfl, hown1, hb1⟩
    obtain ⟨A1, c1, rfl, -, -, -⟩ := hown1.sl
    rw [hz.out]
    go_wp2_with fail
    go_ret3
    refine ⟨_, _, _, rfl, ?_, hb1⟩
    unfold DivIs
    rw [if_pos HY.out]
    exact ⟨rfl, rfl, rfl⟩
  · have hz : 1 ≤ (limbs (val ys)).length := by
      rcases Nat.eq_zero_or_pos (limbs (val ys)).length with h | h
      · exfalso
        apply hy0
        have := val_limbs (val ys)
        rw [List.eq_nil_of_length_eq_zero h] at this
        exact this.symm
      · exact h
    have HY := Lib.hid hy0
    clear hy0
    go_enter Tryd.func38, Tryd.ntmps38
    go_wp2_with fail
    refine (refNorm_any B ys d _ hs hd hm2 (by omega)).mono ?_; rintro e w1 ⟨v1, rfl, hown1, hb1⟩
    obtain ⟨A1, c1, ns, rfl, -, hn1, hn2, -⟩ := hown1.name (limbs (val ys)).length rfl
    have g0 : ((ns.length : Int) == 0) = false := by rw [beq_eq_false_iff_ne]; omega
    clear hz hn1 hn2 hown1
    go_wp2_with (at_make; go_must (refine wpList_mkz (f := uv) _ uT 0 uZ rfl rfl _ _ rfl w.heap.size _ _ _ rfl rfl (by omega) (by omega) (by omega) hb1.size ?_; intro v2 w2 zs hg2 HZ2 hz1 hz2 hb2))
    have hb02 : Below w.heap.size w w2 := hb1.trans hb2
    rcases id hg2 with ⟨h0, h0'⟩ | ⟨g, off, cap, rfl, hBg, hgl, hn3, hm3', -, -⟩
    · exfalso
      have : zs.length = 0 := by rw [h0']; rfl
      omega
    have HG2 := Lib.hid hg2
    clear hg2 hn3 hm3'
    go_wp2_with fail
    have hYpos : Hid (0 < val ys) := Nat.pos_of_ne_zero HY.out
    go_loopw [8, 9] (fun rv v wr => ∃ (m : Nat) (qs : List UInt32), v = .int .i64 ((m : Int) - 1) ∧ m ≤ 32 * xs.length ∧ qs.length ≤ zs.length ∧ zs.length ≤ qs.length ∧ Hid (val qs = 2 ^ m * (val xs / 2 ^ m / val ys)) ∧
      Own uv 57 wr w.heap.size rv (limbs (val xs / 2 ^ m % val ys)) ∧ OwnG uv wr w.heap.size (.slice (some ⟨g, off, none⟩) qs.length cap) qs ∧ Below w.heap.size w wr) (fun _ v _ => (intOf v + 1).toNat)
    case atStart =>
      have h0 : val xs / 2 ^ (32 * xs.length) = 0 := Nat.div_eq_of_lt (by rw [Nat.pow_mul]; exact val_lt xs)
      refine ⟨32 * xs.length, zs, by go_num, Nat.le_refl _, Nat.le_refl _, Nat.le_refl _, ?_, ?_, HG2.out, hb02⟩
      · unfold Hid; rw [h0, HZ2.out, val_zeros]; simp
      · rw [h0, Nat.zero_mod]; exact Own.nil_
    case round =>
      obtain ⟨m, qs, rfl, hmm, hq1, hq2, HQ, hownr, hownq, hbel⟩ := hrel
      rcases m with _ | k
      · have hfq : Hid (val qs = val xs / val ys) := by unfold Hid; rw [HQ.out]; simp
        have hfr : Hid (limbs (val xs / 2 ^ 0 % val ys) = limbs (val xs % val ys)) := by unfold Hid; simp
        obtain ⟨A3, c3, e3, hc3, hm3, hr3⟩ := hownq.sl
        cases e3
        have HL : Hid (qs.length = zs.length) := by unfold Hid; omega
        have h1000 : (qs.length : Int) ≤ 1000000 := by omega
        have hsz := hbel.size
        go_wp2_with fail
        rw [← HL.out]
        refine (refNorm_any (some ⟨g, off, none⟩) qs cap _ hr3 hc3 hm3 h1000).mono ?_; rintro e w3 ⟨v3, rfl, hown3, hb3⟩
        rw [hfq.out] at hown3
        rw [hfr.out] at hownr
        have hownr3 := hownr.below hb3
        go_wp2_with fail
        go_ret3
        refine ⟨_, _, _, rfl, ?_, nx hbel hb3⟩
        unfold DivIs
        rw [if_neg HY.out]
        exact ⟨hown3.less hsz, hownr3, rfl⟩
      · obtain ⟨b, HB⟩ : ∃ b, Hid (val xs / 2 ^ k % 2 = b) := ⟨_, rfl⟩
        have hb2' : b ≤ 1 := by rw [← HB.out]; omega
        obtain ⟨T, HT⟩ : ∃ T, Hid (val xs / 2 ^ (k + 1) = T) := ⟨_, rfl⟩
        have HT2 : Hid (val xs / 2 ^ k = 2 * T + b) := by unfold Hid; rw [div_pow_succ, HT.out, HB.out]
        rw [HT.out] at hownr
        have hsz := hbel.size
        have hlr : (limbs (T % val ys)).length ≤ ys.length := limbs_len _ _ (Nat.lt_trans (Nat.mod_lt _ hYpos.out) (val_lt ys))
        obtain ⟨Ar, cr, rs, rfl, HR, hr1', hr2', hcr, hmr, hrr, hownr⟩ := hownr.name (limbs (T % val ys)).length rfl
        have hrl : rs.length ≤ ys.length := by omega
        have HV : Hid (val rs = T % val ys) := by unfold Hid; rw [HR.out, val_limbs]
        clear hlr hr1' hr2' HR hownr
        have hrw := hr.below hbel
        have hsw := hs.below hbel
        go_wp2_with fail
        refine (refAdd_any Ar rs cr Ar rs cr _ hrr hcr (by omega) hrr hcr (by omega)).mono ?_; rintro e w3 ⟨v3, rfl, hown3, hb3⟩
        have hl3 : (limbs (val rs + val rs)).length ≤ ys.length + 1 := limbs_len _ _ (by
          have := val_lt rs
          have h2 : 4294967296 ^ rs.length ≤ 4294967296 ^ ys.length := Nat.pow_le_pow_right (by decide) hrl
          rw [Nat.pow_succ]; omega)
        obtain ⟨A3, c3, r3, rfl, HR3, h3a, h3b, hc3, hm3, hr3, -⟩ := hown3.name (limbs (val rs + val rs)).length rfl
        have h3l : r3.length ≤ ys.length + 1 := by omega
        have HV3 : Hid (val r3 = 2 * (T % val ys)) := by unfold Hid; rw [HR3.out, val_limbs, HV.out]; omega
        clear hl3 h3a h3b HR3 hown3
        go_wp2_with fail
        refine (refBit_any A xs c k _ (hrw.below hb3) hc (by omega) (by omega)).mono ?_; rintro e w' ⟨rfl, rfl⟩
        rw [HB.out]
        go_wp2_with fail
        refine (refOf_any b _ (by omega)).mono ?_; rintro e w4 ⟨v4, rfl, hown4, hb4⟩
        have hl4 : (limbs b).length ≤ 1 := limbs_len _ _ (by omega)
        obtain ⟨A4, c4, r4, rfl, HR4, h4a, h4b, hc4, hm4, hr4, -⟩ := hown4.name (limbs b).length rfl
        have h4l : r4.length ≤ 1 := by omega
        have HV4 : Hid (val r4 = b) := by unfold Hid; rw [HR4.out, val_limbs]
        clear hl4 h4a h4b HR4 hown4
        go_wp2_with fail
        refine (refAdd_any A3 r3 c3 A4 r4 c4 _ (hr3.below hb4) hc3 (by omega) hr4 hc4 (by omega)).mono ?_; rintro e w5 ⟨v5, rfl, hown5, hb5⟩
        have hl5 : (limbs (val r3 + val r4)).length ≤ ys.length + 2 := limbs_len _ _ (by
          have h1 := val_lt r3
          have h2 := val_lt r4
          have h3 : 4294967296 ^ r3.length ≤ 4294967296 ^ (ys.length + 1) := Nat.pow_le_pow_right (by decide) h3l
          have h4 : 4294967296 ^ r4.length ≤ 4294967296 ^ (ys.length + 1) := Nat.pow_le_pow_right (by decide) (by omega)
          rw [show ys.length + 2 = (ys.length + 1) + 1 from rfl, Nat.pow_succ]; omega)
        obtain ⟨A5, c5, r5, rfl, HR5, h5a, h5b, hc5, hm5, hr5, hown5⟩ := hown5.name (limbs (val r3 + val r4)).length rfl
        have h5l : r5.length ≤ ys.length + 2 := by omega
        have HV5 : Hid (val r5 = 2 * (T % val ys) + b) := by unfold Hid; rw [HR5.out, val_limbs, HV3.out, HV4.out]
        have HL5 : Hid (r5 = limbs (2 * (T % val ys) + b)) := by unfold Hid; rw [HR5.out, HV3.out, HV4.out]
        clear hl5 h5a h5b HR5
        have hb35 : Below wr.heap.size wr w5 := nx (nx hb3 hb4) hb5
        have hd1 := div_step T (val ys) b hYpos.out hb2'
        rw [← HT2.out] at hd1
        have HD := Lib.hid hd1
        clear hd1
        have hgw : g < wr.heap.size := by
          rcases id hownq with ⟨h0, _⟩ | ⟨g0, off0, cap0, h0, _, hg0, _⟩
          · cases h0
          · cases h0; exact hg0
        have hownq5 := hownq.below hb35
        go_wp2_with fail
        refine (refSub_any A5 r5 c5 B ys d _ hr5 hc5 (by omega) (hsw.below hb35) hd (by omega)).mono ?_; rintro e w6 ⟨v6, is, rfl, hsub, hb6⟩
        rw [HV5.out] at hsub
        unfold SubIs at hsub
        have hb36 := nx hb35 hb6
        have hownq6 := hownq5.below hb6
        by_cases hlt : 2 * (T % val ys) + b < val ys
        · rw [if_pos hlt] at hsub
          obtain ⟨rfl, rfl⟩ := hsub
          have HLT := Lib.hid hlt
          clear hlt
          go_wp2_with fail
          go_roundw
          case rel =>
            obtain ⟨hd1, hd2⟩ := HD.out.2 HLT.out
            refine ⟨k, qs, by go_num, by omega, hq1, hq2, ?_, ?_, hownq6, nx hbel hb36⟩
            · unfold Hid
              rw [HQ.out, HT.out, hd1, Nat.pow_succ, Nat.mul_assoc]
            · rw [hd2]
              have h1 := (hown5.below hb6).cast HL5.out
              exact h1.less (nx hbel (nx hb3 hb4)).size
          case measure => simp [intOf]
        · rw [if_neg hlt] at hsub
          obtain ⟨hown6, rfl⟩ := hsub
          have HLT := Lib.hid hlt
          clear hlt
          rcases id hownq6 with ⟨h0, _⟩ | ⟨g0, off0, cap0, h0, _, hg0, hn0, hm0, hsp0, hcs0⟩
          · cases h0
          cases h0
          have hidx : k / 32 < qs.length := by omega
          obtain ⟨-, hf1⟩ := hsp0 (k / 32) (by omega)
          have hco := hcs0 (k / 32) hidx
          obtain ⟨ev, HE⟩ : ∃ ev, Hid (ent qs (k / 32) = ev) := ⟨_, rfl⟩
          have vo : uv qs[k / 32] = .int .u32 (ev : Int) := by rw [← HE.out, uv, ent, List.getD, List.getElem?_eq_getElem hidx]; rfl
          rw [vo] at hco
          have hob := or_bit2 qs k _ HQ.out
          rw [HE.out] at hob
          have HOB := Lib.hid hob
          have hst := hownq6.set_ (i := k / 32) (y := UInt32.ofNat (ev + 2 ^ (k % 32))) hidx
          have hbs : Below w6.heap.size w6 w6 := Below.refl _ _
          have hbs2 := (nx hbel hb36).setCell (p := ⟨g, off + k / 32, none⟩) hBg (uv (UInt32.ofNat (ev + 2 ^ (k % 32))))
          have HST := Lib.hid hst
          have HBS := Lib.hid hbs2
          have hownr6 := hown6.less (nx hbel hb35).size
          have hne : Own uv 57 w6 w5.heap.size v6 (limbs (2 * (T % val ys) + b - val ys)) := hown6
          have HOW := Lib.hid hown6
          clear hst hbs hbs2 hsp0 hcs0 hn0 vo hob hown6 hne hownr6 hownq6 hownq5
          go_wp2_with fail
          go_upto_region 12 with (fail)
          have x1 : (0 : Int) ≤ (k : Int) / 32 := by omega
          have x2 : (k : Int) / 32 < (zs.length : Int) := by omega
          have x3 : ((k : Int) / 32).toNat = k / 32 := by omega
          have x4 : (0 : Int) ≤ (k : Int) % 32 := by omega
          have x5 : (k : Int) % 32 ≤ 32 := by omega
          have x6 : ((k : Int) % 32).toNat = k % 32 := by omega
          go_region
          all_goals clear x1 x2 x3 x4 x5 x6
          all_goals go_wp2_with fail
          all_goals go_roundw
          case rel =>
            obtain ⟨hd1, hd2⟩ := HD.out.1 (Nat.le_of_not_lt HLT.out)
            have hob := HOB.out
            have hcast : ((ev + 2 ^ (k % 32) : Nat) : Int) = (((ev + 2 ^ (k % 32)) % 4294967296 : Nat) : Int) := by rw [Nat.mod_eq_of_lt hob.2]
            rw [hob.1, uv_ofNat _ _ hcast]
            refine ⟨k, qs.set (k / 32) (UInt32.ofNat (ev + 2 ^ (k % 32))), by go_num, by omega, by simpa using hq1, by simpa using hq2, ?_, ?_, OwnG.drew HST.out, HBS.out.drew⟩
            · unfold Hid
              have hset := val_set qs (k / 32) hidx (UInt32.ofNat (ev + 2 ^ (k % 32)))
              have he : (qs.getD (k / 32) 0).toNat = ev := HE.out
              rw [he, UInt32.toNat_ofNat', Nat.mod_eq_of_lt hob.2, Nat.mul_add, pow_split, HQ.out, HT.out, Nat.pow_succ, Nat.mul_assoc] at hset
              rw [hd1, Nat.mul_add, Nat.mul_one]
              omega
            · rw [hd2]
              have hlt5 : (⟨g, off + k / 32, none⟩ : Addr).block < w5.heap.size := Nat.lt_of_lt_of_le hgw hb35.size
              have h1 := ownsRow_setCell_below HOW.out hlt5 (uv (UInt32.ofNat (ev + 2 ^ (k % 32))))
              have h2 : Own uv 57 (w6.setCell ⟨g, off + k / 32, none⟩ (uv (UInt32.ofNat (ev + 2 ^ (k % 32))))) w5.heap.size v6 (limbs (2 * (T % val ys) + b - val ys)) := h1
              exact (h2.less (nx hbel hb35).size).drew
          case measure => simp [intOf]
end Go.Proofs.YtddolmkmijkpiaaDoor
