/- The walk of FieldUnlike. -/
import Derived.Test.YtpfecpcgdfbekaaFdK
import Derived.Test.YtpfecpcgdfbekaaRowS0
set_option linter.unusedVariables false
set_option linter.unusedSimpArgs false
namespace Go.Proofs.Ytpfecpcgdfbekaa
open Go.RowKit

theorem fd_one : ∀ x : Fd, ∀ u ∈ (fdV x fz).toList, u.oneCell' = true := fun x u hu => by
  simp [fdV, fz, st] at hu
  rcases hu with rfl | rfl | rfl | rfl | rfl | rfl | rfl | rfl | rfl | rfl | rfl <;> rfl
theorem zero300 (w : World) : (zeroValue 32).run Try.prog w = .ok (.agg (sawU []).toArray) w := by kernel_rfl
set_option maxRecDepth 100000 in
set_option maxHeartbeats 12800000 in
theorem FieldUnlike_walk (a : Option Addr) (z : List Int) (cap : Nat) (w : World) (hr : Rd (Value.int .u16) w a z) (hl : z.length ≤ cap) (hm : cap ≤ maxLen) (hwf : ∀ n ∈ z, (Lit.int .u16 n).wf = true) :
    Calls Try.prog 4 #[.slice a z.length cap] w fun e w' => e = .returned (.bool true) ∧ Below w.heap.size w w' := by
  have HBG := Lib.hid (fdbegun_any w)
  have HR := Lib.hid hr
  have hwf2 : ∀ x ∈ z, 0 ≤ x ∧ x ≤ 65535 := fun x hx => by
    have := hwf x hx
    simp [Lit.wf, IntKind.min, IntKind.max, IntKind.signed, IntKind.bits] at this
    omega
  have HWF := Lib.hid hwf2
  obtain ⟨n, hn⟩ : ∃ n, z.length = n := ⟨_, rfl⟩
  have HN := Lib.hid hn
  rw [hn] at hl ⊢
  clear hr hwf hn hwf2
  go_enter Try.func4, Try.ntmps4
  go_wp2_with fail
  refine HBG.out.mono ?_; rintro e w1 ⟨rfl, hn1⟩
  have HN1 := Lib.hid hn1
  clear hn1 HBG
  by_cases h20 : 15 < n
  · have q1 : decide ((15 : Int) < (n : Int)) = true := decide_eq_true (by omega)
    have q2 : (15 : Int) < (n : Int) := by omega
    have q3 : decide (15 < n) = true := decide_eq_true h20
    go_wp2_with fail
    go_ret
    exact ⟨rfl, HN1.out⟩
  have q1 : decide ((15 : Int) < (n : Int)) = false := decide_eq_false (by omega)
  have q2 : ¬ (15 : Int) < (n : Int) := by omega
  have q3 : decide (15 < n) = false := decide_eq_false h20
  have hn15 : (n : Int) ≤ 15 := by omega
  have HN15 : Hid (n ≤ 15) := by unfold Hid; omega
  clear hl hm
  go_upto_region 6 with (fail)
  clear q1 q2 q3 h20
  obtain ⟨gs, hgs⟩ : ∃ g, w1.heap.size = g := ⟨_, rfl⟩
  obtain ⟨Z, hZ⟩ : ∃ Z, (sawU []).toArray = Z := ⟨_, rfl⟩
  have hz3 := zero300 w1
  rw [hZ] at hz3
  obtain ⟨w2, hw2⟩ : ∃ x, w1.alloc (.cells Z 32) = x := ⟨_, rfl⟩
  have hb2 : Blk w2 gs gs (sawU []).toArray 32 := by rw [← hw2, ← hgs, hZ]; exact Blk.new w1 _ _
  have hn2 : Nx w1 w2 := by rw [← hw2]; exact nx0 w1 _
  have HB2 := Lib.hid hb2
  have HN2 := Lib.hid hn2
  have HGS : Hid (w1.heap.size = gs ∧ gs < w2.heap.size) := ⟨hgs, hb2.lt⟩
  clear hb2 hn2 hZ
  go_wp2_with fail
  clear hw2 hgs hz3
  obtain ⟨gq, hgq⟩ : ∃ g, gs + 1 = g := ⟨_, rfl⟩
  have HGQ := Lib.hid hgq
  clear hgq
  go_loopw [3, 5, 6] (fun v3 v5 v6 wr => ∃ i : Nat, v6 = .int .i64 (i : Int) ∧ i ≤ n ∧ v5 = .bool (twB (unL z i) []) ∧ Hid (OwnS (fun f => fdV f fz) 11 39 wr gq v3 (unL z i)) ∧ Hid (Blk wr gs gs (sawU (ownsP (unL z i))).toArray 32) ∧ Hid (Nx w1 wr)) (fun _ _ v _ => (n - intOf v).toNat)
  case atStart => exact ⟨0, rfl, Nat.zero_le _, rfl, OwnS.nil_ _ _, HB2.out, HN2.out⟩
  case round =>
    obtain ⟨i, rfl, hi, rfl, HO, HS, HX⟩ := hrel
    obtain ⟨A3, m3, hv3, -, -, -⟩ := OwnS.sl (f := fun f => fdV f fz) (k := 11) (fun _ => rfl) HO.out
    rw [hv3] at HO
    subst hv3
    rw [unL_len] at HO ⊢
    obtain ⟨T, hT⟩ : ∃ T, twB (unL z i) [] = T := ⟨_, rfl⟩
    rw [hT]
    have HT := Lib.hid hT
    clear hT
    by_cases hlt : i < n
    · have q1 : decide ((i : Int) < (n : Int)) = true := decide_eq_true (by omega)
      have q2 : (i : Int) < (n : Int) := by omega
      have q3 : (0 : Int) ≤ (i : Int) := by omega
      have hiz : i < z.length := by rw [HN.out]; exact hlt
      obtain ⟨x, hx⟩ : ∃ x, z[i] = x := ⟨_, rfl⟩
      have hx2 : 0 ≤ x ∧ x ≤ 65535 := HWF.out x (hx ▸ List.getElem_mem hiz)
      obtain ⟨g, off, rfl, hg, hc⟩ := (HR.out.below (HN1.out.trans HX.out)).at_ hiz
      rw [hx] at hc
      have hgd : z.getD i 0 = x := by simp [List.getD, hiz, hx]
      have HL : Hid (unL z (i + 1) = unL z i ++ [unF x i]) := by unfold Hid; rw [unL_succ, hgd]
      have HLT := Lib.hid hlt
      obtain ⟨ch, hch⟩ : ∃ ch : Nat, 97 + i = ch := ⟨_, rfl⟩
      have hchi : (97 : Int) + (i : Int) = (ch : Int) := by omega
      have c1 : (0 : Int) ≤ (ch : Int) := by omega
      have c2 : (ch : Int) ≤ 255 := by omega
      have c3 : (ch : Int) < 256 := by omega
      have c4 : (ch : Int) % 256 = (ch : Int) := by omega
      obtain ⟨g3, hg3⟩ : ∃ g, wr.heap.size = g := ⟨_, rfl⟩
      obtain ⟨w3, hw3⟩ : ∃ x, wr.alloc (.cells #[.int .u8 (ch : Int)] 5) = x := ⟨_, rfl⟩
      have hb3 : Blk w3 g3 g3 #[.int .u8 (ch : Int)] 5 := by rw [← hw3, ← hg3]; exact Blk.new wr _ _
      have hn3 : Nx wr w3 := by rw [← hw3]; exact nx0 _ _
      have HRD : Hid (Rd bv w3 (some ⟨g3, 0, none⟩) [UInt8.ofNat ch]) := by
        unfold Hid
        intro _
        refine ⟨g3, 0, rfl, hb3.lt, fun p hp => ?_⟩
        have hp : p < 1 := hp
        obtain rfl : p = 0 := by omega
        have h := hb3.cell 0
        have e : ((UInt8.ofNat ch).toNat : Int) = (ch : Int) := by simp [UInt8.toNat_ofNat]; omega
        show w3.cell? ⟨g3, 0 + 0, none⟩ = some (bv (UInt8.ofNat ch))
        unfold bv
        rw [e]
        exact h
      obtain ⟨g4, hg4⟩ : ∃ g, w3.heap.size = g := ⟨_, rfl⟩
      obtain ⟨w4, hw4⟩ : ∃ x, w3.alloc (.cells #[.bool false, .int .i64 0, .int .i64 0, .string ⟨#[]⟩, .string ⟨#[UInt8.ofNat ch]⟩, .bool false, .int .i64 0, .int .i64 0, .int .u64 0, .string ⟨#[]⟩, .slice none 0 0] 39) = x := ⟨_, rfl⟩
      have hb4 : Blk w4 g4 g4 #[.bool false, .int .i64 0, .int .i64 0, .string ⟨#[]⟩, .string ⟨#[UInt8.ofNat ch]⟩, .bool false, .int .i64 0, .int .i64 0, .int .u64 0, .string ⟨#[]⟩, .slice none 0 0] 39 := by rw [← hw4, ← hg4]; exact Blk.new w3 _ _
      have hn4 : Nx w3 w4 := by rw [← hw4]; exact nx0 _ _
      have HW4 := Lib.hid hw4
      have HB4 := Lib.hid hb4
      have HN4 := Lib.hid (hn3.trans hn4)
      have hc4 : w4.cell? ⟨g, off + i, none⟩ = some (.int .u16 x) := (HN4.out.cell (p := ⟨g, off + i, none⟩) hg).trans hc
      have HW4G : Hid (wr.heap.size ≤ g4) := by unfold Hid; rw [← hg4]; exact hn3.size
      have HC4 := Lib.hid hc4
      have HGG : Hid (g < g4 ∧ gs < g4) := ⟨by rw [← hg4]; exact Nat.lt_of_lt_of_le hg hn3.size, by rw [← hg4]; exact Nat.lt_of_lt_of_le HS.out.lt hn3.size⟩
      have HX2 := Lib.hid hx2
      clear hw4 hb3 hn3 hb4 hn4 hc hg hx hiz hgd hlt hx2
      go_upto_region 12 with (refine wpList_str _ (o := ⟨some 29, _, _, _, _, _⟩) rfl _ rfl Try.underlying33 Try.underlying5 Try.underlying9 _ _ _ rfl HRD.out ?_; intro t HT9 ht1 ht2; obtain rfl : t = _ := HT9.out; clear HT9)
      rw [HW4.out]
      clear HW4 hw3 hg3 hg4
      obtain ⟨r, hr3⟩ : ∃ r : Nat, x % 3 = (r : Int) := ⟨(x % 3).toNat, by omega⟩
      have ht3 : x.tmod 3 = (r : Int) := by rw [Int.tmod_eq_emod_of_nonneg HX2.out.1, hr3]
      by_cases hr0 : 0 < r
      · have b1 : decide ((0 : Int) < (r : Int)) = true := decide_eq_true (by omega)
        have b2 : (0 : Int) < (r : Int) := by omega
        have b3 : decide (0 < r) = true := decide_eq_true hr0
        obtain ⟨q, hq⟩ : ∃ q : Nat, x % 299 = (q : Int) := ⟨(x % 299).toNat, by have := HX2.out; omega⟩
        have ht9 : x.tmod 299 = (q : Int) := by rw [Int.tmod_eq_emod_of_nonneg HX2.out.1, hq]
        obtain ⟨Q, hQ⟩ : ∃ Q : Nat, 1 + q = Q := ⟨_, rfl⟩
        have hQi : (1 : Int) + (q : Int) = (Q : Int) := by omega
        have hQ3 : (Q : Int) < 300 := by omega
        have hQ0 : (0 : Int) ≤ (Q : Int) := by omega
        have hQw : (Q : Int) % 65536 = (Q : Int) := by omega
        have HQ3 : Hid (Q < 300) := by unfold Hid; omega
        have HFN : Hid (unF x i = ⟨true, (Q : Int), [UInt8.ofNat ch]⟩) := by
          unfold Hid unF
          rw [hr3, if_pos b2, b1, hq, hQi, hch]
        clear hq hr3
        go_upto_region 13 with (fail)
        have f0 := HB4.out.free 0
        have f1 := HB4.out.free 1
        have y0 : w4.cell? ⟨g4, 0, none⟩ = some (.bool false) := HB4.out.cell 0
        have y1 : w4.cell? ⟨g4, 1, none⟩ = some (.int .i64 0) := HB4.out.cell 1
        have n1 : ¬ g = g4 := by have := HGG.out; omega
        have n2 : ¬ g4 = g := by have := HGG.out; omega
        have hc4 := HC4.out
        go_region
        have hb5 : Blk ((w4.setCell ⟨g4, 0, none⟩ (.bool true)).setCell ⟨g4, 1, none⟩ (.int .i64 (Q : Int))).drew g4 g4 #[.bool true, .int .i64 (Q : Int), .int .i64 0, .string ⟨#[]⟩, .string ⟨#[UInt8.ofNat ch]⟩, .bool false, .int .i64 0, .int .i64 0, .int .u64 0, .string ⟨#[]⟩, .slice none 0 0] 39 := (((HB4.out.put 0 (.bool true)).put 1 (.int .i64 (Q : Int))).drew 1)
        have ho5 : Oth g4 w4 ((w4.setCell ⟨g4, 0, none⟩ (.bool true)).setCell ⟨g4, 1, none⟩ (.int .i64 (Q : Int))).drew := ((Oth.refl g4 w4).own.own).trans ⟨rfl, rfl, rfl, Nat.le_refl _, fun _ _ _ => rfl⟩
        have HB5 := Lib.hid hb5
        have HO5 := Lib.hid ho5
        clear hb5 ho5 f0 f1 y0 y1 n1 n2 hc4
        generalize World.drew _ = w5 at *
        have hs5 : Blk w5 gs gs (sawU (ownsP (unL z i))).toArray 32 := HO5.out.blk (HS.out.below HN4.out) (by have := HGG.out; omega)
        obtain ⟨D, hD⟩ : ∃ D, decide ((Q : Int) ∈ ownsP (unL z i)) = D := ⟨_, rfl⟩
        have HTW : Hid (twB (unL z (i + 1)) [] = (T || D)) := by
          unfold Hid
          rw [HL.out, twB_app, HT.out, HFN.out, List.nil_append, hD]
          simp
        have z1 : w5.cell? ⟨g4, 1, none⟩ = some (.int .i64 (Q : Int)) := HB5.out.cell 1
        have zD : w5.cell? ⟨gs, Q, none⟩ = some (.bool D) := by rw [hs5.cell Q, sawU_get _ _ HQ3.out, hD]
        have zf := hs5.free Q
        have hs6 : Blk (w5.setCell ⟨gs, Q, none⟩ (.bool true)) gs gs (sawU (ownsP (unL z (i + 1)))).toArray 32 := by
          have h := hs5.put Q (.bool true)
          rw [sawU_set _ _ HQ3.out] at h
          rw [HL.out, ownsP_app, HFN.out]
          exact h
        have hb6 : Blk (w5.setCell ⟨gs, Q, none⟩ (.bool true)) g4 g4 #[.bool true, .int .i64 (Q : Int), .int .i64 0, .string ⟨#[]⟩, .string ⟨#[UInt8.ofNat ch]⟩, .bool false, .int .i64 0, .int .i64 0, .int .u64 0, .string ⟨#[]⟩, .slice none 0 0] 39 := HB5.out.other (by have := HGG.out; omega) Q _
        have ho6 : Oth gs w5 (w5.setCell ⟨gs, Q, none⟩ (.bool true)) := Oth.set _ _ _ _
        obtain ⟨w6, hw6⟩ : ∃ x, w5.setCell ⟨gs, Q, none⟩ (.bool true) = x := ⟨_, rfl⟩
        rw [hw6] at hs6 hb6 ho6
        obtain ⟨g7, hg7⟩ : ∃ g, w6.heap.size = g := ⟨_, rfl⟩
        obtain ⟨w7, hw7⟩ : ∃ x, w6.alloc (.cells #[.bool true, .int .i64 (Q : Int), .int .i64 0, .string ⟨#[]⟩, .string ⟨#[UInt8.ofNat ch]⟩, .bool false, .int .i64 0, .int .i64 0, .int .u64 0, .string ⟨#[]⟩, .slice none 0 0] 39) = x := ⟨_, rfl⟩
        have hn7 : Nx w6 w7 := by rw [← hw7]; exact nx0 w6 _
        have HB7 : Hid (Blk w7 g7 g7 (fdV ⟨true, (Q : Int), [UInt8.ofNat ch]⟩ fz) 39) := by unfold Hid; rw [← hw7, ← hg7]; exact Blk.new w6 _ _
        have HS7 := Lib.hid (hs6.below hn7)
        have HO6 := Lib.hid ho6
        have HN7 := Lib.hid hn7
        have HX7 : Hid (Nx w1 w7) := by
          have h5 : Nx w1 w5 := HO5.out.to (HX.out.trans HN4.out) (by have := HGS.out; have := HGG.out; omega)
          have h6 : Nx w1 w6 := ho6.to h5 (by have := HGS.out; omega)
          exact h6.trans hn7
        have v0 : w6.cell? ⟨g4, 0, none⟩ = some (.bool true) := hb6.cell 0
        have v1 : w6.cell? ⟨g4, 1, none⟩ = some (.int .i64 (Q : Int)) := hb6.cell 1
        have v2 : w6.cell? ⟨g4, 2, none⟩ = some (.int .i64 0) := hb6.cell 2
        have v3 : w6.cell? ⟨g4, 3, none⟩ = some (.string ⟨#[]⟩) := hb6.cell 3
        have v4 : w6.cell? ⟨g4, 4, none⟩ = some (.string ⟨#[UInt8.ofNat ch]⟩) := hb6.cell 4
        have v5 : w6.cell? ⟨g4, 5, none⟩ = some (.bool false) := hb6.cell 5
        have v6 : w6.cell? ⟨g4, 6, none⟩ = some (.int .i64 0) := hb6.cell 6
        have v7 : w6.cell? ⟨g4, 7, none⟩ = some (.int .i64 0) := hb6.cell 7
        have v8 : w6.cell? ⟨g4, 8, none⟩ = some (.int .u64 0) := hb6.cell 8
        have v9 : w6.cell? ⟨g4, 9, none⟩ = some (.string ⟨#[]⟩) := hb6.cell 9
        have v10 : w6.cell? ⟨g4, 10, none⟩ = some (.slice none 0 0) := hb6.cell 10
        clear hs5 hs6 hb6 ho6 hn7 hD
        cases T with
        | true =>
          go_upto_region 16 with (fail)
          try rw [hw6]
          clear hw6 z1 zD zf
          have hk7 : ∀ j, j < 11 → w7.cell? ⟨g7, j, none⟩ = (fdV ⟨true, (Q : Int), [UInt8.ofNat ch]⟩ fz)[j]? := fun j hj => HB7.out.cell j
          have HO7 : Hid (OwnS (fun f => fdV f fz) 11 39 w7 gq (.slice A3 i m3) (unL z i)) := by
            unfold Hid
            exact ((HO.out.nx (HO5.out.to HN4.out (by have := HW4G.out; omega))).oth HO6.out (by have := HGQ.out; omega)).nx HN7.out
          have hq7 : gq ≤ w7.heap.size := by have := HGQ.out; have := HS7.out.lt; omega
          have hl9 : ((unL z i).length : Int) ≤ 100000 := by rw [unL_len]; omega
          go_wp2_with (at_builtin; go_must (refine wpList_appS (f := fun f => fdV f fz) (k := 11) _ infoF Try.underlying22 rfl (by decide) (by decide) (fun _ => rfl) fd_one rfl _ _ rfl gq _ _ ⟨true, (Q : Int), [UInt8.ofNat ch]⟩ rfl HO7.out g7 rfl hk7 hl9 hq7 ?_; intro v8 w8 hown8 hbel8 hkeep8))
          have hx8 : Nx w1 w8 := Below.trans (B := w1.heap.size) HX7.out (hbel8.mono (by have := HGQ.out; have := HGS.out.1; omega))
          have hs8 : Blk w8 gs gs (sawU (ownsP (unL z (i + 1)))).toArray 32 := ⟨HS7.out.1, by rw [hbel8.block gs (by have := HGQ.out; omega)]; exact HS7.out.2⟩
          rw [← HFN.out, ← HL.out] at hown8
          have HO8 := Lib.hid hown8
          have HX8 := Lib.hid hx8
          have HS8 := Lib.hid hs8
          clear hown8 hbel8 hkeep8 hx8 hs8 hk7 hq7 hl9
          go_roundw
          case rel => exact ⟨i + 1, by go_num, HLT.out, by rw [HTW.out]; rfl, HO8.out, HS8.out, HX8.out⟩
          case measure => have := HLT.out; simp [intOf]; omega
        | false =>
          go_upto_region 16 with (fail)
          try rw [hw6]
          clear hw6 z1 zD zf
          have hk7 : ∀ j, j < 11 → w7.cell? ⟨g7, j, none⟩ = (fdV ⟨true, (Q : Int), [UInt8.ofNat ch]⟩ fz)[j]? := fun j hj => HB7.out.cell j
          have HO7 : Hid (OwnS (fun f => fdV f fz) 11 39 w7 gq (.slice A3 i m3) (unL z i)) := by
            unfold Hid
            exact ((HO.out.nx (HO5.out.to HN4.out (by have := HW4G.out; omega))).oth HO6.out (by have := HGQ.out; omega)).nx HN7.out
          have hq7 : gq ≤ w7.heap.size := by have := HGQ.out; have := HS7.out.lt; omega
          have hl9 : ((unL z i).length : Int) ≤ 100000 := by rw [unL_len]; omega
          go_wp2_with (at_builtin; go_must (refine wpList_appS (f := fun f => fdV f fz) (k := 11) _ infoF Try.underlying22 rfl (by decide) (by decide) (fun _ => rfl) fd_one rfl _ _ rfl gq _ _ ⟨true, (Q : Int), [UInt8.ofNat ch]⟩ rfl HO7.out g7 rfl hk7 hl9 hq7 ?_; intro v8 w8 hown8 hbel8 hkeep8))
          have hx8 : Nx w1 w8 := Below.trans (B := w1.heap.size) HX7.out (hbel8.mono (by have := HGQ.out; have := HGS.out.1; omega))
          have hs8 : Blk w8 gs gs (sawU (ownsP (unL z (i + 1)))).toArray 32 := ⟨HS7.out.1, by rw [hbel8.block gs (by have := HGQ.out; omega)]; exact HS7.out.2⟩
          rw [← HFN.out, ← HL.out] at hown8
          have HO8 := Lib.hid hown8
          have HX8 := Lib.hid hx8
          have HS8 := Lib.hid hs8
          clear hown8 hbel8 hkeep8 hx8 hs8 hk7 hq7 hl9
          go_roundw
          case rel => exact ⟨i + 1, by go_num, HLT.out, by rw [HTW.out]; rfl, HO8.out, HS8.out, HX8.out⟩
          case measure => have := HLT.out; simp [intOf]; omega
      · have b1 : decide ((0 : Int) < (r : Int)) = false := decide_eq_false (by omega)
        have b2 : ¬ (0 : Int) < (r : Int) := by omega
        have b3 : decide (0 < r) = false := decide_eq_false hr0
        have HFN : Hid (unF x i = ⟨false, 0, [UInt8.ofNat ch]⟩) := by
          unfold Hid unF
          rw [hr3, if_neg b2, b1, hch]
        have HTW : Hid (twB (unL z (i + 1)) [] = T) := by
          unfold Hid
          rw [HL.out, twB_app, HT.out, HFN.out]
          simp
        obtain ⟨g7, hg7⟩ : ∃ g, w4.heap.size = g := ⟨_, rfl⟩
        obtain ⟨w7, hw7⟩ : ∃ x, w4.alloc (.cells #[.bool false, .int .i64 0, .int .i64 0, .string ⟨#[]⟩, .string ⟨#[UInt8.ofNat ch]⟩, .bool false, .int .i64 0, .int .i64 0, .int .u64 0, .string ⟨#[]⟩, .slice none 0 0] 39) = x := ⟨_, rfl⟩
        have hn7 : Nx w4 w7 := by rw [← hw7]; exact nx0 w4 _
        have HB7 : Hid (Blk w7 g7 g7 (fdV ⟨false, 0, [UInt8.ofNat ch]⟩ fz) 39) := by unfold Hid; rw [← hw7, ← hg7]; exact Blk.new w4 _ _
        have HS7 : Hid (Blk w7 gs gs (sawU (ownsP (unL z (i + 1)))).toArray 32) := by
          unfold Hid
          rw [HL.out, ownsP_app, HFN.out, if_neg (by simp), List.append_nil]
          exact (HS.out.below HN4.out).below hn7
        have HN7 := Lib.hid hn7
        have HX7 : Hid (Nx w1 w7) := (HX.out.trans HN4.out).trans hn7
        have v0 : w4.cell? ⟨g4, 0, none⟩ = some (.bool false) := HB4.out.cell 0
        have v1 : w4.cell? ⟨g4, 1, none⟩ = some (.int .i64 0) := HB4.out.cell 1
        have v2 : w4.cell? ⟨g4, 2, none⟩ = some (.int .i64 0) := HB4.out.cell 2
        have v3 : w4.cell? ⟨g4, 3, none⟩ = some (.string ⟨#[]⟩) := HB4.out.cell 3
        have v4 : w4.cell? ⟨g4, 4, none⟩ = some (.string ⟨#[UInt8.ofNat ch]⟩) := HB4.out.cell 4
        have v5 : w4.cell? ⟨g4, 5, none⟩ = some (.bool false) := HB4.out.cell 5
        have v6 : w4.cell? ⟨g4, 6, none⟩ = some (.int .i64 0) := HB4.out.cell 6
        have v7 : w4.cell? ⟨g4, 7, none⟩ = some (.int .i64 0) := HB4.out.cell 7
        have v8 : w4.cell? ⟨g4, 8, none⟩ = some (.int .u64 0) := HB4.out.cell 8
        have v9 : w4.cell? ⟨g4, 9, none⟩ = some (.string ⟨#[]⟩) := HB4.out.cell 9
        have v10 : w4.cell? ⟨g4, 10, none⟩ = some (.slice none 0 0) := HB4.out.cell 10
        have hc4 := HC4.out
        clear hr3 hn7
        have hk7 : ∀ j, j < 11 → w7.cell? ⟨g7, j, none⟩ = (fdV ⟨false, 0, [UInt8.ofNat ch]⟩ fz)[j]? := fun j hj => HB7.out.cell j
        have HO7 : Hid (OwnS (fun f => fdV f fz) 11 39 w7 gq (.slice A3 i m3) (unL z i)) := by
          unfold Hid
          exact HO.out.nx (HN4.out.trans HN7.out)
        have hq7 : gq ≤ w7.heap.size := by have := HGQ.out; have := HS7.out.lt; omega
        have hl9 : ((unL z i).length : Int) ≤ 100000 := by rw [unL_len]; omega
        go_wp2_with (at_builtin; go_must (refine wpList_appS (f := fun f => fdV f fz) (k := 11) _ infoF Try.underlying22 rfl (by decide) (by decide) (fun _ => rfl) fd_one rfl _ _ rfl gq _ _ ⟨false, 0, [UInt8.ofNat ch]⟩ rfl HO7.out g7 rfl hk7 hl9 hq7 ?_; intro v8 w8 hown8 hbel8 hkeep8))
        have hx8 : Nx w1 w8 := Below.trans (B := w1.heap.size) HX7.out (hbel8.mono (by have := HGQ.out; have := HGS.out.1; omega))
        have hs8 : Blk w8 gs gs (sawU (ownsP (unL z (i + 1)))).toArray 32 := ⟨HS7.out.1, by rw [hbel8.block gs (by have := HGQ.out; omega)]; exact HS7.out.2⟩
        rw [← HFN.out, ← HL.out] at hown8
        have HO8 := Lib.hid hown8
        have HX8 := Lib.hid hx8
        have HS8 := Lib.hid hs8
        clear hown8 hbel8 hkeep8 hx8 hs8 hk7 hq7 hl9
        go_roundw
        case rel => exact ⟨i + 1, by go_num, HLT.out, by rw [HTW.out], HO8.out, HS8.out, HX8.out⟩
        case measure => have := HLT.out; simp [intOf]; omega
    · have q1 : decide ((i : Int) < (n : Int)) = false := decide_eq_false (by omega)
      have q2 : ¬ (i : Int) < (n : Int) := by omega
      obtain rfl : i = n := by omega
      obtain ⟨A4, m4, e4, hm4, hm5, hr4⟩ := OwnS.sl (f := fun f => fdV f fz) (k := 11) (fun _ => rfl) HO.out
      rw [unL_len] at e4 hm4
      have hA : A4 = A3 := by injection e4 with h1 h2 h3; exact h1.symm
      have hmm : m4 = m3 := by injection e4 with h1 h2 h3; exact h3.symm
      subst hA hmm
      have hnm : ∀ f ∈ unL z i, f.nm.length ≤ maxLen := fun f hf => by
        obtain ⟨k, hk, rfl⟩ := List.mem_map.1 hf
        show 1 ≤ maxLen
        decide
      have hci := IDs_any wr A4 m4 (unL z i) (RdF.of hr4) (by rw [unL_len]; have := HN15.out; omega) (by rw [unL_len]; exact hm4) hm5 hnm
      unfold IdsR at hci
      rw [unL_len, un_ids HN15.out (fun x hx => (HWF.out x hx).1), HT.out] at hci
      clear e4 hm4 hm5 hr4 hnm hlt
      cases T with
      | true =>
        rw [if_pos rfl] at hci
        have HCI := Lib.hid hci
        clear hci
        go_wp2_with fail
        refine HCI.out.mono ?_; rintro e w3 ⟨v, rfl, ho3, hn3⟩
        obtain ⟨A5, m5, hv5, -⟩ := ho3.sl
        subst hv5
        have HX3 := Lib.hid (HX.out.trans hn3)
        clear ho3 hn3 HCI
        dsimp only [List.length]
        go_wp2_with fail
        go_ret
        exact ⟨rfl, HN1.out.trans HX3.out⟩
      | false =>
        rw [if_neg (by decide)] at hci
        obtain ⟨ids, hids⟩ : ∃ ids, numsP (unL z i) (-1) = ids := ⟨_, rfl⟩
        have hidl : ids.length = i := by rw [← hids, numsP_len, unL_len]
        have hnod : ids.Nodup := by
          have := idsP_nodup (unL z i) (-1) [] [] List.nodup_nil
          rw [un_ids HN15.out (fun x hx => (HWF.out x hx).1), HT.out, if_neg (by decide), hids] at this
          exact this
        have HND := Lib.hid hnod
        rw [hids] at hci
        have HCI := Lib.hid hci
        clear hci
        have HIL := Lib.hid hidl
        have HID := Lib.hid hids
        go_wp2_with fail
        refine HCI.out.mono ?_; rintro e w3 ⟨v, rfl, ho3, hn3⟩
        obtain ⟨A5, m5, hv5, hm5, hm6, hr5⟩ := ho3.sl
        rw [hidl] at hv5 hm5
        subst hv5
        have HR5 := Lib.hid hr5
        have HX3 := Lib.hid (HX.out.trans hn3)
        have HM5 : Hid (i ≤ m5 ∧ m5 ≤ maxLen) := ⟨hm5, hm6⟩
        have b1 : ((i : Int) != (i : Int)) = false := by simp
        clear ho3 hn3 HCI hids hidl hnod hr5 hm5 hm6
        dsimp only
        go_wp2_with fail
        go_loopw [10, 11] (fun v10 v11 wq => ∃ k : Nat, v11 = .int .i64 (k : Int) ∧ k ≤ i ∧ v10 = .int .i64 (nxP ((unL z i).take k) (-1) + 1) ∧ -1 - (k : Int) ≤ nxP ((unL z i).take k) (-1) ∧ nxP ((unL z i).take k) (-1) ≤ -1 ∧ Hid (Nx w3 wq)) (fun _ v _ => (i - intOf v).toNat)
        case atStart => exact ⟨0, rfl, Nat.zero_le _, rfl, by show (-1 : Int) - ((0 : Nat) : Int) ≤ -1; omega, by show (-1 : Int) ≤ -1; omega, Nx.refl _⟩
        case round =>
          obtain ⟨k, rfl, hk, rfl, hd1, hd2, HQ⟩ := hrel
          obtain ⟨d, hd⟩ : ∃ d, nxP ((unL z i).take k) (-1) = d := ⟨_, rfl⟩
          rw [hd] at hd1 hd2 ⊢
          by_cases hlt : k < i
          · have q3 : decide ((k : Int) < (i : Int)) = true := decide_eq_true (by omega)
            have q4 : (k : Int) < (i : Int) := by omega
            have q5 : (0 : Int) ≤ (k : Int) := by omega
            have hkz : k < z.length := by rw [HN.out]; exact hlt
            obtain ⟨x, hx⟩ : ∃ x, z[k] = x := ⟨_, rfl⟩
            have hx2 : 0 ≤ x ∧ x ≤ 65535 := HWF.out x (hx ▸ List.getElem_mem hkz)
            obtain ⟨g, off, rfl, hg, hc⟩ := (HR.out.below (HN1.out.trans (HX3.out.trans HQ.out))).at_ hkz
            rw [hx] at hc
            have hku : k < (unL z i).length := by rw [unL_len]; exact hlt
            have huk : (unL z i)[k] = unF x k := by
              unfold unL
              simp [List.getD, hkz, hx]
            have hki : k < ids.length := by rw [HIL.out]; exact hlt
            have hidk : ids[k] = fdN (unF x k) d := by
              have := numsP_get (unL z i) (-1) k hku
              rw [HID.out, List.getElem?_eq_getElem hki, huk, hd] at this
              exact Option.some.inj this
            obtain ⟨g5, o5, rfl, hg5, hc5⟩ := (HR5.out.below HQ.out).at_ hki
            rw [hidk] at hc5
            unfold iv at hc5
            have hnx : nxP ((unL z i).take (k + 1)) (-1) = fdX (unF x k) d := by
              have ht : (unL z i).take (k + 1) = (unL z i).take k ++ [(unL z i)[k]] := List.take_succ_eq_append_getElem hku
              rw [ht, nxP_app, hd, huk]
            have HLT := Lib.hid hlt
            have HNX := Lib.hid hnx
            obtain ⟨r, hr3⟩ : ∃ r : Nat, x % 3 = (r : Int) := ⟨(x % 3).toNat, by omega⟩
            have ht3 : x.tmod 3 = (r : Int) := by rw [Int.tmod_eq_emod_of_nonneg hx2.1, hr3]
            by_cases hr0 : 0 < r
            · have b5 : decide ((0 : Int) < (r : Int)) = true := decide_eq_true (by omega)
              have b2 : (0 : Int) < (r : Int) := by omega
              have b3 : decide (0 < r) = true := decide_eq_true hr0
              obtain ⟨q, hq⟩ : ∃ q : Nat, x % 299 = (q : Int) := ⟨(x % 299).toNat, by omega⟩
              have ht9 : x.tmod 299 = (q : Int) := by rw [Int.tmod_eq_emod_of_nonneg hx2.1, hq]
              obtain ⟨Q, hQ⟩ : ∃ Q : Nat, 1 + q = Q := ⟨_, rfl⟩
              have hQi : (1 : Int) + (q : Int) = (Q : Int) := by omega
              have b6 : ((Q : Int) != (Q : Int)) = false := by simp
              have hwq : IntKind.i64.wrap (q : Int) = (q : Int) := by rw [IntKind.wrap_i64]; omega
              have hwQ : IntKind.i64.wrap (Q : Int) = (Q : Int) := by rw [IntKind.wrap_i64]; omega
              have e1 : fdN (unF x k) d = (Q : Int) := by unfold fdN unF; rw [hr3, if_pos b2, hq, hQi, b5]; rfl
              have e2 : fdX (unF x k) d = d := by unfold fdX unF; rw [hr3, b5]; rfl
              rw [e1] at hc5
              rw [e2] at HNX
              clear e1 e2 hidk hx hkz hku huk hki hg hnx hq hr3 hd hlt hg5
              go_wp2_with fail
              go_quiet (fail)
              go_wp2_with fail
              go_roundw
              case rel => exact ⟨k + 1, by go_num, HLT.out, by rw [HNX.out], by rw [HNX.out]; omega, by rw [HNX.out]; omega, HQ.out.dr _⟩
              case measure => have := HLT.out; simp [intOf]; omega
            · have b5 : decide ((0 : Int) < (r : Int)) = false := decide_eq_false (by omega)
              have b2 : ¬ (0 : Int) < (r : Int) := by omega
              have b3 : decide (0 < r) = false := decide_eq_false hr0
              have b6 : (d != d) = false := by simp
              have b7 : d + 1 - 1 = d := by omega
              have e1 : fdN (unF x k) d = d := by unfold fdN unF; rw [hr3, b5]; rfl
              have e2 : fdX (unF x k) d = d - 1 := by unfold fdX unF; rw [hr3, b5]; rfl
              have hwd : IntKind.i64.wrap d = d := by rw [IntKind.wrap_i64]; omega
              rw [e1] at hc5
              rw [e2] at HNX
              clear e1 e2 hidk hx hkz hku huk hki hg hnx hr3 hd hlt hg5
              go_wp2_with fail
              go_roundw
              case rel => exact ⟨k + 1, by go_num, HLT.out, by rw [HNX.out, Int.sub_add_cancel], by rw [HNX.out]; omega, by rw [HNX.out]; omega, HQ.out⟩
              case measure => have := HLT.out; simp [intOf]; omega
          · have q3 : decide ((k : Int) < (i : Int)) = false := decide_eq_false (by omega)
            have q4 : ¬ (k : Int) < (i : Int) := by omega
            have HC : Hid (Calls Try.prog 11 #[.slice A5 i m5] wr fun e w' => ∃ gr o, e = .returned (.slice (some ⟨gr, 0, none⟩) i i) ∧ Ord (fun k => ids.getD k 0) i o ∧ Blk w' wr.heap.size gr ((o.map nv).toArray) 3 ∧ Nx wr w') := by
              have := Order_any wr A5 m5 ids (HR5.out.below HQ.out) (by rw [HIL.out]; have := HN15.out; omega) (by rw [HIL.out]; exact HM5.out.1) HM5.out.2
              unfold OrdR at this
              rw [HIL.out] at this
              exact this
            clear hd1 hd2 hd hlt
            go_wp2_with fail
            refine HC.out.mono ?_; rintro e w4 ⟨gr, o, rfl, ho, hb, hn4⟩
            have HOR := Lib.hid ho
            have HBR := Lib.hid hb
            have HX4 := Lib.hid (HX3.out.trans (HQ.out.trans hn4))
            have HR6 := Lib.hid ((HR5.out.below HQ.out).below hn4)
            clear ho hb hn4 HC q3 q4
            go_wp2_with fail
            go_loopw [13] (fun v wr => ∃ k : Nat, v = .int .i64 (k : Int) ∧ k ≤ i ∧ Hid (Nx w4 wr)) (fun v _ => (i - intOf v).toNat)
            case atStart => exact ⟨0, rfl, Nat.zero_le _, Nx.refl _⟩
            case round =>
              obtain ⟨j, rfl, hj, HT⟩ := hrel
              have hol : o.length = i := HOR.out.len
              by_cases hlt3 : j < i
              · have q3 : decide ((j : Int) < (i : Int)) = true := decide_eq_true (by omega)
                have q4 : (j : Int) < (i : Int) := by omega
                have q5 : (0 : Int) ≤ (j : Int) := by omega
                have hko : j < o.length := by rw [hol]; exact hlt3
                obtain ⟨x, hx⟩ : ∃ x, o[j] = x := ⟨_, rfl⟩
                have hxi : x < i := by rw [← hx]; exact HOR.out.get hko
                have hbr := HBR.out.below HT.out
                have cr : wr.cell? ⟨gr, j, none⟩ = some (.int .i64 (x : Int)) := by rw [hbr.cell j]; simp [hko, nv, hx]
                have d2 : decide ((i : Int) ≤ (x : Int)) = false := decide_eq_false (by omega)
                have d3 : ¬ (i : Int) ≤ (x : Int) := by omega
                have d4 : decide (i ≤ x) = false := decide_eq_false (by omega)
                have d5 : ¬ i ≤ x := by omega
                have d6 : decide ((x : Int) < 0) = false := decide_eq_false (by omega)
                have d7 : ¬ (x : Int) < 0 := by omega
                have x0 : (0 : Int) ≤ (x : Int) := by omega
                have x2 : (x : Int) < (i : Int) := by omega
                have HLT3 := Lib.hid hlt3
                by_cases hk0 : 0 < j
                · have k1 : decide ((0 : Int) < (j : Int)) = true := decide_eq_true (by omega)
                  have k2 : (0 : Int) < (j : Int) := by omega
                  have k3 : decide (0 < j) = true := decide_eq_true hk0
                  obtain ⟨jp, hjp⟩ : ∃ jp : Nat, jp + 1 = j := ⟨j - 1, by omega⟩
                  have jpi : (j : Int) - 1 = (jp : Int) := by omega
                  have jp0 : (0 : Int) ≤ (jp : Int) := by omega
                  have jp1 : (jp : Int) < (i : Int) := by omega
                  have hpo : jp < o.length := by omega
                  obtain ⟨p, hp⟩ : ∃ p, o[jp] = p := ⟨_, rfl⟩
                  have hpi : p < i := by rw [← hp]; exact HOR.out.get hpo
                  have hpx : p ≠ x := by rw [← hp, ← hx]; exact HOR.out.ne hpo hko (by omega)
                  have hrise : lx (fun q => ids.getD q 0) p x := by
                    have := HOR.out.rise (i := jp) (by omega)
                    simp only [hjp] at this
                    rw [hp, hx] at this
                    exact this
                  have cp : wr.cell? ⟨gr, jp, none⟩ = some (.int .i64 (p : Int)) := by rw [hbr.cell jp]; simp [hpo, nv, hp]
                  obtain ⟨gz, oz, rfl, hgz, hcz⟩ := (HR6.out.below HT.out) (by rw [HIL.out]; omega)
                  obtain ⟨X, hX⟩ : ∃ X, ids.getD p 0 = X := ⟨_, rfl⟩
                  obtain ⟨Y, hY⟩ : ∃ Y, ids.getD x 0 = Y := ⟨_, rfl⟩
                  have hpz : p < ids.length := by rw [HIL.out]; exact hpi
                  have hxz : x < ids.length := by rw [HIL.out]; exact hxi
                  have zp : wr.cell? ⟨gz, oz + p, none⟩ = some (.int .i64 X) := by rw [hcz p hpz, ← hX]; simp [iv, List.getD, hpz]
                  have zx : wr.cell? ⟨gz, oz + x, none⟩ = some (.int .i64 Y) := by rw [hcz x hxz, ← hY]; simp [iv, List.getD, hxz]
                  have p0 : (0 : Int) ≤ (p : Int) := by omega
                  have p1 : (p : Int) < (i : Int) := by omega
                  unfold lx at hrise
                  dsimp only at hrise
                  have hXY : X < Y := by
                    rcases hrise with h | ⟨h, -⟩
                    · rw [hX, hY] at h; exact h
                    · exfalso
                      have e1 : ids.getD p 0 = ids[p] := by simp [List.getD, hpz]
                      have e2 : ids.getD x 0 = ids[x] := by simp [List.getD, hxz]
                      rw [e1, e2] at h
                      have hnp := List.pairwise_iff_getElem.1 HND.out
                      rcases Nat.lt_or_gt_of_ne hpx with h1 | h1
                      · exact hnp p x hpz hxz h1 h
                      · exact hnp x p hxz hpz h1 h.symm
                  have e1 : decide (Y ≤ X) = false := decide_eq_false (by omega)
                  have e2 : ¬ Y ≤ X := by omega
                  clear hcz hX hY hpz hxz hpi hxi hbr hp hx hko hpo hol hgz hjp hrise hpx hXY hlt3
                  go_wp2_with fail
                  go_quiet (fail)
                  go_wp2_with fail
                  go_roundw
                  case rel => exact ⟨j + 1, by go_num, HLT3.out, HT.out.dr _⟩
                  case measure => have := HLT3.out; simp [intOf]; omega
                · have k1 : decide ((0 : Int) < (j : Int)) = false := decide_eq_false (by omega)
                  have k2 : ¬ (0 : Int) < (j : Int) := by omega
                  have k3 : decide (0 < j) = false := decide_eq_false hk0
                  clear hxi hbr hx hko hol hlt3
                  go_wp2_with fail
                  go_quiet (fail)
                  go_wp2_with fail
                  go_roundw
                  case rel => exact ⟨j + 1, by go_num, HLT3.out, HT.out.dr _⟩
                  case measure => have := HLT3.out; simp [intOf]; omega
              · have q3 : decide ((j : Int) < (i : Int)) = false := decide_eq_false (by omega)
                have q4 : ¬ (j : Int) < (i : Int) := by omega
                clear hol
                go_wp2_with fail
                go_ret
                exact ⟨rfl, HN1.out.trans (HX4.out.trans HT.out)⟩
end Go.Proofs.Ytpfecpcgdfbekaa
