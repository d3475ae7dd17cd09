/- The walk of AliasChain. -/
import Derived.Test.YtpfecpcgdfbekaaGreatDoorNAlY
import Derived.Test.YtpfecpcgdfbekaaGreatDoorNAlS
set_option linter.unusedVariables false
set_option linter.unusedSimpArgs false
namespace Go.Proofs.YtpfecpcgdfbekaaGreatDoor
open Go.RowKit

theorem ch_ext : ∀ j : Nat, j < 9 → (⟨#[97, 98, 99, 100, 101, 102, 103, 104, 105]⟩ : ByteArray).extract j (j + 1) = ⟨(chN j).toArray⟩ := fun j hj => by
  rcases (show j = 0 ∨ j = 1 ∨ j = 2 ∨ j = 3 ∨ j = 4 ∨ j = 5 ∨ j = 6 ∨ j = 7 ∨ j = 8 by omega) with rfl | rfl | rfl | rfl | rfl | rfl | rfl | rfl | rfl <;> rfl
theorem ch_get {k : Nat} {b : Option Nat} {deep : Bool} (hk0 : 0 < k) (hk : k ≤ 8) (hb : ∀ j, b = some j → j < k) : chB k b deep = true ∧ ∀ i, i ≤ k → (chS k b deep i).length ≤ 1000 ∧ (chX k b i).length ≤ 20 ∧ (chT k b deep i).length ≤ 20 := by
  obtain ⟨m, rfl⟩ : ∃ m, k = m + 1 := ⟨k - 1, by omega⟩
  have h1 : m ∈ List.range 8 := List.mem_range.2 (by omega)
  have h2 : b ∈ none :: (List.range (m + 1)).map some := by
    cases b with
    | none => simp
    | some j => simp; have := hb j rfl; omega
  have h3 : deep ∈ [true, false] := by cases deep <;> simp
  exact ⟨ch_all m h1 b h2 deep h3, fun i hi => ch_len m h1 b h2 deep h3 i (List.mem_range.2 (by omega))⟩
set_option maxRecDepth 100000 in
set_option maxHeartbeats 12800000 in
theorem AliasChain_walk (a b : Int) (deep : Bool) (w : World) (hkt : TabK w) (hm : MaxC w) (ha0 : 0 ≤ a) (ha1 : a ≤ 255) (hb0 : 0 ≤ b) (hb1 : b ≤ 255) :
    Calls Tryz.prog 4 #[.int .u8 a, .int .u8 b, .bool deep] w fun e w' => e = .returned (.bool true) ∧ Below w.heap.size w w' := by
  have HM := Lib.hid hm
  have HK := Lib.hid hkt
  have HBG := Lib.hid (albegun_any w hm hkt)
  obtain ⟨k0, hk1, hk8⟩ : ∃ k0 : Nat, a % 8 = (k0 : Int) ∧ k0 < 8 := ⟨(a % 8).toNat, by omega, by omega⟩
  have ht8 : a.tmod 8 = (k0 : Int) := by rw [Int.tmod_eq_emod_of_nonneg ha0, hk1]
  obtain ⟨k, hk⟩ : ∃ k, 1 + k0 = k := ⟨_, rfl⟩
  have hki : (1 : Int) + (k0 : Int) = (k : Int) := by omega
  have hkb : (k : Int) ≤ 8 := by omega
  have hk0 : (0 : Int) < (k : Int) := by omega
  have hkn0 : ¬ (k : Int) = 0 := by omega
  have hkp : (k : Int) - 1 = (k0 : Int) := by omega
  have hw1 : IntKind.i64.wrap (k0 : Int) = (k0 : Int) := by rw [IntKind.wrap_i64]; omega
  have hw2 : IntKind.i64.wrap (k : Int) = (k : Int) := by rw [IntKind.wrap_i64]; omega
  obtain ⟨r, hr1, hr3⟩ : ∃ r : Nat, b % 3 = (r : Int) ∧ r < 3 := ⟨(b % 3).toNat, by omega, by omega⟩
  have ht3 : b.tmod 3 = (r : Int) := by rw [Int.tmod_eq_emod_of_nonneg hb0, hr1]
  obtain ⟨q, hq1, hq9⟩ : ∃ q : Nat, b / 3 = (q : Int) ∧ q < 100 := ⟨(b / 3).toNat, by omega, by omega⟩
  have htd : b.tdiv 3 = (q : Int) := by rw [Int.tdiv_eq_ediv_of_nonneg hb0, hq1]
  have hwq : IntKind.i64.wrap (q : Int) = (q : Int) := by rw [IntKind.wrap_i64]; omega
  have hwq8 : IntKind.u8.wrap (q : Int) = (q : Int) := by simp [IntKind.wrap, IntKind.bits, IntKind.signed]; omega
  obtain ⟨J, hJ1⟩ : ∃ J, q % k = J := ⟨_, rfl⟩
  have hJk : J < k := by rw [← hJ1]; exact Nat.mod_lt _ (by omega)
  have htj : (q : Int).tmod (k : Int) = (J : Int) := by rw [← Int.ofNat_tmod, hJ1]
  obtain ⟨J1, hJ2⟩ : ∃ J1, J + 1 = J1 := ⟨_, rfl⟩
  have hJi : (J : Int) + 1 = (J1 : Int) := by omega
  have hJ0 : (0 : Int) ≤ (J : Int) := by omega
  have hJ9 : (J : Int) ≤ (J1 : Int) := by omega
  have hJ10 : (J1 : Int) ≤ 9 := by omega
  have hextJ : (⟨#[97, 98, 99, 100, 101, 102, 103, 104, 105]⟩ : ByteArray).extract J J1 = ⟨(chN J).toArray⟩ := by rw [← hJ2]; exact ch_ext J (by omega)
  obtain ⟨B, hB⟩ : ∃ B : Option Nat, B = if r = 0 then some J else none := ⟨_, rfl⟩
  have hall := ch_get (k := k) (b := B) (deep := deep) (by omega) (by omega) (fun j e => by rw [hB] at e; split at e <;> cases e; exact hJk)
  have HALL := Lib.hid hall
  have HBB := Lib.hid hB
  have HKN : Hid (0 < k ∧ k ≤ 8 ∧ 1 + k0 = k ∧ J < k ∧ r < 3) := ⟨by omega, by omega, hk, hJk, hr3⟩
  clear hm hkt hk1 hr1 hq1 hall hB hJ1 hJ2 hk
  go_enter Tryz.func4, Tryz.ntmps4
  go_wp2_with fail
  refine HBG.out.mono ?_; rintro e w0 ⟨rfl, hn0⟩
  have HN0 := Lib.hid hn0
  clear hn0 HBG
  go_wp2_with fail
  go_loopw [9, 10] (fun v9 v10 wr => ∃ i : Nat, v9 = .string ⟨(chS k B deep i).toArray⟩ ∧ v10 = .int .i64 (i : Int) ∧ i ≤ k ∧ Hid (Nx w0 wr)) (fun _ v _ => (k - intOf v).toNat)
  case atStart => exact ⟨0, rfl, rfl, Nat.zero_le _, Nx.refl _⟩
  case round =>
    obtain ⟨i, rfl, rfl, hi, HW⟩ := hrel
    by_cases hlt : i < k
    · have q1 : decide ((i : Int) < (k : Int)) = true := decide_eq_true (by omega)
      have q2 : (i : Int) < (k : Int) := by omega
      have q3 : (0 : Int) ≤ (i : Int) := by omega
      have HLT := Lib.hid hlt
      obtain ⟨I1, hI1⟩ : ∃ I1, i + 1 = I1 := ⟨_, rfl⟩
      obtain ⟨I2, hI2⟩ : ∃ I2, I1 + 1 = I2 := ⟨_, rfl⟩
      have hI1i : (i : Int) + 1 = (I1 : Int) := by omega
      have hI2i : (i : Int) + 2 = (I2 : Int) := by omega
      have hI12 : (I1 : Int) ≤ (I2 : Int) := by omega
      have hI01 : (i : Int) ≤ (I1 : Int) := by omega
      have hI10 : (0 : Int) ≤ (I1 : Int) := by omega
      have hI29 : (I2 : Int) ≤ 9 := by omega
      have hI19 : (I1 : Int) ≤ 9 := by omega
      have hext1 : (⟨#[97, 98, 99, 100, 101, 102, 103, 104, 105]⟩ : ByteArray).extract I1 I2 = ⟨(chN I1).toArray⟩ := by rw [← hI2]; exact ch_ext I1 (by omega)
      have hext0 : (⟨#[97, 98, 99, 100, 101, 102, 103, 104, 105]⟩ : ByteArray).extract i I1 = ⟨(chN i).toArray⟩ := by rw [← hI1]; exact ch_ext i (by omega)
      obtain ⟨ls1, lx1, lt1⟩ := HALL.out.2 i (by omega)
      have HXX : Hid (chX k B i = if i + 1 = k then chE B else chN (i + 1)) := rfl
      obtain ⟨X, hX⟩ : ∃ X, chX k B i = X := ⟨_, rfl⟩
      obtain ⟨T, hT⟩ : ∃ T, chT k B deep i = T := ⟨_, rfl⟩
      obtain ⟨S, hS⟩ : ∃ S, chS k B deep i = S := ⟨_, rfl⟩
      have HTT : Hid (T = if deep = true then [108, 105, 115, 116, 60] ++ X ++ [62] else X) := by unfold Hid; rw [← hT, ← hX]; rfl
      have HSS : Hid (chS k B deep (i + 1) = [116, 121, 112, 101, 100, 101, 102, 32] ++ T ++ [32] ++ chN i ++ [10] ++ S) := by unfold Hid; rw [← hT, ← hS]; rfl
      rw [hX] at HXX lx1
      rw [hT] at lt1
      rw [hS] at ls1 ⊢
      have HI1 : Hid (i + 1 = I1) := hI1
      have hcl : (chN i).length = 1 := rfl
      obtain ⟨C, hC⟩ : ∃ C, chN i = C := ⟨_, rfl⟩
      rw [hC] at hext0 hcl HSS
      have y0 : ¬ 9223372036854775807 < 5 + X.length := by omega
      have y00 : ¬ 9223372036854775807 < 5 + X.length + 1 := by omega
      have y1 : ¬ 9223372036854775807 < 8 + T.length := by omega
      have y2 : ¬ 9223372036854775807 < 8 + T.length + 1 := by omega
      have y3 : ¬ 9223372036854775807 < 8 + T.length + 1 + C.length := by omega
      have y4 : ¬ 9223372036854775807 < 8 + T.length + 1 + C.length + 1 := by omega
      have y5 : ¬ 9223372036854775807 < 8 + T.length + 1 + C.length + 1 + S.length := by omega
      have hsum : (⟨#[116, 121, 112, 101, 100, 101, 102, 32]⟩ : ByteArray) ++ ⟨T.toArray⟩ ++ ⟨#[32]⟩ ++ ⟨C.toArray⟩ ++ ⟨#[10]⟩ ++ ⟨S.toArray⟩ = ⟨(chS k B deep (i + 1)).toArray⟩ := by
        rw [HSS.out]
        exact ((((((Tx.of [116, 121, 112, 101, 100, 101, 102, 32]).app (Tx.of T)).app (Tx.of [32])).app (Tx.of C)).app (Tx.of [10])).app (Tx.of S)).eq
      have HSUM := Lib.hid hsum
      clear hsum hlt lx1 lt1 ls1 hX hT hS hI1 hI2 hC hcl
      have HLAST : Hid (i + 1 = k ↔ (i : Int) = (k0 : Int)) := by unfold Hid; have := HKN.out; omega
      by_cases hlast : (i : Int) = (k0 : Int)
      · have hXk : X = chE B := by rw [HXX.out, if_pos (HLAST.out.2 hlast)]
        obtain rfl : i = k0 := by omega
        have b1 : ((i : Int) == (i : Int)) = true := by simp
        clear hlast
        by_cases hr0 : r = 0
        · subst hr0
          have hXJ : X = chN J := by rw [hXk, HBB.out, if_pos rfl]; rfl
          rw [← hXJ] at hextJ
          have b2 : (((0 : Nat) : Int) == 0) = true := rfl
          rw [show ((0 : Nat) : Int) = 0 from rfl] at ht3
          clear hXk hXJ
          cases deep with
          | true =>
            have hdt : (⟨#[108, 105, 115, 116, 60]⟩ : ByteArray) ++ ⟨X.toArray⟩ ++ ⟨#[62]⟩ = ⟨T.toArray⟩ := by
              rw [HTT.out, if_pos rfl]
              exact (((Tx.of [108, 105, 115, 116, 60]).app (Tx.of X)).app (Tx.of [62])).eq
            go_wp2_with fail
            go_quiet (fail)
            go_wp2_with fail
            go_roundw
            case rel => exact ⟨i + 1, by rw [← HSUM.out], by go_num, HLT.out, HW.out.dr _⟩
            case measure => have := HLT.out; simp [intOf]; omega
          | false =>
            have hdt : T = X := by rw [HTT.out, if_neg (by decide)]
            subst hdt
            go_wp2_with fail
            go_quiet (fail)
            go_wp2_with fail
            go_roundw
            case rel => exact ⟨i + 1, by rw [← HSUM.out], by go_num, HLT.out, HW.out.dr _⟩
            case measure => have := HLT.out; simp [intOf]; omega
        · have b2 : ((r : Int) == 0) = false := by rw [beq_eq_false_iff_ne]; omega
          have b3 : ¬ (r : Int) = 0 := by omega
          have b4 : ¬ r = 0 := hr0
          have hXJ : X = [105, 51, 50] := by rw [hXk, HBB.out, if_neg hr0]; rfl
          have hlit : (⟨#[105, 51, 50]⟩ : ByteArray) = ⟨X.toArray⟩ := by rw [hXJ]
          clear hXk hXJ
          cases deep with
          | true =>
            have hdt : (⟨#[108, 105, 115, 116, 60]⟩ : ByteArray) ++ ⟨X.toArray⟩ ++ ⟨#[62]⟩ = ⟨T.toArray⟩ := by
              rw [HTT.out, if_pos rfl]
              exact (((Tx.of [108, 105, 115, 116, 60]).app (Tx.of X)).app (Tx.of [62])).eq
            go_wp2_with fail
            go_roundw
            case rel => exact ⟨i + 1, by rw [← HSUM.out], by go_num, HLT.out, HW.out⟩
            case measure => have := HLT.out; simp [intOf]; omega
          | false =>
            have hdt : T = X := by rw [HTT.out, if_neg (by decide)]
            subst hdt
            go_wp2_with fail
            go_roundw
            case rel => exact ⟨i + 1, by rw [← HSUM.out], by go_num, HLT.out, HW.out⟩
            case measure => have := HLT.out; simp [intOf]; omega
      · have b1 : ((i : Int) == (k0 : Int)) = false := by rw [beq_eq_false_iff_ne]; exact hlast
        have b2 : ¬ (i : Int) = (k0 : Int) := hlast
        have b3 : ¬ i = k0 := by omega
        have hXJ : X = chN I1 := by rw [HXX.out, if_neg (fun h => hlast (HLAST.out.1 h)), HI1.out]
        rw [← hXJ] at hext1
        clear hXJ
        cases deep with
        | true =>
          have hdt : (⟨#[108, 105, 115, 116, 60]⟩ : ByteArray) ++ ⟨X.toArray⟩ ++ ⟨#[62]⟩ = ⟨T.toArray⟩ := by
            rw [HTT.out, if_pos rfl]
            exact (((Tx.of [108, 105, 115, 116, 60]).app (Tx.of X)).app (Tx.of [62])).eq
          go_wp2_with fail
          go_roundw
          case rel => exact ⟨i + 1, by rw [← HSUM.out], by go_num, HLT.out, HW.out⟩
          case measure => have := HLT.out; simp [intOf]; omega
        | false =>
          have hdt : T = X := by rw [HTT.out, if_neg (by decide)]
          subst hdt
          go_wp2_with fail
          go_roundw
          case rel => exact ⟨i + 1, by rw [← HSUM.out], by go_num, HLT.out, HW.out⟩
          case measure => have := HLT.out; simp [intOf]; omega
    · have q1 : decide ((i : Int) < (k : Int)) = false := decide_eq_false (by omega)
      have q2 : ¬ (i : Int) < (k : Int) := by omega
      obtain rfl : i = k := by omega
      have hkb2 := HALL.out.1
      unfold chB at hkb2
      simp only [Bool.and_eq_true, decide_eq_true_eq] at hkb2
      obtain ⟨⟨⟨⟨⟨⟨⟨o1, o2⟩, o3⟩, o4⟩, o5⟩, o6⟩, p1⟩, p2⟩ := hkb2
      have hok : txqB [([120], chS i B deep i)] = true ∧ (loadW [120] [([120], chS i B deep i)]).e = 0 ∧ (loadW [120] [([120], chS i B deep i)]).file = [] ∧ (loadW [120] [([120], chS i B deep i)]).at_ = 0 ∧ (chL i B deep).names.length = 1 ∧ ldB (chL i B deep).names (chL i B deep).files = true := ⟨o1, o2, o3, o4, o5, o6⟩
      clear o1 o2 o3 o4 o5 o6
      have HOK := Lib.hid hok
      have P1 := Lib.hid p1
      have P2 := Lib.hid p2
      have HN0' := Lib.hid (HN0.out.trans HW.out)
      obtain ⟨S, hS⟩ : ∃ S, Hid (chS i B deep i = S) := ⟨_, rfl⟩
      rw [hS.out] at HOK ⊢
      clear hok p1 p2 hlt
      obtain ⟨gA, hgA⟩ : ∃ g, wr.heap.size = g := ⟨_, rfl⟩
      obtain ⟨w1, hw1⟩ : ∃ w1, wr.alloc (.cells #[.string ⟨#[120]⟩, .string ⟨S.toArray⟩] 33) = w1 := ⟨_, rfl⟩
      have hb1 : Blk w1 gA gA #[.string ⟨#[120]⟩, .string ⟨S.toArray⟩] 33 := by rw [← hw1, ← hgA]; exact Blk.new wr _ _
      have HN1 : Hid (Nx w w1) := by unfold Hid; rw [← hw1]; exact (HN0'.out).trans (nx0 _ _)
      have HB1 := Lib.hid hb1
      have hrd : RdW w1 (some ⟨gA, 0, none⟩) [([120], S)] := fun _ => ⟨gA, 0, rfl, HB1.out.lt, fun i hi => by
        have hi : i < 1 := hi
        obtain rfl : i = 0 := by omega
        exact ⟨HB1.out.cell 0, HB1.out.cell 1⟩⟩
      obtain ⟨o1, o2, o3, o4, o5, o6⟩ := HOK.out
      have HLO := Lib.hid (loadq_w w1 [120] _ 1 1 [([120], S)] rfl hrd o1 (by decide) (chL i B deep).names (chL i B deep).files 1 (by unfold chL; rw [hS.out]) (by unfold chL; rw [hS.out]) o2 o3 o4 o5 o6)
      clear hrd o1 o2 o3 o4 o5 o6 hb1
      go_wp2_with fail
      clear hw1 hgA
      refine HLO.out.mono ?_
      rintro e w2 ⟨nA, nc, fA, fc, rfl, hld, hn2⟩
      obtain ⟨g1, hg1⟩ : ∃ g, w2.heap.size = g := ⟨_, rfl⟩
      obtain ⟨w3, hw3⟩ : ∃ w3, w2.alloc (.cells #[.slice nA 1 nc, .slice fA 1 fc] 28) = w3 := ⟨_, rfl⟩
      have hb3 : Blk w3 g1 g1 #[.slice nA 1 nc, .slice fA 1 fc] 28 := by rw [← hw3, ← hg1]; exact Blk.new w2 _ _
      have hn3 : Nx w2 w3 := by rw [← hw3]; exact nx0 _ _
      have HLD3 := Lib.hid (hld.nx hn3)
      have HN3 := Lib.hid (HN1.out.trans (hn2.trans hn3))
      have a0 : w3.cell? ⟨g1, 0, none⟩ = some (.slice nA 1 nc) := hb3.cell 0
      have a1 : w3.cell? ⟨g1, 1, none⟩ = some (.slice fA 1 fc) := hb3.cell 1
      clear hld hn2 hn3 hb3 HLO
      go_wp2_with fail
      clear hw3 hg1
      refine (from_any w3 nA fA 1 nc 1 fc).mono ?_; rintro e w4 ⟨rfl, hn4⟩
      have HL4 := Lib.hid (HLD3.out.nx hn4)
      have HA4 := Lib.hid (HN3.out.trans hn4)
      clear hn4 a0 a1
      obtain ⟨⟨Pt, Pk, Pe⟩, hP⟩ : ∃ x, typP (chL i B deep).names (chL i B deep).files [120] [97] = x := ⟨_, rfl⟩
      have HPE : Hid (chA i B deep = (Pt, Pk, Pe)) := hP
      have hct := Type_any HL4.out (HM.out.nx HA4.out) (HK.out.nx HA4.out) [120] [97] P1.out
      rw [hP] at hct
      have HCT := Lib.hid hct
      clear hct hP
      go_wp2_with fail
      refine HCT.out.mono ?_; rintro e w5 ⟨rfl, hn5⟩
      have HA5 := Lib.hid (HA4.out.trans hn5)
      dsimp only
      clear hn5 HCT
      by_cases hr0 : r = 0
      · subst hr0
        rw [show ((0 : Nat) : Int) = 0 from rfl] at ht3
        have hB1 : B.isSome = true := by rw [HBB.out, if_pos rfl]; rfl
        have hp := P2.out
        rw [if_pos hB1, HPE.out] at hp
        have hp2 := of_decide_eq_true hp
        obtain ⟨rfl, h2⟩ := Prod.mk.inj hp2
        obtain ⟨rfl, rfl⟩ := Prod.mk.inj h2
        clear hp hp2 h2 hB1
        go_wp2_with fail
        go_ret
        exact ⟨rfl, HA5.out⟩
      · have b2 : ((r : Int) == 0) = false := by rw [beq_eq_false_iff_ne]; omega
        have b3 : ¬ (r : Int) = 0 := by omega
        have b4 : ¬ r = 0 := hr0
        have hB1 : ¬ B.isSome = true := by rw [HBB.out, if_neg hr0]; simp
        have hp := P2.out
        rw [if_neg hB1, HPE.out] at hp
        simp only [Bool.and_eq_true, decide_eq_true_eq] at hp
        obtain ⟨⟨h1, rfl⟩, h3⟩ := hp
        have H1 := Lib.hid h1
        have H3 := Lib.hid h3
        clear h1 h3 hB1
        cases deep with
        | true =>
          have hPt : Pt = chW i := by have := H1.out; simpa using this
          have hPk : Pk = 15 := by have := H3.out; simpa using this
          subst hPk
          have HPT := Lib.hid hPt
          clear hPt
          go_wp2_with fail
          go_loopw [19, 20] (fun v19 v20 wq => ∃ j : Nat, v19 = .string ⟨(chW j).toArray⟩ ∧ v20 = .int .i64 (j : Int) ∧ j ≤ i ∧ Hid (Nx w5 wq)) (fun _ v _ => (i - intOf v).toNat)
          case atStart => exact ⟨0, rfl, rfl, Nat.zero_le _, Nx.refl _⟩
          case round =>
            obtain ⟨j, rfl, rfl, hj, HQ⟩ := hrel
            by_cases hji : j < i
            · have j1 : decide ((j : Int) < (i : Int)) = true := decide_eq_true (by omega)
              have j2 : (j : Int) < (i : Int) := by omega
              have j3 : decide (j < i) = true := decide_eq_true hji
              have hwl := ch_wlen j (List.mem_range.2 (by have := HKN.out; omega))
              have HCW : Hid (chW (j + 1) = [108, 105, 115, 116, 60] ++ chW j ++ [62]) := rfl
              have HJI := Lib.hid hji
              obtain ⟨V, hV⟩ : ∃ V, chW j = V := ⟨_, rfl⟩
              rw [hV] at hwl HCW ⊢
              have y0 : ¬ 9223372036854775807 < 5 + V.length := by omega
              have y00 : ¬ 9223372036854775807 < 5 + V.length + 1 := by omega
              have HSM : Hid ((⟨#[108, 105, 115, 116, 60]⟩ : ByteArray) ++ ⟨V.toArray⟩ ++ ⟨#[62]⟩ = ⟨(chW (j + 1)).toArray⟩) := by
                unfold Hid
                rw [HCW.out]
                exact (((Tx.of [108, 105, 115, 116, 60]).app (Tx.of V)).app (Tx.of [62])).eq
              clear hV hwl hji HCW
              go_wp2_with fail
              go_roundw
              case rel => exact ⟨j + 1, by rw [← HSM.out], by go_num, HJI.out, HQ.out⟩
              case measure => have := HJI.out; simp [intOf]; omega
            · have j1 : decide ((j : Int) < (i : Int)) = false := decide_eq_false (by omega)
              have j2 : ¬ (j : Int) < (i : Int) := by omega
              have j3 : decide (j < i) = false := decide_eq_false hji
              obtain rfl : j = i := by omega
              rw [← HPT.out]
              have e1 : (Pt == Pt) = true := by simp
              clear hji
              go_wp2_with fail
              go_ret
              exact ⟨rfl, HA5.out.trans HQ.out⟩
        | false =>
          have hPt : Pt = [105, 51, 50] := by have := H1.out; simpa [chW] using this
          have hPk : ¬ Pk = 15 := by have := H3.out; simpa using this
          have hPi : ((Pk : Int) == 15) = false := by rw [beq_eq_false_iff_ne]; omega
          have hPj : ¬ (Pk : Int) = 15 := by omega
          subst hPt
          go_wp2_with fail
          go_loopw [19, 20] (fun v19 v20 wq => v19 = .string ⟨#[105, 51, 50]⟩ ∧ v20 = .int .i64 0 ∧ wq = w5) (fun _ v _ => 0)
          case atStart => exact ⟨rfl, rfl, rfl⟩
          case round =>
            obtain ⟨rfl, rfl, rfl⟩ := hrel
            go_wp2_with fail
            go_ret
            exact ⟨rfl, HA5.out⟩
end Go.Proofs.YtpfecpcgdfbekaaGreatDoor
