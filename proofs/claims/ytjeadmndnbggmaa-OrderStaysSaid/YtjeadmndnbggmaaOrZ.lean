/- OrderStays: the law's walk. -/
import Derived.Test.YtjeadmndnbggmaaOrIs
import Derived.Test.YtjeadmndnbggmaaOrY
import Derived.Test.YtjeadmndnbggmaaOrYn
import Derived.Test.YtjeadmndnbggmaaOrR
import Derived.Deep.QuietTactic
import Derived.BigQuiet
import Derived.Deep.DeepCutAuto
import Derived.StillTailTactics
import Derived.Deep.CutBlock
set_option linter.unusedVariables false
set_option linter.unusedSimpArgs false
namespace Go.Proofs.Ytjeadmndnbggmaa
open Go.RowKit

def valZ : Value := .agg #[.int .i64 0, .int .i64 0, .string ⟨#[]⟩, .slice none 0 0, .slice none 0 0]
theorem infoV : (Try.prog.info? 29).map (fun i => (i.zero, i.size, i.bytes)) = some (some valZ, 5, 80) := by kernel_rfl
theorem leaf_one (k : Nat) (a : Int) : ∀ u ∈ (valA (leafS k a)).toList, u.oneCell' = true := fun u hu => by
  simp [valA, leafS] at hu
  rcases hu with rfl | rfl | rfl | rfl | rfl <;> rfl
theorem aS_one (z : List Int) : ∀ y ∈ aS z, ∀ u ∈ (valA y).toList, u.oneCell' = true := fun y hy => by
  obtain ⟨x, -, rfl⟩ := List.mem_map.1 hy
  exact leaf_one _ _
/-- a row turned, one value doubled: the same numbers -/
theorem turn_mem {q : List Int} {k : Nat} (h : k < q.length) : ∀ x, x ∈ q.drop k ++ q.take k ++ [q[k]] ↔ x ∈ q := fun x => by
  have e : ∀ x, x ∈ q ↔ x ∈ q.take k ∨ x ∈ q.drop k := fun x => by rw [← List.mem_append, List.take_append_drop]
  simp only [List.mem_append, List.mem_singleton]
  constructor
  · rintro ((h1 | h1) | h1)
    · exact (e x).2 (.inr h1)
    · exact (e x).2 (.inl h1)
    · rw [h1]; exact List.getElem_mem h
  · intro h1
    rcases (e x).1 h1 with h1 | h1
    · exact .inl (.inr h1)
    · exact .inl (.inl h1)
/-- what the operations of the region that make nothing hand on -/
def CZ (ga L c r : Nat) (Z : Int) : Nat → Option Value
  | 1 => some (.slice (some ⟨ga, 0, none⟩) L c)
  | 2 => some (.int .i64 (r : Int))
  | 3 => some (.slice (some ⟨ga, r * 5, none⟩) (L - r) (c - r))
  | 5 => some (.slice (some ⟨ga, 0, none⟩) L c)
  | 6 => some (.int .i64 (r : Int))
  | 7 => some (.slice (some ⟨ga, 0, none⟩) r c)
  | 9 => some (.slice (some ⟨ga, 0, none⟩) L c)
  | 10 => some (.int .i64 (r : Int))
  | 11 => some (.pointer (some ⟨ga, r * 5, none⟩))
  | 12 => some (.agg #[.int .i64 3, .int .i64 Z, .string ⟨#[]⟩, .slice none 0 0, .slice none 0 0])
  | _ => none
set_option maxRecDepth 100000 in
set_option maxHeartbeats 12800000 in
theorem OrderStays_of (hC : ∀ n, CmpC n) (hN : ∀ n, NormC n) (hI : ∀ n, IsC n) (hK : ∀ n, CopyC n) (a : Option Addr) (z : List Int) (cap : Nat) (b : Option Addr) (y : List Int) (capb : Nat) (w : World) (hr : Rd (Value.int .i8) w a z) (hl : z.length ≤ cap) (hm : cap ≤ maxLen) (hwf : ∀ n ∈ z, (Lit.int .i8 n).wf = true) (hr2 : Rd (Value.int .u8) w b y) (hl2 : y.length ≤ capb) (hm2 : capb ≤ maxLen) (hwf2 : ∀ n ∈ y, (Lit.int .u8 n).wf = true) :
    Calls Try.prog 3 #[.slice a z.length cap, .slice b y.length capb] w fun e w' => e = .returned (.bool true) ∧ Below w.heap.size w w' := by
  have HBG := Lib.hid (orbegun_of hC hN hI hK w)
  have HI := Lib.hid hI
  have HR := Lib.hid hr
  have HR2 := Lib.hid hr2
  have hwf3 : ∀ x ∈ z, -128 ≤ x ∧ x ≤ 127 := fun x hx => by
    have := hwf x hx
    simp [Lit.wf, IntKind.min, IntKind.max, IntKind.signed, IntKind.bits] at this
    omega
  have HWF := Lib.hid hwf3
  have hwf4 : ∀ x ∈ y, 0 ≤ x ∧ x ≤ 255 := fun x hx => by
    have := hwf2 x hx
    simp [Lit.wf, IntKind.min, IntKind.max, IntKind.signed, IntKind.bits] at this
    omega
  have HWF2 := Lib.hid hwf4
  obtain ⟨n, hn⟩ : ∃ n, z.length = n := ⟨_, rfl⟩
  have HZN := Lib.hid hn
  obtain ⟨m, hmm⟩ : ∃ n, y.length = n := ⟨_, rfl⟩
  have HYM := Lib.hid hmm
  rw [hn] at hl ⊢
  rw [hmm] at hl2 ⊢
  clear hr hwf hn hwf2 hwf3 hwf4 hmm hr2 hC hN hK hI
  go_enter Try.func3, Try.ntmps3
  go_wp2_with fail
  refine HBG.out.mono ?_; rintro e w1 ⟨rfl, hn1⟩
  have HN1 := Lib.hid hn1
  clear hn1 HBG
  by_cases h10 : 10 < n
  · have q1 : decide ((10 : Int) < (n : Int)) = true := decide_eq_true (by omega)
    have q2 : (10 : Int) < (n : Int) := by omega
    have q3 : decide (10 < n) = true := decide_eq_true h10
    go_wp2_with fail
    go_ret
    exact ⟨rfl, HN1.out⟩
  have q1 : decide ((10 : Int) < (n : Int)) = false := decide_eq_false (by omega)
  have q2 : ¬ (10 : Int) < (n : Int) := by omega
  have q3 : decide (10 < n) = false := decide_eq_false h10
  by_cases h20 : 20 < m
  · have r1 : decide ((20 : Int) < (m : Int)) = true := decide_eq_true (by omega)
    have r2 : (20 : Int) < (m : Int) := by omega
    have r3 : decide (20 < m) = true := decide_eq_true h20
    go_wp2_with fail
    go_ret
    exact ⟨rfl, HN1.out⟩
  have r1 : decide ((20 : Int) < (m : Int)) = false := decide_eq_false (by omega)
  have r2 : ¬ (20 : Int) < (m : Int) := by omega
  have r3 : decide (20 < m) = false := decide_eq_false h20
  have hn10 : (n : Int) ≤ 10 := by omega
  have hm20 : (m : Int) ≤ 20 := by omega
  have HN10 : Hid (n ≤ 10 ∧ m ≤ 20) := ⟨by omega, by omega⟩
  clear hl hm hl2 hm2
  go_upto_region 5 with (fail)
  clear q1 q2 q3 h10 r1 r2 r3 h20
  obtain ⟨gq, hgq⟩ : ∃ g, w1.heap.size = g := ⟨_, rfl⟩
  have HGQ := Lib.hid hgq
  clear hgq
  go_wp2_with fail
  go_loopw [5, 7] (fun v5 v7 wr => ∃ (i : Nat), v7 = .int .i64 (i : Int) ∧ i ≤ n ∧ Hid (i = 0 → v5 = .slice none 0 0) ∧ Hid (OwnS valA 5 29 wr gq v5 (aS (z.take i))) ∧ Hid (Nx w1 wr)) (fun _ v _ => (n - intOf v).toNat)
  case atStart => exact ⟨0, rfl, Nat.zero_le _, fun _ => rfl, OwnS.nil_ _ _, Nx.refl _⟩
  case round =>
    obtain ⟨i, rfl, hi, HZ0, HO, HX⟩ := hrel
    obtain ⟨A5, m5, hv5, -, -, -⟩ := OwnS.sl valA_size HO.out
    rw [hv5] at HO HZ0
    subst hv5
    have hti : (z.take i).length = i := by rw [List.length_take, HZN.out]; omega
    rw [aS_len, hti] at HO HZ0 ⊢
    clear hti
    by_cases hlt : i < n
    · have q1 : decide ((i : Int) < (n : Int)) = true := decide_eq_true (by omega)
      have q2 : (i : Int) < (n : Int) := by omega
      have q3 : (0 : Int) ≤ (i : Int) := by omega
      have hiz : i < z.length := by rw [HZN.out]; exact hlt
      obtain ⟨x, hx⟩ : ∃ x, z[i] = x := ⟨_, rfl⟩
      have hx2 : -128 ≤ x ∧ x ≤ 127 := HWF.out x (hx ▸ List.getElem_mem hiz)
      obtain ⟨g, off, rfl, hg, hc0⟩ := HR.out.at_ hiz
      have hc : wr.cell? ⟨g, off + i, none⟩ = some (.int .i8 x) := ((HN1.out.trans HX.out).cell (p := ⟨g, off + i, none⟩) hg).trans (by rw [hc0, hx])
      have HTK : Hid (z.take (i + 1) = z.take i ++ [x]) := by unfold Hid; rw [List.take_succ_eq_append_getElem hiz, hx]
      have HLT := Lib.hid hlt
      have hwx : wrap64 x = x := by simp only [wrap64]; omega
      clear hx hx2 hlt hiz hc0 hg
      obtain ⟨g6, hg6⟩ : ∃ g, wr.heap.size = g := ⟨_, rfl⟩
      obtain ⟨w6, hw6⟩ : ∃ y, wr.alloc (.cells #[.int .i64 3, .int .i64 x, .string ⟨#[]⟩, .slice none 0 0, .slice none 0 0] 29) = y := ⟨_, rfl⟩
      have hb6 : Blk w6 g6 g6 (rowL valA [leafS 3 x]).toArray 29 := by rw [← hw6, ← hg6]; exact Blk.new wr _ _
      have hn6 : Nx wr w6 := by rw [← hw6]; exact nx0 _ _
      have HO6 := Lib.hid (HO.out.nx hn6)
      have HX6 := Lib.hid (HX.out.trans hn6)
      have hy6 : ∀ j (h : j < [leafS 3 x].length) p, p < 5 → w6.cell? ⟨g6, 0 + j * 5 + p, none⟩ = (valA [leafS 3 x][j])[p]? := by
        obtain ⟨g', off', e, h1, h2⟩ := RdO.blk hb6 (by simp)
        simp only [Option.some.injEq, Addr.mk.injEq] at e
        obtain ⟨rfl, rfl, -⟩ := e
        exact h2
      have HY6 := Lib.hid hy6
      have hl6 : ((aS (z.take i)).length : Int) + ([leafS 3 x].length : Int) ≤ 100000 := by
        rw [aS_len, List.length_take]; have := HN10.out; have := HLT.out; have := HZN.out; simp only [List.length_cons, List.length_nil]; omega
      have HL6 := Lib.hid hl6
      have hq6 : gq ≤ w6.heap.size := by have := HGQ.out; have := HX6.out.size; omega
      have HQ6 := Lib.hid hq6
      clear hb6 hn6 hy6 hl6 hq6
      have HON : Hid (∀ y ∈ [leafS 3 x], ∀ u ∈ (valA y).toList, u.oneCell' = true) := aS_one [x]
      go_wp2_with (at_builtin; go_must (refine wpList_appO (f := valA) (k := 5) (z := valZ) _ infoV Try.underlying25 rfl (by decide) (by decide) (fun _ => rfl) rfl _ _ rfl gq (.slice A5 i m5) (aS (z.take i)) [leafS 3 x] HON.out rfl HO6.out g6 0 1 1 rfl rfl HY6.out HL6.out HQ6.out ?_; intro v7 w7 hown7 hbel7 hkeep7))
      have hx7 : Nx w1 w7 := Below.trans (B := w1.heap.size) HX6.out (hbel7.mono (by rw [HGQ.out]; exact Nat.le_refl _))
      have HO7 := Lib.hid hown7
      have HX7 := Lib.hid hx7
      clear hown7 hbel7 hkeep7 hx7 hw6 hg6 hc hwx
      go_wp2_with fail
      go_roundw
      case rel =>
        refine ⟨i + 1, by go_num, HLT.out, fun e => by omega, ?_, HX7.out⟩
        unfold Hid; rw [HTK.out]
        have : aS (z.take i ++ [x]) = aS (z.take i) ++ [leafS 3 x] := by unfold aS; rw [List.map_append]; rfl
        rw [this]; exact HO7.out
      case measure => have := HLT.out; simp [intOf]; omega
    · have q1 : decide ((i : Int) < (n : Int)) = false := decide_eq_false (by omega)
      have q2 : ¬ (i : Int) < (n : Int) := by omega
      obtain rfl : i = n := by omega
      rw [List.take_of_length_le (by rw [HZN.out]; exact Nat.le_refl _)] at HO
      clear hlt hi
      obtain ⟨gb, hgb⟩ : ∃ g, wr.heap.size = g := ⟨_, rfl⟩
      have HGB := Lib.hid hgb
      clear hgb
      go_upto_region 10 with (fail)
      go_cut [6] (fun v6 wx => ∃ (A6 : Option Addr) (c6 : Nat), v6 = .slice A6 i c6 ∧ Hid (∃ B, OwnS valA 5 29 wx B (.slice A6 i c6) (aS z)) ∧ Hid (Nx wr wx))
      case first =>
        by_cases hi0 : i = 0
        · subst hi0
          have he := HZ0.out rfl
          simp only [Value.slice.injEq] at he
          obtain ⟨rfl, -, rfl⟩ := he
          go_wp2_with fail
          go_meet
          case rel => exact ⟨none, 0, rfl, ⟨_, HO.out⟩, Nx.refl _⟩
        · obtain ⟨A, c, e, h1, -, hrs⟩ := OwnS.sl valA_size HO.out
          simp only [Value.slice.injEq] at e
          obtain ⟨rfl, -, rfl⟩ := e
          obtain ⟨ga, rfl, hga, hcs⟩ := hrs (by rw [aS_len, HZN.out]; omega)
          have HC : Hid (∀ j (h : j < (aS z).length) p, p < 5 → wr.cell? ⟨ga, 0 + j * 5 + p, none⟩ = (valA (aS z)[j])[p]?) := fun j h p hp => by rw [Nat.zero_add]; exact hcs j h p hp
          have HL : Hid (i = (aS z).length) := by unfold Hid; rw [aS_len, HZN.out]
          have HL6 : Hid ((([] : List ValS).length : Int) + ((aS z).length : Int) ≤ 100000) := by unfold Hid; rw [aS_len, HZN.out]; simp only [List.length_nil]; omega
          have HON : Hid (∀ y ∈ aS z, ∀ u ∈ (valA y).toList, u.oneCell' = true) := aS_one z
          have hq6 : gb ≤ wr.heap.size := by have := HGB.out; omega
          have HQ6 := Lib.hid hq6
          have HNI : Hid (OwnS valA 5 29 wr gb (.slice none 0 0) ([] : List ValS)) := OwnS.nil_ _ _
          clear h1 hrs hcs hq6 hga
          go_wp2_with (at_builtin; go_must (refine wpList_appO (f := valA) (k := 5) (z := valZ) _ infoV Try.underlying25 rfl (by decide) (by decide) (fun _ => rfl) rfl _ _ rfl gb (.slice none 0 0) [] (aS z) HON.out rfl HNI.out ga 0 i m5 HL.out rfl HC.out HL6.out HQ6.out ?_; intro v7 w7 hown7 hbel7 hkeep7))
          have HX7 : Hid (Nx wr w7) := hbel7.mono (by rw [HGB.out]; exact Nat.le_refl _)
          rw [List.nil_append] at hown7
          obtain ⟨A7, c7, hv7, -, -, -⟩ := OwnS.sl valA_size hown7
          rw [aS_len, HZN.out] at hv7
          subst hv7
          have HO7 := Lib.hid hown7
          clear hown7 hbel7 hkeep7
          go_wp2_with fail
          go_meet
          case rel => exact ⟨A7, c7, rfl, ⟨_, HO7.out⟩, HX7.out⟩
      case rest =>
        obtain ⟨A6, c6, rfl, HB6, HXC⟩ := hcut
        rename World => wl
        have HXL : Hid (Nx w1 wl) := HX.out.trans HXC.out
        have HOA : Hid (OwnS valA 5 29 wl gq (.slice A5 i m5) (aS z)) := HO.out.nx HXC.out
        clear HX HXC HO
        go_upto_block 2 with fail
        go_cut [6, 8] (fun v6 _ wx => ∃ (q : List Int) (A : Option Addr) (c : Nat), v6 = .slice A q.length c ∧ Hid (q.length ≤ 30 ∧ ∀ t, t ∈ q ↔ t ∈ z) ∧ Hid (∃ B, OwnS valA 5 29 wx B (.slice A q.length c) (aS q)) ∧ Hid (Nx wl wx))
        case first =>
          go_wp2_with fail
          go_loopw [6, 8] (fun v6 v8 wr => ∃ (j : Nat) (q : List Int) (A : Option Addr) (c : Nat), v8 = .int .i64 (j : Int) ∧ v6 = .slice A q.length c ∧ j ≤ m ∧ Hid (q.length ≤ i + j ∧ ∀ t, t ∈ q ↔ t ∈ z) ∧ Hid (∃ B, OwnS valA 5 29 wr B (.slice A q.length c) (aS q)) ∧ Hid (Nx wl wr)) (fun _ v _ => (m - intOf v).toNat)
          case atStart => exact ⟨0, z, A6, c6, rfl, by rw [HZN.out], Nat.zero_le _, ⟨by rw [HZN.out]; exact Nat.le_refl _, fun _ => Iff.rfl⟩, by rw [HZN.out]; exact HB6.out, Nx.refl _⟩
          case round =>
            obtain ⟨j, q, A, c, rfl, rfl, hj, HQ, HB, HX2⟩ := hrel
            obtain ⟨L, hL⟩ : ∃ L, q.length = L := ⟨_, rfl⟩
            have HLL := Lib.hid hL
            have hL30 : (L : Int) ≤ 30 := by have := HQ.out.1; have := HN10.out; omega
            rw [hL] at HB ⊢
            clear hL
            by_cases hlt : j < m
            · have q1 : decide ((j : Int) < (m : Int)) = true := decide_eq_true (by omega)
              have q2 : (j : Int) < (m : Int) := by omega
              by_cases hL0 : 0 < L
              · have b1 : decide ((0 : Int) < (L : Int)) = true := decide_eq_true (by omega)
                have b2 : (0 : Int) < (L : Int) := by omega
                have b3 : decide (0 < L) = true := decide_eq_true hL0
                have q3 : (0 : Int) ≤ (j : Int) := by omega
                have hjy : j < y.length := by rw [HYM.out]; exact hlt
                obtain ⟨x, hx⟩ : ∃ x, y[j] = x := ⟨_, rfl⟩
                have hx2 : 0 ≤ x ∧ x ≤ 255 := HWF2.out x (hx ▸ List.getElem_mem hjy)
                obtain ⟨g, off, rfl, hg, hc0⟩ := HR2.out.at_ hjy
                have hc : wr.cell? ⟨g, off + j, none⟩ = some (.int .u8 x) := ((HN1.out.trans (HXL.out.trans HX2.out)).cell (p := ⟨g, off + j, none⟩) hg).trans (by rw [hc0, hx])
                have hLn : ¬ (L : Int) = 0 := by omega
                obtain ⟨r, hr, hrL⟩ : ∃ r : Nat, x % (L : Int) = (r : Int) ∧ r < L := ⟨(x % (L : Int)).toNat, by have := Int.emod_nonneg x hLn; omega, by have := Int.emod_nonneg x hLn; have := Int.emod_lt_of_pos x b2; omega⟩
                have htm : x.tmod (L : Int) = (r : Int) := by rw [Int.tmod_eq_emod_of_nonneg hx2.1, hr]
                have hwx : wrap64 x = x := by simp only [wrap64]; omega
                have HLT := Lib.hid hlt
                have HRL := Lib.hid hrL
                clear hx hx2 hjy hc0 hg hr hlt
                go_upto_region 15 with (fail)
                clear hc hwx htm hLn b1 b3 q1 q2 q3
                obtain ⟨Bq, HBq⟩ : ∃ B, Hid (OwnS valA 5 29 wr B (.slice A L c) (aS q)) := HB.out
                obtain ⟨A', c', e, h1, -, hrs⟩ := OwnS.sl valA_size HBq.out
                simp only [Value.slice.injEq] at e
                obtain ⟨rfl, -, rfl⟩ := e
                obtain ⟨ga, rfl, hga, hcs⟩ := hrs (by rw [aS_len, HLL.out]; exact hL0)
                rw [aS_len, HLL.out] at h1
                have hrq : r < q.length := by rw [HLL.out]; exact hrL
                obtain ⟨Z, hZ⟩ : ∃ Z, q[r] = Z := ⟨_, rfl⟩
                have HCS : Hid (∀ wx, Nx wr wx → ∀ j (h : j < (aS q).length) p, p < 5 → wx.cell? ⟨ga, j * 5 + p, none⟩ = (valA (aS q)[j])[p]?) := fun wx hx j h p hp => (hx.cell (p := ⟨ga, j * 5 + p, none⟩) hga).trans (hcs j h p hp)
                have HCZ : Hid (∀ wx, Nx wr wx → ∀ p, p < 5 → wx.cell? ⟨ga, r * 5 + p, none⟩ = (valA (leafS 3 Z))[p]?) := fun wx hx p hp => by
                  have h := HCS.out wx hx r (by rw [aS_len]; exact hrq) p hp
                  rw [show (aS q)[r]'(by rw [aS_len]; exact hrq) = leafS 3 Z by unfold aS; rw [List.getElem_map, hZ]] at h
                  exact h
                have HTM : Hid (∀ t, t ∈ q.drop r ++ q.take r ++ [Z] ↔ t ∈ q) := by have := turn_mem hrq; rw [hZ] at this; exact this
                have k1 : (r : Int) ≤ (L : Int) := by omega
                have k2 : (r : Int) < (L : Int) := by omega
                have k3 : (L : Int) ≤ (c : Int) := by omega
                have k4 : (0 : Int) ≤ (r : Int) := by omega
                have n1 : r ≤ c := by omega
                have n2 : ¬ c = r := by omega
                have n3 : r ≤ L := by omega
                have n4 : ¬ L = r := by omega
                have n5 : (r : Int) ≤ (c : Int) := by omega
                clear hcs hga hrs h1 hrq hZ HB hrL
                refine RI.wp_region_Y (fun ls x w' => StV wr r (aS q) (leafS 3 Z) (CZ ga L c r Z) (.slice (some ⟨ga, 0, none⟩) L c) (fun j => ls.getD j false) x w') rfl (by kernel_rfl) (by kernel_rfl) ?_ ?_ ?_
                · have e : (fun j => (Array.replicate 16 false).getD j false) = fun _ => false := by
                    funext j
                    rw [Array.getD_eq_getD_getElem?]
                    cases h : (Array.replicate 16 false)[j]? with
                    | none => rfl
                    | some b =>
                      obtain ⟨h1, h2⟩ := Array.getElem?_eq_some_iff.1 h
                      simp at h2
                      simp [← h2]
                  show StV wr r (aS q) (leafS 3 Z) (CZ ga L c r Z) (.slice (some ⟨ga, 0, none⟩) L c) (fun j => (Array.replicate 16 false).getD j false) _ _
                  rw [e]
                  exact ⟨⟨Nx.drawn _, (fun _ _ _ h => by cases h), (fun h => by cases h), (fun h => by cases h), (fun h => by cases h), (fun h => by cases h), (fun h => by cases h), (fun h => by cases h)⟩, fun _ => by kernel_rfl⟩
                · refine ⟨?_, ?_, ?_, ?_, ?_, ?_, ?_, ?_, ?_, ?_, ?_, ?_, ?_, ?_, ?_, ?_, trivial⟩
                  · intro a x ls w' hS hsz hni hcl hin hout hd K hK
                    have n4 : ls.getD 4 false = false := hcl.not 16 4 0 (by kernel_rfl) hni
                    have n8 : ls.getD 8 false = false := hcl.not 16 8 0 (by kernel_rfl) hni
                    have n14 : ls.getD 14 false = false := hcl.not 16 14 0 (by kernel_rfl) hni
                    have := hK (w'.alloc (.cells #[] 29)) (.slice (some ⟨w'.heap.size, 0, none⟩) 0 0) (by refine StV.upd' (by rw [hsz]; decide) ?_; exact ⟨hS.1.mk0 n4 n8 n14 rfl, StV.stay hS.2 (by decide)⟩)
                    clear hin hout hd hcl hS hK
                    go_simp
                    exact this
                  · intro a x ls w' hS hsz hni hcl hin hout hd K hK
                    have n15 : ls.getD 15 false = false := hcl.not 16 15 1 (by kernel_rfl) hni
                    have o : a.eval (.tmp 6) = Value.slice (some ⟨ga, 0, none⟩) L c := (hin 6 15 (by kernel_rfl) (show 6 < 153 by decide)).trans (hS.2 n15)
                    have := hK w' (Value.slice (some ⟨ga, 0, none⟩) L c) (by refine StV.upd' (by rw [hsz]; decide) ?_; exact ⟨hS.1.const rfl (by decide) (by decide) (by decide) (by decide) (by decide) (by decide), StV.stay hS.2 (by decide)⟩)
                    rw [← o] at this
                    exact this
                  · intro a x ls w' hS hsz hni hcl hin hout hd K hK
                    have o : a.eval (.tmp 9) = Value.int .i64 (r : Int) := hout 9 (by kernel_rfl)
                    have := hK w' (Value.int .i64 (r : Int)) (by refine StV.upd' (by rw [hsz]; decide) ?_; exact ⟨hS.1.const rfl (by decide) (by decide) (by decide) (by decide) (by decide) (by decide), StV.stay hS.2 (by decide)⟩)
                    rw [← o] at this
                    exact this
                  · intro a x ls w' hS hsz hni hcl hin hout hd K hK
                    have y1 := hd ⟨1, .data⟩ (by simp) rfl
                    have i65 : a.tmps.getD 65 undef = Value.slice (some ⟨ga, 0, none⟩) L c := (hin 65 1 (by kernel_rfl) (show 65 < 153 by decide)).trans (hS.1.cs 1 _ rfl y1)
                    have ji65 := i65
                    rw [Array.getD_eq_getD_getElem?] at ji65
                    have y2 := hd ⟨2, .data⟩ (by simp) rfl
                    have i66 : a.tmps.getD 66 undef = Value.int .i64 (r : Int) := (hin 66 2 (by kernel_rfl) (show 66 < 153 by decide)).trans (hS.1.cs 2 _ rfl y2)
                    have ji66 := i66
                    rw [Array.getD_eq_getD_getElem?] at ji66
                    have := hK w' (Value.slice (some ⟨ga, r * 5, none⟩) (L - r) (c - r)) (by refine StV.upd' (by rw [hsz]; decide) ?_; exact ⟨hS.1.const rfl (by decide) (by decide) (by decide) (by decide) (by decide) (by decide), StV.stay hS.2 (by decide)⟩)
                    clear hin hout hd hcl hS hK
                    go_simp
                    exact this
                  · intro a x ls w' hS hsz hni hcl hin hout hd K hK
                    have y0 := hd ⟨0, .data⟩ (by simp) rfl
                    have i64 : a.eval (.tmp 64) = x 0 := hin 64 0 (by kernel_rfl) (show 64 < 153 by decide)
                    have y3 := hd ⟨3, .data⟩ (by simp) rfl
                    have i67 : a.eval (.tmp 67) = Value.slice (some ⟨ga, r * 5, none⟩) (L - r) (c - r) := (hin 67 3 (by kernel_rfl) (show 67 < 153 by decide)).trans (hS.1.cs 3 _ rfl y3)
                    have n4 : ls.getD 4 false = false := hcl.not 16 4 4 (by kernel_rfl) hni
                    have n8 : ls.getD 8 false = false := hcl.not 16 8 4 (by kernel_rfl) hni
                    have n14 : ls.getD 14 false = false := hcl.not 16 14 4 (by kernel_rfl) hni
                    have hsl : ((aS q).drop r).length = L - r := by rw [List.length_drop, aS_len, HLL.out]
                    refine op_appP w' (f := valA) (k := 5) (z := valZ) infoV Try.underlying25 rfl (by decide) (by decide) (fun _ => rfl) _ _ rfl wr.heap.size (x 0) [] ((aS q).drop r) (fun y hy => aS_one q y (List.mem_of_mem_drop hy)) i64 (hS.1.o0 y0 n4) ga (r * 5) (L - r) (c - r) hsl.symm i67 ?_ ?_ hS.1.nx.size ?_
                    · intro j hj p hp
                      have h := HCS.out w' hS.1.nx (r + j) (by rw [List.length_drop] at hj; omega) p hp
                      rw [List.getElem_drop, ← h, Nat.add_mul]
                    · rw [hsl]; simp only [List.length_nil]; omega
                    · intro v' w2 ho hg
                      rw [List.nil_append] at ho
                      exact hK w2 v' (by refine StV.upd' (by rw [hsz]; decide) ?_; exact ⟨hS.1.app4 y0 n4 n8 n14 rfl ho hg, StV.stay hS.2 (by decide)⟩)
                  · intro a x ls w' hS hsz hni hcl hin hout hd K hK
                    have n15 : ls.getD 15 false = false := hcl.not 16 15 5 (by kernel_rfl) hni
                    have o : a.eval (.tmp 6) = Value.slice (some ⟨ga, 0, none⟩) L c := (hin 6 15 (by kernel_rfl) (show 6 < 153 by decide)).trans (hS.2 n15)
                    have := hK w' (Value.slice (some ⟨ga, 0, none⟩) L c) (by refine StV.upd' (by rw [hsz]; decide) ?_; exact ⟨hS.1.const rfl (by decide) (by decide) (by decide) (by decide) (by decide) (by decide), StV.stay hS.2 (by decide)⟩)
                    rw [← o] at this
                    exact this
                  · intro a x ls w' hS hsz hni hcl hin hout hd K hK
                    have o : a.eval (.tmp 9) = Value.int .i64 (r : Int) := hout 9 (by kernel_rfl)
                    have := hK w' (Value.int .i64 (r : Int)) (by refine StV.upd' (by rw [hsz]; decide) ?_; exact ⟨hS.1.const rfl (by decide) (by decide) (by decide) (by decide) (by decide) (by decide), StV.stay hS.2 (by decide)⟩)
                    rw [← o] at this
                    exact this
                  · intro a x ls w' hS hsz hni hcl hin hout hd K hK
                    have y5 := hd ⟨5, .data⟩ (by simp) rfl
                    have i69 : a.tmps.getD 69 undef = Value.slice (some ⟨ga, 0, none⟩) L c := (hin 69 5 (by kernel_rfl) (show 69 < 153 by decide)).trans (hS.1.cs 5 _ rfl y5)
                    have ji69 := i69
                    rw [Array.getD_eq_getD_getElem?] at ji69
                    have y6 := hd ⟨6, .data⟩ (by simp) rfl
                    have i70 : a.tmps.getD 70 undef = Value.int .i64 (r : Int) := (hin 70 6 (by kernel_rfl) (show 70 < 153 by decide)).trans (hS.1.cs 6 _ rfl y6)
                    have ji70 := i70
                    rw [Array.getD_eq_getD_getElem?] at ji70
                    have := hK w' (Value.slice (some ⟨ga, 0, none⟩) r c) (by refine StV.upd' (by rw [hsz]; decide) ?_; exact ⟨hS.1.const rfl (by decide) (by decide) (by decide) (by decide) (by decide) (by decide), StV.stay hS.2 (by decide)⟩)
                    clear hin hout hd hcl hS hK
                    go_simp
                    exact this
                  · intro a x ls w' hS hsz hni hcl hin hout hd K hK
                    have y4 := hd ⟨4, .data⟩ (by simp) rfl
                    have i68 : a.eval (.tmp 68) = x 4 := hin 68 4 (by kernel_rfl) (show 68 < 153 by decide)
                    have y7 := hd ⟨7, .data⟩ (by simp) rfl
                    have i71 : a.eval (.tmp 71) = Value.slice (some ⟨ga, 0, none⟩) r c := (hin 71 7 (by kernel_rfl) (show 71 < 153 by decide)).trans (hS.1.cs 7 _ rfl y7)
                    have n8 : ls.getD 8 false = false := hcl.not 16 8 8 (by kernel_rfl) hni
                    have n14 : ls.getD 14 false = false := hcl.not 16 14 8 (by kernel_rfl) hni
                    have hsl : ((aS q).take r).length = r := by rw [List.length_take, aS_len, HLL.out]; omega
                    refine op_appP w' (f := valA) (k := 5) (z := valZ) infoV Try.underlying25 rfl (by decide) (by decide) (fun _ => rfl) _ _ rfl wr.heap.size (x 4) ((aS q).drop r) ((aS q).take r) (fun y hy => aS_one q y (List.mem_of_mem_take hy)) i68 (hS.1.o4 y4 n8) ga 0 r c hsl.symm i71 ?_ ?_ hS.1.nx.size ?_
                    · intro j hj p hp
                      have h := HCS.out w' hS.1.nx j (by rw [List.length_take] at hj; omega) p hp
                      rw [List.getElem_take, ← h, Nat.zero_add]
                    · rw [hsl, List.length_drop, aS_len, HLL.out]; omega
                    · intro v' w2 ho hg
                      exact hK w2 v' (by refine StV.upd' (by rw [hsz]; decide) ?_; exact ⟨hS.1.app8 y4 n8 n14 rfl ho hg, StV.stay hS.2 (by decide)⟩)
                  · intro a x ls w' hS hsz hni hcl hin hout hd K hK
                    have n15 : ls.getD 15 false = false := hcl.not 16 15 9 (by kernel_rfl) hni
                    have o : a.eval (.tmp 6) = Value.slice (some ⟨ga, 0, none⟩) L c := (hin 6 15 (by kernel_rfl) (show 6 < 153 by decide)).trans (hS.2 n15)
                    have := hK w' (Value.slice (some ⟨ga, 0, none⟩) L c) (by refine StV.upd' (by rw [hsz]; decide) ?_; exact ⟨hS.1.const rfl (by decide) (by decide) (by decide) (by decide) (by decide) (by decide), StV.stay hS.2 (by decide)⟩)
                    rw [← o] at this
                    exact this
                  · intro a x ls w' hS hsz hni hcl hin hout hd K hK
                    have o : a.eval (.tmp 9) = Value.int .i64 (r : Int) := hout 9 (by kernel_rfl)
                    have := hK w' (Value.int .i64 (r : Int)) (by refine StV.upd' (by rw [hsz]; decide) ?_; exact ⟨hS.1.const rfl (by decide) (by decide) (by decide) (by decide) (by decide) (by decide), StV.stay hS.2 (by decide)⟩)
                    rw [← o] at this
                    exact this
                  · intro a x ls w' hS hsz hni hcl hin hout hd K hK
                    have y9 := hd ⟨9, .data⟩ (by simp) rfl
                    have i73 : a.tmps.getD 73 undef = Value.slice (some ⟨ga, 0, none⟩) L c := (hin 73 9 (by kernel_rfl) (show 73 < 153 by decide)).trans (hS.1.cs 9 _ rfl y9)
                    have ji73 := i73
                    rw [Array.getD_eq_getD_getElem?] at ji73
                    have y10 := hd ⟨10, .data⟩ (by simp) rfl
                    have i74 : a.tmps.getD 74 undef = Value.int .i64 (r : Int) := (hin 74 10 (by kernel_rfl) (show 74 < 153 by decide)).trans (hS.1.cs 10 _ rfl y10)
                    have ji74 := i74
                    rw [Array.getD_eq_getD_getElem?] at ji74
                    have := hK w' (Value.pointer (some ⟨ga, r * 5, none⟩)) (by refine StV.upd' (by rw [hsz]; decide) ?_; exact ⟨hS.1.const rfl (by decide) (by decide) (by decide) (by decide) (by decide) (by decide), StV.stay hS.2 (by decide)⟩)
                    clear hin hout hd hcl hS hK
                    go_simp
                    exact this
                  · intro a x ls w' hS hsz hni hcl hin hout hd K hK
                    have y11 := hd ⟨11, .data⟩ (by simp) rfl
                    have i75 : a.tmps.getD 75 undef = Value.pointer (some ⟨ga, r * 5, none⟩) := (hin 75 11 (by kernel_rfl) (show 75 < 153 by decide)).trans (hS.1.cs 11 _ rfl y11)
                    have ji75 := i75
                    rw [Array.getD_eq_getD_getElem?] at ji75
                    have l0 : w'.cell? ⟨ga, r * 5, none⟩ = some (.int .i64 3) := HCZ.out w' hS.1.nx 0 (by decide)
                    have l1 : w'.cell? ⟨ga, r * 5 + 1, none⟩ = some (.int .i64 Z) := HCZ.out w' hS.1.nx 1 (by decide)
                    have l2 : w'.cell? ⟨ga, r * 5 + 2, none⟩ = some (.string ⟨#[]⟩) := HCZ.out w' hS.1.nx 2 (by decide)
                    have l3 : w'.cell? ⟨ga, r * 5 + 3, none⟩ = some (.slice none 0 0) := HCZ.out w' hS.1.nx 3 (by decide)
                    have l4 : w'.cell? ⟨ga, r * 5 + 4, none⟩ = some (.slice none 0 0) := HCZ.out w' hS.1.nx 4 (by decide)
                    have := hK w' (Value.agg #[.int .i64 3, .int .i64 Z, .string ⟨#[]⟩, .slice none 0 0, .slice none 0 0]) (by refine StV.upd' (by rw [hsz]; decide) ?_; exact ⟨hS.1.const rfl (by decide) (by decide) (by decide) (by decide) (by decide) (by decide), StV.stay hS.2 (by decide)⟩)
                    clear hin hout hd hcl hS hK
                    go_simp
                    exact this
                  · intro a x ls w' hS hsz hni hcl hin hout hd K hK
                    have y12 := hd ⟨12, .data⟩ (by simp) rfl
                    have i76 : a.tmps.getD 76 undef = Value.agg #[.int .i64 3, .int .i64 Z, .string ⟨#[]⟩, .slice none 0 0, .slice none 0 0] := (hin 76 12 (by kernel_rfl) (show 76 < 153 by decide)).trans (hS.1.cs 12 _ rfl y12)
                    have ji76 := i76
                    rw [Array.getD_eq_getD_getElem?] at ji76
                    have := hK (w'.alloc (.cells (valA (leafS 3 Z)) 29)) (.slice (some ⟨w'.heap.size, 0, none⟩) 1 1) (by refine StV.upd' (by rw [hsz]; decide) ?_; exact ⟨hS.1.mk13 rfl, StV.stay hS.2 (by decide)⟩)
                    clear hin hout hd hcl hS hK
                    go_simp
                    exact this
                  · intro a x ls w' hS hsz hni hcl hin hout hd K hK
                    have y8 := hd ⟨8, .data⟩ (by simp) rfl
                    have i72 : a.eval (.tmp 72) = x 8 := hin 72 8 (by kernel_rfl) (show 72 < 153 by decide)
                    have y13 := hd ⟨13, .data⟩ (by simp) rfl
                    obtain ⟨gz, z1, -, z3, z4, -⟩ := hS.1.o13 y13
                    have i77 : a.eval (.tmp 77) = .slice (some ⟨gz, 0, none⟩) 1 1 := (hin 77 13 (by kernel_rfl) (show 77 < 153 by decide)).trans z1
                    have n14 : ls.getD 14 false = false := hcl.not 16 14 14 (by kernel_rfl) hni
                    have n15 : ls.getD 15 false = false := hcl.not 16 15 14 (by kernel_rfl) hni
                    have y4 : ls.getD 4 false = true := by
                      have hz : 4 < ls.size := by rw [hsz]; decide
                      rcases h : ls.getD 4 true with _ | _
                      · have := hcl.not 16 8 4 (by kernel_rfl) h; rw [y8] at this; cases this
                      · simpa [hz] using h
                    refine op_appP w' (f := valA) (k := 5) (z := valZ) infoV Try.underlying25 rfl (by decide) (by decide) (fun _ => rfl) _ _ rfl wr.heap.size (x 8) ((aS q).drop r ++ (aS q).take r) [leafS 3 Z] (aS_one [Z]) i72 (hS.1.o8 y8 n14) gz 0 1 1 rfl i77 ?_ ?_ hS.1.nx.size ?_
                    · intro j hj p hp
                      obtain rfl : j = 0 := by simpa using hj
                      have h := z4 p hp
                      rw [show 0 + 0 * 5 + p = p by omega]; exact h
                    · rw [List.length_append, List.length_drop, List.length_take, aS_len, HLL.out]; simp only [List.length_cons, List.length_nil]; omega
                    · intro v' w2 ho hg
                      exact hK w2 v' (by refine StV.upd' (by rw [hsz]; decide) ?_; exact ⟨hS.1.app14 y4 y8 n14 n15 rfl ho hg, StV.stay hS.2 (by decide)⟩)
                  · intro a x ls w' hS hsz hni hcl hin hout hd K hK
                    have y14 := hd ⟨14, .data⟩ (by simp) rfl
                    have i78 : a.eval (.tmp 78) = x 14 := hin 78 14 (by kernel_rfl) (show 78 < 153 by decide)
                    have := hK w' (x 14) (by refine StV.upd' (by rw [hsz]; decide) ?_; exact ⟨hS.1.put15 rfl rfl, fun e => by rw [upB_eq] at e; cases e⟩)
                    rw [← i78] at this
                    exact this
                · intro A' x ls w' hS hall hin hout hA
                  have hown := hS.1.o14 (hall 14 (by decide))
                  have e15 := hS.1.o15 (hall 15 (by decide))
                  have hrow : (aS q).drop r ++ (aS q).take r ++ [leafS 3 Z] = aS (q.drop r ++ q.take r ++ [Z]) := by
                    unfold aS; rw [List.map_append, List.map_append, List.map_drop, List.map_take]; rfl
                  rw [hrow] at hown
                  obtain ⟨q2, hq2⟩ : ∃ q2, q.drop r ++ q.take r ++ [Z] = q2 := ⟨_, rfl⟩
                  have hq2l : q2.length = L + 1 := by
                    rw [← hq2, List.length_append, List.length_append, List.length_drop, List.length_take, HLL.out]; simp only [List.length_cons, List.length_nil]; omega
                  have HQ2 : Hid (q2.length = L + 1 ∧ ∀ t, t ∈ q2 ↔ t ∈ z) := ⟨hq2l, fun t => by rw [← hq2]; exact (HTM.out t).trans (HQ.out.2 t)⟩
                  rw [hq2] at hown
                  obtain ⟨A9, c9, e9, -, -, -⟩ := OwnS.sl valA_size hown
                  rw [aS_len] at e9
                  rw [e9] at hown e15
                  have HO9 := Lib.hid hown
                  have HX9 := Lib.hid (HX2.out.trans hS.1.nx)
                  have hA2 := hA.out
                  clear hA hin hout hall hown hrow hq2 hq2l hS e9
                  simp only [RI.setAll, List.toList_toArray, List.set_cons_succ, List.set_cons_zero, Nat.reduceAdd] at hA2
                  rw [e15] at hA2
                  subst hA2
                  clear e15
                  go_wp2_with fail
                  go_roundw
                  case rel => exact ⟨j + 1, q2, A9, c9, by go_num, rfl, HLT.out, ⟨by have := HQ2.out.1; have := HQ.out.1; have := HLL.out; omega, HQ2.out.2⟩, ⟨_, HO9.out⟩, HX9.out⟩
                  case measure => have := HLT.out; simp [intOf]; omega
              · have b1 : decide ((0 : Int) < (L : Int)) = false := decide_eq_false (by omega)
                have b2 : ¬ (0 : Int) < (L : Int) := by omega
                have b3 : decide (0 < L) = false := decide_eq_false hL0
                go_wp2_with fail
                go_meet
                case rel => exact ⟨q, A, c, by rw [HLL.out], ⟨by have := HQ.out.1; have := HN10.out; omega, HQ.out.2⟩, by rw [HLL.out]; exact HB.out, HX2.out⟩
            · have q1 : decide ((j : Int) < (m : Int)) = false := decide_eq_false (by omega)
              have q2 : ¬ (j : Int) < (m : Int) := by omega
              go_wp2_with fail
              go_meet
              case rel => exact ⟨q, A, c, by rw [HLL.out], ⟨by have := HQ.out.1; have := HN10.out; omega, HQ.out.2⟩, by rw [HLL.out]; exact HB.out, HX2.out⟩
        case rest =>
          obtain ⟨q, A, c, rfl, HQ, HB, HX2⟩ := hcut
          rename World => wx
          have HOA2 : Hid (OwnS valA 5 29 wx gq (.slice A5 i m5) (aS z)) := HOA.out.nx HX2.out
          have HXX : Hid (Nx w1 wx) := HXL.out.trans HX2.out
          have hsq : srt q = srt z := srt_iff HQ.out.2
          have HWQ : Hid (∀ x ∈ q, -128 ≤ x ∧ x ≤ 127) := fun x hx => HWF.out x ((HQ.out.2 x).1 hx)
          have HNA := Lib.hid (setN wx ⟨14, 0, [], .slice A5 i m5, .slice none 0 0⟩ z (set_rd HOA2.out) HWF.out (by rw [HZN.out]; have := HN10.out; omega))
          obtain ⟨SZ, hSZ⟩ : ∃ l, srt z = l := ⟨_, rfl⟩
          rw [hSZ] at HNA hsq
          have HSQ : Hid (srt q = SZ ∧ srt SZ = SZ ∧ SZ.length ≤ 10 ∧ (∀ x ∈ SZ, -128 ≤ x ∧ x ≤ 127) ∧ (z ≠ [] → SZ ≠ [])) := by
            refine ⟨hsq, by rw [← hSZ]; exact srt_twice z, ?_, fun x hx => HWF.out x ((srt_mem ..).1 (hSZ ▸ hx)), fun hz he => ?_⟩
            · have := srt_len z; rw [hSZ] at this; have := HN10.out; have := HZN.out; omega
            · obtain ⟨x, hx⟩ := List.exists_mem_of_ne_nil z hz
              have := (srt_mem ..).2 hx
              rw [hSZ, he] at this
              cases this
          clear hsq hSZ HXL HX2 HOA
          go_wp2_with fail
          refine HNA.out.mono ?_
          rintro e w3 ⟨⟨xk, xn, xs, xl, xd⟩, rfl, hrx, ⟨xA, xu, xc, rfl⟩, ⟨dA, du, dc, rfl⟩, hn3⟩
          have hrx0 := hrx
          obtain ⟨h1, h2, h3, hl, hd⟩ := hrx0
          dsimp only at h1 h2 h3 hl hd
          subst h1 h2 h3
          rw [valA_agg]
          obtain ⟨gx, hgx⟩ : ∃ g, w3.heap.size = g := ⟨_, rfl⟩
          obtain ⟨w4, hw4⟩ : ∃ y, w3.alloc (.cells #[.int .i64 14, .int .i64 0, .string ⟨#[]⟩, .slice xA xu xc, .slice dA du dc] 29) = y := ⟨_, rfl⟩
          have hb4 : Blk w4 gx gx #[.int .i64 14, .int .i64 0, .string ⟨#[]⟩, .slice xA xu xc, .slice dA du dc] 29 := by rw [← hw4, ← hgx]; exact Blk.new w3 _ _
          have hn4 : Nx w3 w4 := by rw [← hw4]; exact nx0 _ _
          have HB4 := Lib.hid hb4
          have HRX4 := Lib.hid (hrx.nx hn4)
          have HN4 := Lib.hid (HXX.out.trans (hn3.trans hn4))
          obtain ⟨BQ, HBQ⟩ : ∃ B, Hid (OwnS valA 5 29 wx B (.slice A q.length c) (aS q)) := HB.out
          have HNB := Lib.hid (setN w4 ⟨14, 0, [], .slice A q.length c, .slice none 0 0⟩ q (set_rd (HBQ.out.nx (hn3.trans hn4))) HWQ.out (by have := HQ.out.1; omega))
          rw [HSQ.out.1] at HNB
          clear hb4 hn3 hn4 hrx hl hd HNA HOA2 HB HBQ
          go_wp2_with fail
          clear hw4 hgx
          refine HNB.out.mono ?_
          rintro e w5 ⟨⟨yk, yn, ys, yl, yd⟩, rfl, hry, ⟨yA, yu, yc, rfl⟩, ⟨fA, fu, fc, rfl⟩, hn5⟩
          have hry0 := hry
          obtain ⟨h1, h2, h3, hl, hd⟩ := hry0
          dsimp only at h1 h2 h3 hl hd
          subst h1 h2 h3
          rw [valA_agg]
          obtain ⟨gy, hgy⟩ : ∃ g, w5.heap.size = g := ⟨_, rfl⟩
          obtain ⟨w6, hw6⟩ : ∃ y, w5.alloc (.cells #[.int .i64 14, .int .i64 0, .string ⟨#[]⟩, .slice yA yu yc, .slice fA fu fc] 29) = y := ⟨_, rfl⟩
          have hb6 : Blk w6 gy gy #[.int .i64 14, .int .i64 0, .string ⟨#[]⟩, .slice yA yu yc, .slice fA fu fc] 29 := by rw [← hw6, ← hgy]; exact Blk.new w5 _ _
          have hn6 : Nx w5 w6 := by rw [← hw6]; exact nx0 _ _
          have HBX := Lib.hid ((HB4.out.below hn5).below hn6)
          have HBY := Lib.hid hb6
          have HRX := Lib.hid ((HRX4.out.nx hn5).nx hn6)
          have HRY := Lib.hid (hry.nx hn6)
          have HN6 := Lib.hid (HN4.out.trans (hn5.trans hn6))
          have a0 : w6.cell? ⟨gx, 0, none⟩ = some (.int .i64 14) := HBX.out.cell 0
          have a1 : w6.cell? ⟨gx, 1, none⟩ = some (.int .i64 0) := HBX.out.cell 1
          have a2 : w6.cell? ⟨gx, 2, none⟩ = some (.string ⟨#[]⟩) := HBX.out.cell 2
          have a3 : w6.cell? ⟨gx, 3, none⟩ = some (.slice xA xu xc) := HBX.out.cell 3
          have a4 : w6.cell? ⟨gx, 4, none⟩ = some (.slice dA du dc) := HBX.out.cell 4
          have HNC := Lib.hid (setN w6 ⟨14, 0, [], .slice xA xu xc, .slice dA du dc⟩ SZ HRX.out HSQ.out.2.2.2.1 (by have := HSQ.out.2.2.1; omega))
          rw [HSQ.out.2.1, valA_agg] at HNC
          clear hb6 hn5 hn6 hry hl hd HNB HRX4 HB4
          go_wp2_with fail
          clear hw6 hgy a0 a1 a2 a3 a4
          refine HNC.out.mono ?_
          rintro e w7 ⟨⟨zk, zn, zs, zl, zd⟩, rfl, hrz, ⟨zA, zu, zc, rfl⟩, ⟨eA, eu, ec, rfl⟩, hn7⟩
          have hrz0 := hrz
          obtain ⟨h1, h2, h3, hl, hd⟩ := hrz0
          dsimp only at h1 h2 h3 hl hd
          subst h1 h2 h3
          rw [valA_agg]
          obtain ⟨gz, hgz⟩ : ∃ g, w7.heap.size = g := ⟨_, rfl⟩
          obtain ⟨w8, hw8⟩ : ∃ y, w7.alloc (.cells #[.int .i64 14, .int .i64 0, .string ⟨#[]⟩, .slice zA zu zc, .slice eA eu ec] 29) = y := ⟨_, rfl⟩
          have hb8 : Blk w8 gz gz #[.int .i64 14, .int .i64 0, .string ⟨#[]⟩, .slice zA zu zc, .slice eA eu ec] 29 := by rw [← hw8, ← hgz]; exact Blk.new w7 _ _
          have hn8 : Nx w7 w8 := by rw [← hw8]; exact nx0 _ _
          have HBX8 := Lib.hid ((HBX.out.below hn7).below hn8)
          have HBY8 := Lib.hid ((HBY.out.below hn7).below hn8)
          have HBZ8 := Lib.hid hb8
          have HRX8 := Lib.hid ((HRX.out.nx hn7).nx hn8)
          have HRY8 := Lib.hid ((HRY.out.nx hn7).nx hn8)
          have HRZ8 := Lib.hid (hrz.nx hn8)
          have HN8 := Lib.hid (HN6.out.trans (hn7.trans hn8))
          have a0 : w8.cell? ⟨gx, 0, none⟩ = some (.int .i64 14) := HBX8.out.cell 0
          have a1 : w8.cell? ⟨gx, 1, none⟩ = some (.int .i64 0) := HBX8.out.cell 1
          have a2 : w8.cell? ⟨gx, 2, none⟩ = some (.string ⟨#[]⟩) := HBX8.out.cell 2
          have a3 : w8.cell? ⟨gx, 3, none⟩ = some (.slice xA xu xc) := HBX8.out.cell 3
          have a4 : w8.cell? ⟨gx, 4, none⟩ = some (.slice dA du dc) := HBX8.out.cell 4
          have b0 : w8.cell? ⟨gy, 0, none⟩ = some (.int .i64 14) := HBY8.out.cell 0
          have b1 : w8.cell? ⟨gy, 1, none⟩ = some (.int .i64 0) := HBY8.out.cell 1
          have b2 : w8.cell? ⟨gy, 2, none⟩ = some (.string ⟨#[]⟩) := HBY8.out.cell 2
          have b3 : w8.cell? ⟨gy, 3, none⟩ = some (.slice yA yu yc) := HBY8.out.cell 3
          have b4 : w8.cell? ⟨gy, 4, none⟩ = some (.slice fA fu fc) := HBY8.out.cell 4
          clear hb8 hn7 hn8 hrz hl hd HNC HRX HRY HBX HBY HN6
          go_wp2_with fail
          clear hw8 hgz
          refine (Twins_any 2 w8 ⟨14, 0, [], .slice xA xu xc, .slice dA du dc⟩ ⟨14, 0, [], .slice yA yu yc, .slice fA fu fc⟩ _ _ HRX8.out HRY8.out).mono ?_
          rintro e w9 ⟨rfl, hn9⟩
          rw [twnV_self 2 _ HRX8.out.depth]
          have HN9 := Lib.hid (HN8.out.trans hn9)
          have HBX9 := Lib.hid (HBX8.out.below hn9)
          have HBZ9 := Lib.hid (HBZ8.out.below hn9)
          have HRX9 := Lib.hid (HRX8.out.nx hn9)
          have HRZ9 := Lib.hid (HRZ8.out.nx hn9)
          clear hn9 a0 a1 a2 a3 a4 b0 b1 b2 b3 b4 HBX8 HBY8 HRX8 HRY8 HBZ8 HRZ8
          have a0 : w9.cell? ⟨gx, 0, none⟩ = some (.int .i64 14) := HBX9.out.cell 0
          have a1 : w9.cell? ⟨gx, 1, none⟩ = some (.int .i64 0) := HBX9.out.cell 1
          have a2 : w9.cell? ⟨gx, 2, none⟩ = some (.string ⟨#[]⟩) := HBX9.out.cell 2
          have a3 : w9.cell? ⟨gx, 3, none⟩ = some (.slice xA xu xc) := HBX9.out.cell 3
          have a4 : w9.cell? ⟨gx, 4, none⟩ = some (.slice dA du dc) := HBX9.out.cell 4
          have b0 : w9.cell? ⟨gz, 0, none⟩ = some (.int .i64 14) := HBZ9.out.cell 0
          have b1 : w9.cell? ⟨gz, 1, none⟩ = some (.int .i64 0) := HBZ9.out.cell 1
          have b2 : w9.cell? ⟨gz, 2, none⟩ = some (.string ⟨#[]⟩) := HBZ9.out.cell 2
          have b3 : w9.cell? ⟨gz, 3, none⟩ = some (.slice zA zu zc) := HBZ9.out.cell 3
          have b4 : w9.cell? ⟨gz, 4, none⟩ = some (.slice eA eu ec) := HBZ9.out.cell 4
          go_wp2_with fail
          refine (Twins_any 2 w9 ⟨14, 0, [], .slice xA xu xc, .slice dA du dc⟩ ⟨14, 0, [], .slice zA zu zc, .slice eA eu ec⟩ _ _ HRX9.out HRZ9.out).mono ?_
          rintro e wA ⟨rfl, hnA⟩
          rw [twnV_self 2 _ HRX9.out.depth]
          have HNA := Lib.hid (HN9.out.trans hnA)
          have HBXA := Lib.hid (HBX9.out.below hnA)
          have HRXA := Lib.hid (HRX9.out.nx hnA)
          clear hnA a0 a1 a2 a3 a4 b0 b1 b2 b3 b4 HBX9 HBZ9 HRX9 HRZ9
          have a0 : wA.cell? ⟨gx, 0, none⟩ = some (.int .i64 14) := HBXA.out.cell 0
          have a1 : wA.cell? ⟨gx, 1, none⟩ = some (.int .i64 0) := HBXA.out.cell 1
          have a2 : wA.cell? ⟨gx, 2, none⟩ = some (.string ⟨#[]⟩) := HBXA.out.cell 2
          have a3 : wA.cell? ⟨gx, 3, none⟩ = some (.slice xA xu xc) := HBXA.out.cell 3
          have a4 : wA.cell? ⟨gx, 4, none⟩ = some (.slice dA du dc) := HBXA.out.cell 4
          have HIS := Lib.hid (isN HI.out wA ⟨14, 0, [], .slice xA xu xc, .slice dA du dc⟩ SZ HRXA.out HSQ.out.2.2.2.1 HSQ.out.2.1 HSQ.out.2.2.1)
          go_wp2_with fail
          refine HIS.out.mono ?_
          rintro e wB ⟨rfl, hnB⟩
          have HNB := Lib.hid (HNA.out.trans hnB)
          have HBXB := Lib.hid (HBXA.out.below hnB)
          have HLX := Lib.hid (HRXA.out.2.2.2.1.nx (fun _ _ h => RdV.nx hnB 1 h) hnB)
          clear hnB a0 a1 a2 a3 a4 HBXA HRXA HIS
          obtain ⟨M, hM⟩ : ∃ M, SZ.length = M := ⟨_, rfl⟩
          have HM := Lib.hid hM
          obtain ⟨hxu, hcell⟩ := RdL.leafN HLX.out
          rw [hM] at hxu
          have hxv := hxu.symm
          clear hxu
          subst hxv
          have HCE := Lib.hid hcell
          have hM10 : (M : Int) ≤ 10 := by have := HSQ.out.2.2.1; omega
          have HM10 := Lib.hid hM10
          clear hM hcell
          go_wp2_with fail
          go_loopw [16] (fun v wq => ∃ q : Nat, v = .int .i64 (q : Int) ∧ 1 ≤ q ∧ q ≤ M + 1 ∧ Hid (Nx wB wq)) (fun v _ => (M + 1 - intOf v).toNat)
          case atStart => exact ⟨1, rfl, Nat.le_refl _, by omega, Nx.refl _⟩
          case round =>
            obtain ⟨q, rfl, hq1, hq2, HQQ⟩ := hrel
            have a3 : _ = some (Value.slice xA M xc) := (HQQ.out.cell (p := ⟨gx, 3, none⟩) HBXB.out.lt).trans (HBXB.out.cell 3)
            by_cases hlt : q < M
            · have c1 : decide ((q : Int) < (M : Int)) = true := decide_eq_true (by omega)
              have c2 : (q : Int) < (M : Int) := by omega
              have c3 : decide (q < M) = true := decide_eq_true hlt
              obtain ⟨q0, hq0⟩ : ∃ q0, q0 + 1 = q := ⟨q - 1, by omega⟩
              have hqi : (q : Int) - 1 = (q0 : Int) := by omega
              have hj2 : q < SZ.length := by have := HM.out; omega
              obtain ⟨g, off, rfl, hg, hcs⟩ := HCE.out (by omega)
              have hk1 := hcs q0 (by omega)
              have hk2 := hcs q hj2
              obtain ⟨X, hX⟩ : ∃ X, SZ[q0] = X := ⟨_, rfl⟩
              obtain ⟨Y, hY⟩ : ∃ Y, SZ[q] = Y := ⟨_, rfl⟩
              have hup : SZ.Pairwise (· < ·) := by rw [← HSQ.out.2.1]; exact srt_up _
              have hXY : X < Y := by rw [← hX, ← hY]; exact List.pairwise_iff_getElem.1 hup q0 q (by omega) hj2 (by omega)
              rw [hX] at hk1
              rw [hY] at hk2
              have z1 := (HQQ.out.cell (p := ⟨g, off + q0 * 5 + 1, none⟩) hg).trans hk1
              have z2 := (HQQ.out.cell (p := ⟨g, off + q * 5 + 1, none⟩) hg).trans hk2
              have d1 : decide (Y ≤ X) = false := decide_eq_false (by omega)
              have d2 : ¬ Y ≤ X := by omega
              have d3 : (0 : Int) ≤ (q0 : Int) := by omega
              have d4 : (q0 : Int) < (M : Int) := by omega
              have d5 : (0 : Int) ≤ (q : Int) := by omega
              have d6 : (M : Int) ≤ 1000000 := by have := HM10.out; omega
              have HLT := Lib.hid hlt
              clear hk1 hk2 hX hY hXY hcs hg hj2 hq0 hlt hup
              go_wp2_with fail
              go_quiet (fail)
              go_wp2_with fail
              go_roundw
              case rel => exact ⟨q + 1, by go_num, by omega, by have := HLT.out; omega, HQQ.out.dr _⟩
              case measure => have := HLT.out; simp [intOf]; omega
            · have c1 : decide ((q : Int) < (M : Int)) = false := decide_eq_false (by omega)
              have c2 : ¬ (q : Int) < (M : Int) := by omega
              have c3 : decide (q < M) = false := decide_eq_false hlt
              clear hlt
              have HEND := Lib.hid (HN1.out.trans (HNB.out.trans HQQ.out))
              rcases Nat.eq_zero_or_pos M with rfl | hpos
              · have hz0 : i = 0 := by
                  have := HSQ.out.2.2.2.2
                  rcases Nat.eq_zero_or_pos i with h | h
                  · exact h
                  · exfalso
                    have hne : z ≠ [] := fun e => by have := HZN.out; rw [e] at this; simp at this; omega
                    exact this hne (List.length_eq_zero_iff.1 HM.out)
                subst hz0
                go_wp2_with fail
                go_ret
                exact ⟨rfl, HEND.out⟩
              · by_cases hn0 : i = 0
                · subst hn0
                  go_wp2_with fail
                  go_ret
                  exact ⟨rfl, HEND.out⟩
                · have g1 : ((i : Int) == 0) = false := by simp; omega
                  have g2 : (i == 0) = false := by simp; omega
                  have g3 : decide ((0 : Int) < (M : Int)) = true := decide_eq_true (by omega)
                  have g4 : (0 : Int) < (M : Int) := by omega
                  have g5 : decide (0 < M) = true := decide_eq_true hpos
                  go_wp2_with fail
                  go_ret
                  exact ⟨rfl, HEND.out⟩
theorem OrderStays_walk (a : Option Addr) (z : List Int) (cap : Nat) (b : Option Addr) (y : List Int) (capb : Nat) (w : World) (hr : Rd (Value.int .i8) w a z) (hl : z.length ≤ cap) (hm : cap ≤ maxLen) (hwf : ∀ n ∈ z, (Lit.int .i8 n).wf = true) (hr2 : Rd (Value.int .u8) w b y) (hl2 : y.length ≤ capb) (hm2 : capb ≤ maxLen) (hwf2 : ∀ n ∈ y, (Lit.int .u8 n).wf = true) :
    Calls Try.prog 3 #[.slice a z.length cap, .slice b y.length capb] w fun e w' => e = .returned (.bool true) ∧ Below w.heap.size w w' :=
  OrderStays_of Cmp_any Normal_any Is_any Copy_any a z cap b y capb w hr hl hm hwf hr2 hl2 hm2 hwf2
end Go.Proofs.Ytjeadmndnbggmaa
