/- The walk of FieldAll. -/
import Derived.Test.YtpfecpcgdfbekaaFdM
import Derived.Test.YtpfecpcgdfbekaaFdN
set_option linter.unusedVariables false
set_option linter.unusedSimpArgs false
namespace Go.Proofs.Ytpfecpcgdfbekaa
open Go.RowKit

theorem idsP_len : ∀ (r : List Fd) (nx : Int) (ids : List Int) (ns : List (List UInt8)), (idsP r nx ids ns).1.length ≤ ids.length + r.length
  | [], _, _, _ => by simp [idsP]
  | f :: r, nx, ids, ns => by
    unfold idsP
    split
    · simp
    · split
      · simp
      · have := idsP_len r (fdX f nx) (ids ++ [fdN f nx]) (ns ++ [f.nm])
        simp only [List.length_append, List.length_cons, List.length_nil] at this ⊢
        omega
theorem rd_nv {w : World} {A : Option Addr} {o : List Nat} (h : Rd nv w A o) : Rd iv w A (o.map (fun k : Nat => (k : Int))) := fun h0 => by
  obtain ⟨b, off, e, hb, hc⟩ := h (by simpa using h0)
  refine ⟨b, off, e, hb, fun j hj => ?_⟩
  rw [List.length_map] at hj
  rw [hc j hj, List.getElem_map]; rfl
set_option maxRecDepth 100000 in
set_option maxHeartbeats 6400000 in
theorem FieldAll_walk (a0 : Option Addr) (fs : List Fd) (cap0 : Nat) (a1 : Option Addr) (z1 : List Int) (cap1 : Nat) (w : World) (hf : RdF w a0 fs) (hf1 : fs.length ≤ cap0) (hf2 : cap0 ≤ maxLen) (hf3 : ∀ f ∈ fs, f.nm.length ≤ maxLen)
    (hr : Rd iv w a1 z1) (hl : z1.length ≤ cap1) (hm : cap1 ≤ maxLen) :
    Calls Try.prog 3 #[.slice a0 fs.length cap0, .slice a1 z1.length cap1] w fun e w' => e = .returned (.bool true) ∧ Below w.heap.size w w' := by
  have HBG := Lib.hid (fdbegun_any w)
  have HF := Lib.hid hf
  have HR := Lib.hid hr
  have HF2 : Hid (fs.length ≤ cap0 ∧ cap0 ≤ maxLen ∧ ∀ f ∈ fs, f.nm.length ≤ maxLen) := ⟨hf1, hf2, hf3⟩
  have HR2 : Hid (z1.length ≤ cap1 ∧ cap1 ≤ maxLen) := ⟨hl, hm⟩
  obtain ⟨n, hn⟩ : ∃ n, fs.length = n := ⟨_, rfl⟩
  obtain ⟨m, hmm⟩ : ∃ m, z1.length = m := ⟨_, rfl⟩
  have HN := Lib.hid hn
  have HM := Lib.hid hmm
  rw [hn, hmm]
  clear hf hf1 hf2 hf3 hr hl hm hn hmm
  go_enter Try.func3, Try.ntmps3
  go_wp2_with fail
  refine HBG.out.mono ?_; rintro e w1 ⟨rfl, hn1⟩
  have HN1 := Lib.hid hn1
  clear hn1 HBG
  by_cases h20 : 20 < n
  · have q1 : decide ((20 : Int) < (n : Int)) = true := decide_eq_true (by omega)
    have q2 : (20 : Int) < (n : Int) := by omega
    have q3 : decide (20 < n) = true := decide_eq_true h20
    go_wp2_with fail
    go_ret
    exact ⟨rfl, HN1.out⟩
  have q1 : decide ((20 : Int) < (n : Int)) = false := decide_eq_false (by omega)
  have q2 : ¬ (20 : Int) < (n : Int) := by omega
  have q3 : decide (20 < n) = false := decide_eq_false h20
  by_cases h21 : 20 < m
  · have r1 : decide ((20 : Int) < (m : Int)) = true := decide_eq_true (by omega)
    have r2 : (20 : Int) < (m : Int) := by omega
    have r3 : decide (20 < m) = true := decide_eq_true h21
    go_wp2_with fail
    go_ret
    exact ⟨rfl, HN1.out⟩
  have r1 : decide ((20 : Int) < (m : Int)) = false := decide_eq_false (by omega)
  have r2 : ¬ (20 : Int) < (m : Int) := by omega
  have r3 : decide (20 < m) = false := decide_eq_false h21
  have H20 : Hid (n ≤ 20 ∧ m ≤ 20) := by unfold Hid; omega
  obtain ⟨⟨ids, e0⟩, hids⟩ : ∃ R, idsP fs (-1) [] [] = R := ⟨_, rfl⟩
  have C1 := IDs_any w1 a0 cap0 fs (HF.out.nx HN1.out) (by have := H20.out; have := HN.out; omega) HF2.out.1 HF2.out.2.1 HF2.out.2.2
  unfold IdsR at C1
  rw [hids, HN.out] at C1
  have HC1 := Lib.hid C1
  have HIDS := Lib.hid hids
  clear C1 h20 h21 hids
  go_wp2_with fail
  refine HC1.out.mono ?_; rintro e w2 ⟨v2, rfl, ho2, hn2⟩
  obtain ⟨A2, c2, rfl, -, -, hr2⟩ := ho2.sl
  have HX2 := Lib.hid (HN1.out.trans hn2)
  have HR5 := Lib.hid hr2
  have C2 := rids_any w2 a0 cap0 fs (HF.out.nx HX2.out) (by have := H20.out; have := HN.out; omega) HF2.out.1 HF2.out.2.1
  unfold IdsR at C2
  rw [HIDS.out, HN.out] at C2
  have HC2 := Lib.hid C2
  try dsimp only
  try dsimp only at HR5
  clear C2 ho2 hn2 hr2 HC1 q1 q2 q3 r1 r2 r3
  have hil : (ids.length : Int) ≤ 100 := by
    have := idsP_len fs (-1) [] []
    rw [HIDS.out] at this
    have h2 := H20.out.1
    have h3 := HN.out
    simp only [List.length_nil] at this
    omega
  have HIL := Lib.hid hil
  clear hil
  go_wp2_with fail
  refine HC2.out.mono ?_; rintro e w3 ⟨v3, rfl, ho3, hn3⟩
  obtain ⟨A3, c3, rfl, -, -, hr3⟩ := ho3.sl
  have HX3 := Lib.hid (HX2.out.trans hn3)
  try dsimp only
  try dsimp only at hr3
  have HS := Lib.hid (same_true w3 A2 A3 c2 c3 ids.length ids rfl (HR5.out.below hn3) hr3 (by have := HIL.out; omega))
  have b0 : (e0 == e0) = true := by simp
  clear ho3 hn3 hr3 HC2
  go_wp2_with fail
  refine HS.out.mono ?_; rintro e w4 ⟨rfl, hn4⟩
  have HX4 := Lib.hid (HX3.out.trans hn4)
  have C4 := Order_any w4 a1 cap1 z1 (HR.out.below HX4.out) (by rw [HM.out]; exact H20.out.2) HR2.out.1 HR2.out.2
  unfold OrdR at C4
  rw [HM.out] at C4
  have HC4 := Lib.hid C4
  clear C4 hn4 HS
  go_wp2_with fail
  refine HC4.out.mono ?_; rintro e w5 ⟨gr, o, rfl, ho, hb, hn5⟩
  have HX5 := Lib.hid (HX4.out.trans hn5)
  have HB5 := Lib.hid hb
  have HO5 := Lib.hid ho
  have C5 := rord_any w5 a1 cap1 z1 (HR.out.below HX5.out) (by rw [HM.out]; exact H20.out.2) HR2.out.1 HR2.out.2
  rw [HM.out] at C5
  have HC5 := Lib.hid C5
  clear C5 ho hb hn5 HC4
  go_wp2_with fail
  refine HC5.out.mono ?_; rintro e w6 ⟨A6, c6, o', rfl, ho', hr6, hn6⟩
  obtain rfl := HO5.out.uniq ho'
  have HX6 := Lib.hid (HX5.out.trans hn6)
  have hb6 : Rd iv w6 (some ⟨gr, 0, none⟩) (o.map (fun k : Nat => (k : Int))) := by
    refine Rd.blk (T := 3) (B := w4.heap.size) ?_
    rw [← nv_iv]
    exact HB5.out.below hn6
  have HS6 := Lib.hid (same_true w6 (some ⟨gr, 0, none⟩) A6 m c6 m (o.map (fun k : Nat => (k : Int))) (by rw [List.length_map]; exact HO5.out.len) hb6 (rd_nv hr6) (by have := H20.out; omega))
  clear ho' hr6 hn6 hb6 HC5
  go_wp2_with fail
  refine HS6.out.mono ?_; rintro e w7 ⟨rfl, hn7⟩
  have HX7 := Lib.hid (HX6.out.trans hn7)
  clear hn7 HS6
  go_wp2_with fail
  go_ret
  exact ⟨rfl, HX7.out⟩
end Go.Proofs.Ytpfecpcgdfbekaa
