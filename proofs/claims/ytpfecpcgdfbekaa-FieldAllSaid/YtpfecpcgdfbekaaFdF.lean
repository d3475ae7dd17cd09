/- The contract of field.IDs. -/
import Derived.Test.YtpfecpcgdfbekaaFdE
set_option linter.unusedVariables false
set_option linter.unusedSimpArgs false
namespace Go.Proofs.Ytpfecpcgdfbekaa
open Go.RowKit

/-- what else a field's cells hold -/
structure FdC where
  rq : Int
  ty : ByteArray
  hi : Bool
  k : Int
  n : Int
  d : Int
  s : ByteArray
  A : Option Addr
  l : Nat
  c : Nat
def fdV (f : Fd) (x : FdC) : Array Value := #[.bool f.has, .int .i64 f.id, .int .i64 x.rq, .string x.ty, st f.nm, .bool x.hi, .int .i64 x.k, .int .i64 x.n, .int .u64 x.d, .string x.s, .slice x.A x.l x.c]
/-- fields that lie: eleven cells each -/
def RdF (w : World) (A : Option Addr) (fs : List Fd) : Prop :=
  0 < fs.length → ∃ g off, A = some ⟨g, off, none⟩ ∧ g < w.heap.size ∧ ∀ i (h : i < fs.length), ∃ x, ∀ j, j < 11 → w.cell? ⟨g, off + i * 11 + j, none⟩ = (fdV fs[i] x)[j]?
theorem RdF.nx {w w' : World} {A : Option Addr} {fs : List Fd} (h : RdF w A fs) (hn : Nx w w') : RdF w' A fs := fun h0 => by
  obtain ⟨g, off, e, hg, hc⟩ := h h0
  refine ⟨g, off, e, Nat.lt_of_lt_of_le hg hn.size, fun i hi => ?_⟩
  obtain ⟨x, h1⟩ := hc i hi
  exact ⟨x, fun j hj => (hn.cell (p := ⟨g, off + i * 11 + j, none⟩) hg).trans (h1 j hj)⟩
/-- what IDs hands back -/
def IdsR (fs : List Fd) (w : World) (e : Ending) (w' : World) : Prop := ∃ v, e = .returned (.tuple #[v, .int .i64 (idsP fs (-1) [] []).2]) ∧ Own iv 3 w' w.heap.size v (idsP fs (-1) [] []).1 ∧ Nx w w'
set_option maxRecDepth 100000 in
set_option maxHeartbeats 6400000 in
theorem IDs_any (w : World) (A : Option Addr) (c : Nat) (fs : List Fd) (hr : RdF w A fs) (hn : fs.length ≤ 100) (hc1 : fs.length ≤ c) (hc2 : c ≤ maxLen) (hok : ∀ f ∈ fs, f.nm.length ≤ maxLen) :
    Calls Try.prog 8 #[.slice A fs.length c] w fun e w' => IdsR fs w e w' := by
  obtain ⟨R, hR⟩ : ∃ R, idsP fs (-1) [] [] = R := ⟨_, rfl⟩
  obtain ⟨n, hN⟩ : ∃ n, fs.length = n := ⟨_, rfl⟩
  unfold IdsR
  rw [hR]
  rw [hN] at hn hc1 ⊢
  have HN := Lib.hid hN
  have HR := Lib.hid hr
  have HOK := Lib.hid hok
  have HRR := Lib.hid hR
  have hni : (n : Int) ≤ 100 := by omega
  obtain ⟨gi, hgi⟩ : ∃ g, w.heap.size = g := ⟨_, rfl⟩
  obtain ⟨w1, hw1⟩ : ∃ x, w.alloc (.map #[] 0) = x := ⟨_, rfl⟩
  obtain ⟨gn, hgn⟩ : ∃ g, w1.heap.size = g := ⟨_, rfl⟩
  obtain ⟨w2, hw2⟩ : ∃ x, w1.alloc (.map #[] 0) = x := ⟨_, rfl⟩
  obtain ⟨gt, hgt⟩ : ∃ g, w2.heap.size = g := ⟨_, rfl⟩
  obtain ⟨w3, hw3⟩ : ∃ x, w2.alloc (.cells #[.map (some gi), .map (some gn)] 51) = x := ⟨_, rfl⟩
  have e1 : gn = gi + 1 := by rw [← hgn, ← hgi, ← hw1]; simp
  have e2 : gt = gn + 1 := by rw [← hgt, ← hgn, ← hw2]; simp
  have hi1 : MpG iv iv okI w1 gi (once ([] : List Int)) := by rw [← hw1, ← hgi]; exact MpG.nil_ _ _ _ _
  have hn1 : Nx w w1 := by rw [← hw1]; exact nx0 w _
  have hn2 : Nx w1 w2 := by rw [← hw2]; exact nx0 w1 _
  have hn3 : Nx w2 w3 := by rw [← hw3]; exact nx0 w2 _
  have hs2 : MpG st iv okN w2 gn (once ([] : List (List UInt8))) := by rw [← hw2, ← hgn]; exact MpG.nil_ _ _ _ _
  have hb3 : Blk w3 gt gt #[.map (some gi), .map (some gn)] 51 := by rw [← hw3, ← hgt]; exact Blk.new w2 _ _
  have HI := Lib.hid ((hi1.nx hn2).nx hn3)
  have HS := Lib.hid (hs2.nx hn3)
  have HB := Lib.hid hb3
  have HNX := Lib.hid (hn1.trans (hn2.trans hn3))
  have HG : Hid (w.heap.size = gi ∧ gn = gi + 1 ∧ gt = gn + 1) := ⟨hgi, e1, e2⟩
  have HQ : Hid (w3.heap.size = gt + 1) := by unfold Hid; rw [← hw3, ← hgt]; simp
  obtain ⟨gq, hgq⟩ : ∃ g, gt + 1 = g := ⟨_, rfl⟩
  rw [hgq] at HQ
  have HGQ := Lib.hid hgq
  clear hi1 hn1 hn2 hn3 hs2 hb3 hr hok hR hN e1 e2 hgq
  have hmm := @run_makeMap Try.prog
  go_enter Try.func8, Try.ntmps8
  go_upto_region 2 with (fail)
  clear hw1 hw2 hw3 hgi hgn hgt hmm
  go_wp2_with fail
  go_loopw [2, 5, 14] (fun v2 v5 v14 wr => ∃ (i : Nat) (ids : List Int) (ns : List (List UInt8)) (nx : Int), v14 = .int .i64 (i : Int) ∧ v5 = .int .i64 nx ∧ i ≤ n ∧ -1 - (i : Int) ≤ nx ∧ nx ≤ -1 ∧ Hid (ids.length = i ∧ Own iv 3 wr gq v2 ids ∧ MpG iv iv okI wr gi (once ids) ∧ MpG st iv okN wr gn (once ns) ∧ FrW gi gt w3 wr) ∧ Hid (idsP (fs.drop i) nx ids ns = R)) (fun _ _ v _ => (n - intOf v).toNat)
  case atStart => exact ⟨0, [], [], -1, rfl, rfl, Nat.zero_le _, by omega, by omega, ⟨rfl, Own.nil_, HI.out, HS.out, FrW.refl _ _ _⟩, HRR.out⟩
  case round =>
    obtain ⟨i, ids, ns, nx, rfl, rfl, hi, hx1, hx2, HH, HP⟩ := hrel
    obtain ⟨A2, m2, rfl, -⟩ := HH.out.2.1.sl
    by_cases hlt : i < n
    · have q1 : decide ((i : Int) < (n : Int)) = true := decide_eq_true (by omega)
      have q2 : (i : Int) < (n : Int) := by omega
      have q3 : (0 : Int) ≤ (i : Int) := by omega
      have hif : i < fs.length := by rw [HN.out]; exact hlt
      obtain ⟨f, hf⟩ : ∃ f, fs[i] = f := ⟨_, rfl⟩
      have hst := idsP_step hif hf nx ids ns
      rw [HP.out] at hst
      have HST := Lib.hid hst
      have HFN : Hid (f.nm.length ≤ maxLen) := HOK.out f (hf ▸ List.getElem_mem hif)
      have hnW : Nx w wr := HH.out.2.2.2.2.to HNX.out (by rw [HG.out.1]; exact Nat.le_refl _)
      obtain ⟨g, off, rfl, hg, hc⟩ := HR.out.nx hnW (by omega)
      obtain ⟨x, hV⟩ := hc i hif
      rw [hf] at hV
      obtain ⟨has, id, nm⟩ := f
      obtain ⟨xr, xt, xh, xk, xn, xd, xs, xA, xl, xc⟩ := x
      have c0 : wr.cell? ⟨g, off + i * 11, none⟩ = some (.bool has) := hV 0 (by decide)
      have c1 : wr.cell? ⟨g, off + i * 11 + 1, none⟩ = some (.int .i64 id) := hV 1 (by decide)
      have c2 : wr.cell? ⟨g, off + i * 11 + 2, none⟩ = some (.int .i64 xr) := hV 2 (by decide)
      have c3 : wr.cell? ⟨g, off + i * 11 + 3, none⟩ = some (.string xt) := hV 3 (by decide)
      have c4 : wr.cell? ⟨g, off + i * 11 + 4, none⟩ = some (.string ⟨nm.toArray⟩) := hV 4 (by decide)
      have c5 : wr.cell? ⟨g, off + i * 11 + 5, none⟩ = some (.bool xh) := hV 5 (by decide)
      have c6 : wr.cell? ⟨g, off + i * 11 + 6, none⟩ = some (.int .i64 xk) := hV 6 (by decide)
      have c7 : wr.cell? ⟨g, off + i * 11 + 7, none⟩ = some (.int .i64 xn) := hV 7 (by decide)
      have c8 : wr.cell? ⟨g, off + i * 11 + 8, none⟩ = some (.int .u64 xd) := hV 8 (by decide)
      have c9 : wr.cell? ⟨g, off + i * 11 + 9, none⟩ = some (.string xs) := hV 9 (by decide)
      have c10 : wr.cell? ⟨g, off + i * 11 + 10, none⟩ = some (.slice xA xl xc) := hV 10 (by decide)
      have HLT := Lib.hid hlt
      obtain ⟨gf, hgf⟩ : ∃ g, wr.heap.size = g := ⟨_, rfl⟩
      obtain ⟨w4, hw4⟩ : ∃ x, wr.alloc (.cells #[.bool has, .int .i64 id, .int .i64 xr, .string xt, .string ⟨nm.toArray⟩, .bool xh, .int .i64 xk, .int .i64 xn, .int .u64 xd, .string xs, .slice xA xl xc] 39) = x := ⟨_, rfl⟩
      have hb4 : Blk w4 gf gf #[.bool has, .int .i64 id, .int .i64 xr, .string xt, .string ⟨nm.toArray⟩, .bool xh, .int .i64 xk, .int .i64 xn, .int .u64 xd, .string xs, .slice xA xl xc] 39 := by rw [← hw4, ← hgf]; exact Blk.new wr _ _
      have hn4 : Nx wr w4 := by rw [← hw4]; exact nx0 wr _
      have HB4 := Lib.hid hb4
      have HN4 := Lib.hid hn4
      have d0 : w4.cell? ⟨gf, 0, none⟩ = some (.bool has) := hb4.cell 0
      have d1 : w4.cell? ⟨gf, 1, none⟩ = some (.int .i64 id) := hb4.cell 1
      have d4 : w4.cell? ⟨gf, 4, none⟩ = some (.string ⟨nm.toArray⟩) := hb4.cell 4
      clear hV hc hif hf hst hb4 hn4 hlt hnW
      cases has with
      | true =>
        by_cases hbad : id < 1 ∨ 32767 < id
        · have HX : Hid (R = ([], 5)) := by
            have h := HST.out
            rw [if_pos (by simp [fdBad]; omega)] at h
            exact h
          by_cases h1 : id < 1
          · have b1 : decide (id < 1) = true := decide_eq_true h1
            clear hbad
            go_wp2_with fail
            go_ret2
            rw [HX.out]
            exact ⟨_, rfl, Own.nil_, (HH.out.2.2.2.2.trans (FrW.nx HN4.out)).to HNX.out (by rw [HG.out.1]; exact Nat.le_refl _)⟩
          · have b1 : decide (id < 1) = false := decide_eq_false h1
            have h2 : 32767 < id := by omega
            have b2 : decide (32767 < id) = true := decide_eq_true h2
            clear hbad
            go_wp2_with fail
            go_ret2
            rw [HX.out]
            exact ⟨_, rfl, Own.nil_, (HH.out.2.2.2.2.trans (FrW.nx HN4.out)).to HNX.out (by rw [HG.out.1]; exact Nat.le_refl _)⟩
        have h1 : ¬ id < 1 := by omega
        have h2 : ¬ 32767 < id := by omega
        have b1 : decide (id < 1) = false := decide_eq_false h1
        have b2 : decide (32767 < id) = false := decide_eq_false h2
        have HGD : Hid (1 ≤ id ∧ id ≤ 32767) := by unfold Hid; omega
        clear hbad
        have HTK := Lib.hid (take_any w4 gi gt gi gn ids ns id nm (HH.out.2.2.1.nx HN4.out) (HH.out.2.2.2.1.nx HN4.out) (Nat.le_refl _) (by have := HG.out; omega) (by have := HG.out; omega) (by have := HH.out.2.2.2.2.size; have := HN4.out.size; have := HB.out.lt; omega) (by unfold okI; have := HGD.out; omega) HFN.out)
        have HOW : Hid (Own iv 3 w4 gq (.slice A2 ids.length m2) ids) := HH.out.2.1.below HN4.out
        have HFR : Hid (FrW gi gt w3 w4) := HH.out.2.2.2.2.trans (FrW.nx HN4.out)
        have hbt : Blk w4 gt gt #[.map (some gi), .map (some gn)] 51 := HFR.out.blk HB.out (Nat.le_refl _)
        have t0 : w4.cell? ⟨gt, 0, none⟩ = some (.map (some gi)) := hbt.cell 0
        have t1 : w4.cell? ⟨gt, 1, none⟩ = some (.map (some gn)) := hbt.cell 1
        clear hbt
        go_wp2_with fail
        refine HTK.out.mono ?_; rintro e w5 ⟨hfr, htk⟩
        have HF5 := Lib.hid (HFR.out.trans hfr)
        have HO5 := Lib.hid (hfr.own HOW.out (by have := HGQ.out; omega))
        clear t0 t1 d0 d1 d4 hfr HTK
        rcases htk with ⟨hin, rfl⟩ | ⟨hin, rfl, hmi, hms⟩
        · have HX : Hid (R = ([], 8)) := by
            have h := HST.out
            rw [if_neg (by simp [fdBad]; have := HGD.out; omega), if_pos (by simpa [fdN] using hin)] at h
            exact h
          clear hin
          go_wp2_with fail
          go_ret2
          rw [HX.out]
          exact ⟨_, rfl, Own.nil_, HF5.out.to HNX.out (by rw [HG.out.1]; exact Nat.le_refl _)⟩
        · have HX : Hid (R = idsP (fs.drop (i + 1)) nx (ids ++ [id]) (ns ++ [nm])) := by
            have h := HST.out
            rw [if_neg (by simp [fdBad]; have := HGD.out; omega), if_neg (by simpa [fdN] using hin)] at h
            exact h
          have HMI := Lib.hid hmi
          have HMS := Lib.hid hms
          have hl9 : (ids.length : Int) ≤ 100 := by have := HH.out.1; omega
          clear hin hmi hms
          have hg5 : gq ≤ w5.heap.size := by have := HF5.out.size; have := HQ.out; omega
          have HG5 := Lib.hid hg5
          go_wp2_with (at_builtin; go_must (refine wpList_app (f := iv) _ elI rfl _ _ rfl (fun _ => rfl) gq _ _ [id] rfl (HO5.out.alloc _) _ _ rfl (Rd.one rfl rfl) (by simp [maxLen]; omega) (by simp; omega) (by simp; omega) ?_; intro v' w6 hown6 hbel6))
          have hb56 : Below gq w5 w6 := ((Below.refl gq w5).alloc HG5.out _).trans hbel6
          have HO6 := Lib.hid hown6
          have HB56 := Lib.hid hb56
          clear hown6 hbel6 hb56 hg5
          go_roundw
          case rel =>
            refine ⟨i + 1, ids ++ [id], ns ++ [nm], nx, by go_num, rfl, HLT.out, by omega, by omega, ⟨by simp; exact HH.out.1, HO6.out, HMI.out.keep (HB56.out.block gi (by have := HGQ.out; have := HG.out; omega)), HMS.out.keep (HB56.out.block gn (by have := HGQ.out; have := HG.out; omega)), HF5.out.bel HB56.out (by rw [HQ.out]; exact Nat.le_refl _)⟩, HX.out.symm⟩
          case measure => have := HLT.out; simp [intOf]; omega
      | false =>
        have hwn : IntKind.i64.wrap (nx - 1) = nx - 1 := by rw [IntKind.wrap_i64]; omega
        have HTK := Lib.hid (take_any w4 gi gt gi gn ids ns nx nm (HH.out.2.2.1.nx HN4.out) (HH.out.2.2.2.1.nx HN4.out) (Nat.le_refl _) (by have := HG.out; omega) (by have := HG.out; omega) (by have := HH.out.2.2.2.2.size; have := HN4.out.size; have := HB.out.lt; omega) (by unfold okI; omega) HFN.out)
        have HOW : Hid (Own iv 3 w4 gq (.slice A2 ids.length m2) ids) := HH.out.2.1.below HN4.out
        have HFR : Hid (FrW gi gt w3 w4) := HH.out.2.2.2.2.trans (FrW.nx HN4.out)
        have hbt : Blk w4 gt gt #[.map (some gi), .map (some gn)] 51 := HFR.out.blk HB.out (Nat.le_refl _)
        have t0 : w4.cell? ⟨gt, 0, none⟩ = some (.map (some gi)) := hbt.cell 0
        have t1 : w4.cell? ⟨gt, 1, none⟩ = some (.map (some gn)) := hbt.cell 1
        clear hbt
        go_wp2_with fail
        refine HTK.out.mono ?_; rintro e w5 ⟨hfr, htk⟩
        have HF5 := Lib.hid (HFR.out.trans hfr)
        have HO5 := Lib.hid (hfr.own HOW.out (by have := HGQ.out; omega))
        clear t0 t1 d0 d1 d4 hfr HTK
        rcases htk with ⟨hin, rfl⟩ | ⟨hin, rfl, hmi, hms⟩
        · have HX : Hid (R = ([], 8)) := by
            have h := HST.out
            rw [if_neg (by simp [fdBad]), if_pos (by simpa [fdN] using hin)] at h
            exact h
          clear hin
          go_wp2_with fail
          go_ret2
          rw [HX.out]
          exact ⟨_, rfl, Own.nil_, HF5.out.to HNX.out (by rw [HG.out.1]; exact Nat.le_refl _)⟩
        · have HX : Hid (R = idsP (fs.drop (i + 1)) (nx - 1) (ids ++ [nx]) (ns ++ [nm])) := by
            have h := HST.out
            rw [if_neg (by simp [fdBad]), if_neg (by simpa [fdN] using hin)] at h
            exact h
          have HMI := Lib.hid hmi
          have HMS := Lib.hid hms
          have hl9 : (ids.length : Int) ≤ 100 := by have := HH.out.1; omega
          clear hin hmi hms
          have hg5 : gq ≤ w5.heap.size := by have := HF5.out.size; have := HQ.out; omega
          have HG5 := Lib.hid hg5
          go_wp2_with (at_builtin; go_must (refine wpList_app (f := iv) _ elI rfl _ _ rfl (fun _ => rfl) gq _ _ [nx] rfl (HO5.out.alloc _) _ _ rfl (Rd.one rfl rfl) (by simp [maxLen]; omega) (by simp; omega) (by simp; omega) ?_; intro v' w6 hown6 hbel6))
          have hb56 : Below gq w5 w6 := ((Below.refl gq w5).alloc HG5.out _).trans hbel6
          have HO6 := Lib.hid hown6
          have HB56 := Lib.hid hb56
          clear hown6 hbel6 hb56 hg5
          go_roundw
          case rel =>
            refine ⟨i + 1, ids ++ [nx], ns ++ [nm], nx - 1, by go_num, rfl, HLT.out, by omega, by omega, ⟨by simp; exact HH.out.1, HO6.out, HMI.out.keep (HB56.out.block gi (by have := HGQ.out; have := HG.out; omega)), HMS.out.keep (HB56.out.block gn (by have := HGQ.out; have := HG.out; omega)), HF5.out.bel HB56.out (by rw [HQ.out]; exact Nat.le_refl _)⟩, HX.out.symm⟩
          case measure => have := HLT.out; simp [intOf]; omega
    · have q1 : decide ((i : Int) < (n : Int)) = false := decide_eq_false (by omega)
      have q2 : ¬ (i : Int) < (n : Int) := by omega
      obtain rfl : i = n := by omega
      have HX : Hid (R = (ids, 0)) := by
        unfold Hid; rw [← HP.out, List.drop_of_length_le (by rw [HN.out]; exact Nat.le_refl _)]; rfl
      go_wp2_with fail
      go_ret2
      rw [HX.out]
      exact ⟨_, rfl, HH.out.2.1.less (by have := HG.out; have := HGQ.out; omega), HH.out.2.2.2.2.to HNX.out (by rw [HG.out.1]; exact Nat.le_refl _)⟩
end Go.Proofs.Ytpfecpcgdfbekaa
