/- Normal forms of values whose parts are numbers: order.Normal. -/
import Derived.Test.YtjeadmndnbggmaaOrSp
import Derived.Test.YtjeadmndnbggmaaOrSf
set_option linter.unusedVariables false
set_option linter.unusedSimpArgs false
namespace Go.Proofs.Ytjeadmndnbggmaa
open Go.RowKit

theorem Once.len {us xs : List ValS} (h : Once us xs) : us.length ≤ xs.length := by
  have e : us.map ky = srt (xs.map ky) := up_uniq (List.pairwise_map.2 h.1) (srt_up _) fun t => by
    rw [srt_mem]
    have := h.2.1 t
    simp only [List.mem_map]
    exact this
  have h1 : (us.map ky).length = us.length := List.length_map ..
  have h2 := srt_len (xs.map ky)
  rw [← e, h1, List.length_map] at h2
  exact h2
theorem range_getD {α : Type} (d : α) (l : List α) : (List.range l.length).map (fun k => l.getD k d) = l := by
  apply List.ext_getElem
  · simp
  · intro i h1 h2
    simp [List.getD, h2]
theorem RdO.oth {w w' : World} {A : Option Addr} {xs : List ValS} {b : Nat} (h : RdO w A xs) (ho : Oth b w w') (hb : ∀ g off, A = some ⟨g, off, none⟩ → g ≠ b) : RdO w' A xs := fun h0 => by
  obtain ⟨g, off, e, hg, hc⟩ := h h0
  refine ⟨g, off, e, Nat.lt_of_lt_of_le hg ho.size, fun i hi j hj => ?_⟩
  rw [← hc i hi j hj]
  unfold World.cell?
  rw [ho.block g hg (hb g off e)]
theorem rdl_of {w : World} {A : Option Addr} {c n : Nat} {us : List ValS} (h : RdO w A us) (hc : us.length ≤ c) (hm : c ≤ maxLen) (hok : ∀ x ∈ us, OkS x) (hn : n = 0 → us = []) : RdL (RdV n w) w (.slice A us.length c) (us.map lfV) := by
  refine ⟨A, c, us, by rw [List.length_map], by rw [List.length_map]; exact hc, hm, h, by rw [List.length_map], fun i h1 h2 => ?_⟩
  rw [List.getElem_map]
  cases n with
  | zero => have := hn rfl; subst this; cases h1
  | succ n => exact (hok _ (List.getElem_mem _)).rd n w
theorem own_rdl {w : World} {B n : Nat} {v : Value} {us : List ValS} (h : OwnS valA 5 29 w B v us) (hok : ∀ x ∈ us, OkS x) (hn : n = 0 → us = []) : RdL (RdV n w) w v (us.map lfV) ∧ IsSlv v := by
  obtain ⟨A, c, e, h1, h2, h3⟩ := OwnS.sl valA_size h
  subst e
  refine ⟨rdl_of (fun h0 => ?_) h1 h2 hok hn, ⟨_, _, _, rfl⟩⟩
  obtain ⟨g, e, hg, hc⟩ := h3 h0
  exact ⟨g, 0, e, hg, fun i hi j hj => by rw [Nat.zero_add]; exact hc i hi j hj⟩
theorem own_rdi {w : World} {B : Nat} {v : Value} {is : List Int} (h : OwnS fI 1 3 w B v is) : RdI w v is ∧ IsSlv v := by
  obtain ⟨A, c, e, h1, h2, h3⟩ := OwnS.sl fI_size h
  subst e
  refine ⟨⟨A, c, rfl, h1, h2, fun h0 => ?_⟩, ⟨_, _, _, rfl⟩⟩
  obtain ⟨g, e, hg, hc⟩ := h3 h0
  refine ⟨g, 0, e, hg, fun i hi => ?_⟩
  have := hc i hi 0 (by decide)
  rw [Nat.mul_one, Nat.add_zero] at this
  rw [Nat.zero_add, this]; rfl
theorem set_c {n : Nat} {l : List Val} (h : n = 0 → l = []) : setV (cmpV n) l = setV (cmpV (n - 1 + 1)) l := by
  cases n with
  | zero => rw [h rfl]; rfl
  | succ n => rfl
theorem map_c {n : Nat} {l : List Val} (h : n = 0 → l = []) : mapV (cmpV n) [] l = mapV (cmpV (n - 1 + 1)) [] l := by
  cases n with
  | zero => rw [h rfl]; rfl
  | succ n => rfl
theorem flat_lf : ∀ acc : List (ValS × ValS), flatV (acc.map lf2) = (flatS acc).map lfV
  | [] => rfl
  | p :: r => by
    show lfV p.1 :: lfV p.2 :: flatV (r.map lf2) = lfV p.1 :: lfV p.2 :: (flatS r).map lfV
    rw [flat_lf r]
theorem prs_flat {xs : List ValS} {m : Nat} (h : xs.length = 2 * m) : flatS (prsS xs m) = xs := by
  apply List.ext_getElem?
  intro j
  have key : ∀ (m : Nat) (j : Nat), j < 2 * m → (flatS ((List.range m).map (prS xs)))[j]? = some (xs.getD j zeroS) := by
    intro m
    induction m with
    | zero => intro j hj; omega
    | succ m ih =>
      intro j hj
      have hl : (flatS ((List.range m).map (prS xs))).length = 2 * m := by rw [flatS_len, List.length_map, List.length_range]
      rw [List.range_succ, List.map_append, flatS_app]
      rcases Nat.lt_or_ge j (2 * m) with h1 | h1
      · rw [List.getElem?_append_left (by omega), ih j h1]
      · rw [List.getElem?_append_right (by omega), hl]
        have : j = 2 * m ∨ j = 2 * m + 1 := by omega
        rcases this with rfl | rfl
        · rw [Nat.sub_self]; rfl
        · rw [show 2 * m + 1 - 2 * m = 1 by omega]; rfl
  rcases Nat.lt_or_ge j (2 * m) with h1 | h1
  · rw [show prsS xs m = (List.range m).map (prS xs) from rfl, key m j h1]
    simp [List.getD, show j < xs.length by omega]
  · rw [List.getElem?_eq_none (by rw [flatS_len]; unfold prsS; rw [List.length_map, List.length_range]; exact h1), List.getElem?_eq_none (by omega)]
theorem prs_ok {xs : List ValS} {m : Nat} (h : xs.length = 2 * m) (hok : ∀ x ∈ xs, OkS x) : ∀ p ∈ (prsS xs m).map lf2, Ok2 p := fun p hp => by
  obtain ⟨q, hq, rfl⟩ := List.mem_map.1 hp
  have h1 : q.1 ∈ flatS (prsS xs m) := List.mem_flatMap.2 ⟨q, hq, by simp⟩
  have h2 : q.2 ∈ flatS (prsS xs m) := List.mem_flatMap.2 ⟨q, hq, by simp⟩
  rw [prs_flat h] at h1 h2
  exact ⟨(hok _ h1).leaf, (hok _ h2).leaf⟩
theorem map_res {xs : List ValS} {m n : Nat} {acc : List (ValS × ValS)} (h : xs.length = 2 * m) (hok : ∀ x ∈ xs, OkS x) (hr : MapR xs m acc) (hn : n = 0 → xs = []) : mapV (cmpV n) [] (xs.map lfV) = some ((flatS acc).map lfV) := by
  rw [map_c (fun e => by rw [hn e]; rfl)]
  have := map_some (n - 1) (prs_ok h hok) hr.1 hr.2.1
  rw [flat_lf, flat_lf, prs_flat h] at this
  exact this
theorem map_err {xs : List ValS} {m n : Nat} (h : xs.length = 2 * m) (hok : ∀ x ∈ xs, OkS x) (hr : ¬ Cons2 ((prsS xs m).map lf2)) (hn : n = 0 → xs = []) : mapV (cmpV n) [] (xs.map lfV) = none := by
  rw [map_c (fun e => by rw [hn e]; rfl)]
  have := map_none (n - 1) (prs_ok h hok) hr
  rw [flat_lf, prs_flat h] at this
  exact this
theorem map_len {xs : List ValS} {m : Nat} {acc : List (ValS × ValS)} (hr : MapR xs m acc) (hx : xs = []) (hm : 2 * m = xs.length) : flatS acc = [] := by
  subst hx
  have hm0 : m = 0 := by simp at hm; omega
  subst hm0
  cases acc with
  | nil => rfl
  | cons p r => have := (hr.2.1 (lf2 p)).1 (by simp); simp [prsS] at this
theorem str_zip (is : List Int) (xs : List ValS) (h : is.length = xs.length) : ((List.range is.length).map fun k => (is.getD k 0, lfV (xs.getD k zeroS))).map (·.1) = is ∧ ((List.range is.length).map fun k => (is.getD k 0, lfV (xs.getD k zeroS))).map (·.2) = xs.map lfV := by
  refine ⟨?_, ?_⟩
  · rw [List.map_map]; exact range_getD 0 is
  · rw [List.map_map, h]
    have := congrArg (List.map lfV) (range_getD zeroS xs)
    rw [List.map_map] at this
    exact this
theorem str_res {is : List Int} {xs : List ValS} {o : List Nat} (h : is.length = xs.length) (hr : StrR is xs o) : strV ([], []) is (xs.map lfV) = some (o.map (fun k => is.getD k 0), (o.map fun k => xs.getD k zeroS).map lfV) := by
  have hz := str_zip is xs h
  have hd : (((List.range is.length).map fun k => (is.getD k 0, lfV (xs.getD k zeroS))).map (·.1)).Nodup := by
    have h1 : ((List.range is.length).map fun k => is.getD k 0).Nodup := by
      have hp := (hr.1.1.map fun k => is.getD k 0)
      exact hp.nodup_iff.1 (hr.2.imp fun {a b} h e => by rw [e] at h; exact absurd h (Int.lt_irrefl _))
    rw [List.map_map]; exact h1
  have := str_some (l := (List.range is.length).map fun k => (is.getD k 0, lfV (xs.getD k zeroS))) (r := o.map fun k => (is.getD k 0, lfV (xs.getD k zeroS))) hd (List.pairwise_map.2 (List.pairwise_map.1 hr.2)) fun y => by
    simp only [List.mem_map]
    constructor
    · rintro ⟨k, hk, rfl⟩; exact ⟨k, List.mem_range.2 (hr.1.mem.1 hk), rfl⟩
    · rintro ⟨k, hk, rfl⟩; exact ⟨k, hr.1.mem.2 (List.mem_range.1 hk), rfl⟩
  rw [hz.1, hz.2] at this
  rw [this]
  simp only [List.map_map]
  rfl
theorem str_err {is : List Int} {xs : List ValS} (h : is.length = xs.length) (hr : ¬ is.Nodup) : strV ([], []) is (xs.map lfV) = none := by
  have hz := str_zip is xs h
  have := str_none (l := (List.range is.length).map fun k => (is.getD k 0, lfV (xs.getD k zeroS))) (by rw [hz.1]; exact hr)
  rw [hz.1, hz.2] at this
  exact this
set_option maxRecDepth 100000 in
set_option maxHeartbeats 12800000 in
theorem norm15 (n : Nat) (w : World) (x : ValS) (l : List Val) (is : List Int) (hx : RdV (n + 1) w x (.mk 15 0 [] l is)) (hl : ∀ y ∈ l, leafOk y) (h20 : l.length ≤ 20) (hi : is = []) :
    Calls Try.prog 5 #[.agg (valA x)] w fun e w' => ∃ y, e = .returned (.tuple #[.agg (valA y), .int .i64 ((normV (n + 1) (.mk 15 0 [] l is)).2 : Int)]) ∧ ((normV (n + 1) (.mk 15 0 [] l is)).2 = 0 → RdV (n + 1) w' y (normV (n + 1) (.mk 15 0 [] l is)).1) ∧ IsSlv y.l ∧ IsSlv y.ids ∧ Nx w w' := by
  obtain ⟨xk, xn, xs, xl, xd⟩ := x
  obtain ⟨h1, h2, h3, hxl, hxd⟩ := hx
  dsimp only at h1 h2 h3 hxl hxd
  subst h1 h2 h3
  have hn0 : n = 0 → l = [] := fun e => by
    subst e
    obtain ⟨A, c, ys, -, -, -, -, h4, h5⟩ := hxl
    cases l with
    | nil => rfl
    | cons z r => exact (h5 0 (by rw [h4]; simp) (by simp)).elim
  have HN0 := Lib.hid hn0
  have HPR : Hid (prtV (normV n) l = (l, 0)) := prt_leafs n hl
  have HL := Lib.hid hl
  have HRD := Lib.hid hxl
  obtain ⟨lA, lc, lus, hv1, -, -, -⟩ := id hxl
  obtain ⟨dA, dc, hv2, hd1, hd2, hd3⟩ := id hxd
  subst hv1
  subst hv2
  obtain ⟨N, hN⟩ : ∃ N, l.length = N := ⟨_, rfl⟩
  obtain ⟨D, hD⟩ : ∃ D, is.length = D := ⟨_, rfl⟩
  have HNL := Lib.hid hN
  have HDL := Lib.hid hD
  have HRDI : Hid (D ≤ dc ∧ dc ≤ maxLen ∧ Rd (Value.int .i64) w dA is) := ⟨by rw [← hD]; exact hd1, hd2, hd3⟩
  rw [valA_agg]
  simp only
  rw [hN] at HRD h20 ⊢
  rw [hD]
  rw [show ([] : List UInt8).toArray = #[] from rfl]
  have HN20 := Lib.hid h20
  have hN20 : (N : Int) ≤ 20 := by omega
  obtain ⟨E, hE⟩ : ∃ E, normV (n + 1) (.mk 15 0 [] l is) = E := ⟨_, rfl⟩
  rw [hE]
  have HE := Lib.hid hE
  have I1 : Hid (∀ wx, Calls Try.prog 10 #[.int .u32 61440, .int .i64 (15 : Int)] wx fun e w' => e = .returned (.bool true) ∧ w' = wx) := fun wx => in_any wx 61440 15 true (by decide) (by decide) (by decide +kernel)
  clear hE hn0 hl hxl hxd hd1 hd2 hd3 hN hD h20
  rw [show (((15 : Nat)) : Int) = 15 from rfl]
  obtain ⟨g1, hg1⟩ : ∃ g, w.heap.size = g := ⟨_, rfl⟩
  obtain ⟨w1, hw1⟩ : ∃ x, w.alloc (.cells #[.int .i64 15, .int .i64 0, .string ⟨#[]⟩, .slice lA N lc, .slice dA D dc] 29) = x := ⟨_, rfl⟩
  have hb1 : Blk w1 g1 g1 #[.int .i64 15, .int .i64 0, .string ⟨#[]⟩, .slice lA N lc, .slice dA D dc] 29 := by rw [← hw1, ← hg1]; exact Blk.new w _ _
  have hn1 : Nx w w1 := by rw [← hw1]; exact nx0 _ _
  obtain ⟨g2, hg2⟩ : ∃ g, w1.heap.size = g := ⟨_, rfl⟩
  obtain ⟨w2, hw2⟩ : ∃ x, w1.alloc (.cells #[.int .i64 0, .int .i64 0, .string ⟨#[]⟩, .slice none 0 0, .slice none 0 0] 29) = x := ⟨_, rfl⟩
  have hb2 : Blk w2 g2 g2 #[.int .i64 0, .int .i64 0, .string ⟨#[]⟩, .slice none 0 0, .slice none 0 0] 29 := by rw [← hw2, ← hg2]; exact Blk.new w1 _ _
  have hn2 : Nx w1 w2 := by rw [← hw2]; exact nx0 _ _
  have HG : Hid (w.heap.size ≤ g2 ∧ g1 < g2 ∧ g2 < w2.heap.size) := by
    have h1 := hb1.lt
    have h2 := hb2.lt
    refine ⟨by rw [hg1, ← hg2]; omega, by omega, h2⟩
  have hb1' := hb1.below hn2
  have hne : ¬ g1 = g2 := by have := HG.out.2.1; omega
  have a0 : w2.cell? ⟨g1, 0, none⟩ = some (.int .i64 15) := hb1'.cell 0
  have y0 : w2.cell? ⟨g2, 0, none⟩ = some (.int .i64 0) := hb2.cell 0
  have r0 := hb2.free 0
  have HB1 : Hid (Blk (w2.setCell ⟨g2, 0, none⟩ (.int .i64 15)) g1 g1 #[.int .i64 15, .int .i64 0, .string ⟨#[]⟩, .slice lA N lc, .slice dA D dc] 29) := hb1'.other (Ne.symm hne) 0 _
  have HB2 : Hid (Blk (w2.setCell ⟨g2, 0, none⟩ (.int .i64 15)) g2 g2 #[.int .i64 15, .int .i64 0, .string ⟨#[]⟩, .slice none 0 0, .slice none 0 0] 29) := hb2.put 0 (.int .i64 15)
  have HN3 : Hid (Nx w (w2.setCell ⟨g2, 0, none⟩ (.int .i64 15))) := (hn1.trans hn2).put' HG.out.1 0 _
  clear hb1 hn1 hb2 hn2 hb1'
  go_enter Try.func5, Try.ntmps5
  go_wp2_with fail
  clear hw1 hg1 hw2 hg2
  refine (I1.out w2).mono ?_; rintro e w' ⟨rfl, hw⟩; obtain rfl := hw.symm
  go_upto_region 4 with (fail)
  clear a0 y0 r0
  have HGS : Hid (g2 < (w2.setCell ⟨g2, 0, none⟩ (.int .i64 15)).heap.size) := HB2.out.lt
  generalize w2.setCell ⟨g2, 0, none⟩ (.int .i64 15) = w3 at *
  have HPA := Lib.hid (parts_any n w3 (.slice lA N lc) l (HRD.out.nx (fun x y h => RdV.nx HN3.out n h) HN3.out) HL.out (by rw [HNL.out]; exact HN20.out))
  rw [HNL.out] at HPA
  have a3 : w3.cell? ⟨g1, 3, none⟩ = some (.slice lA N lc) := HB1.out.cell 3
  go_wp2_with fail
  refine HPA.out.mono ?_; rintro e w4 ⟨gp, ys, rfl, hbp, hyok, hyl, hn4⟩
  have HBP := Lib.hid hbp
  have HYS : Hid ((∀ y ∈ ys, OkS y) ∧ ys.map lfV = l ∧ ys.length = N) := ⟨hyok, hyl, by rw [← HNL.out, ← hyl, List.length_map]⟩
  have HN4 := Lib.hid (HN3.out.trans hn4)
  have HGP : Hid (g2 ≠ gp ∧ g1 ≠ gp) := by
    have := hbp.1; have := HGS.out; have := HG.out.2.1
    exact ⟨by omega, by omega⟩
  have hb2 := HB2.out.below hn4
  have hb1 := HB1.out.below hn4
  have y3 : w4.cell? ⟨g2, 3, none⟩ = some (.slice none 0 0) := hb2.cell 3
  have r3 := hb2.free 3
  have b0 : w4.cell? ⟨g1, 0, none⟩ = some (.int .i64 15) := hb1.cell 0
  have HB25 : Hid (Blk (w4.setCell ⟨g2, 3, none⟩ (.slice (some ⟨gp, 0, none⟩) N N)) g2 g2 #[.int .i64 15, .int .i64 0, .string ⟨#[]⟩, .slice (some ⟨gp, 0, none⟩) N N, .slice none 0 0] 29) := hb2.put 3 _
  have HB15 : Hid (Blk (w4.setCell ⟨g2, 3, none⟩ (.slice (some ⟨gp, 0, none⟩) N N)) g1 g1 #[.int .i64 15, .int .i64 0, .string ⟨#[]⟩, .slice lA N lc, .slice dA D dc] 29) := hb1.other (Ne.symm hne) 3 _
  have HBP5 : Hid (Blk (w4.setCell ⟨g2, 3, none⟩ (.slice (some ⟨gp, 0, none⟩) N N)) w3.heap.size gp (rowL valA ys).toArray 29) := hbp.other HGP.out.1 3 _
  have HN5 : Hid (Nx w (w4.setCell ⟨g2, 3, none⟩ (.slice (some ⟨gp, 0, none⟩) N N))) := HN4.out.put' HG.out.1 3 _
  clear a3 hbp hyok hyl hn4 hb2 hb1 HPA HBP HB1 HB2
  go_upto_region 5 with (fail)
  clear y3 r3 b0
  have HGS5 : Hid (g2 < (w4.setCell ⟨g2, 3, none⟩ (.slice (some ⟨gp, 0, none⟩) N N)).heap.size) := HB25.out.lt
  generalize w4.setCell ⟨g2, 3, none⟩ (.slice (some ⟨gp, 0, none⟩) N N) = w5 at *
  have b0 : w5.cell? ⟨g1, 0, none⟩ = some (.int .i64 15) := HB15.out.cell 0
  have HEQ : Hid (E = (.mk 15 0 [] l [], 0)) := by
    unfold Hid
    rw [← HE.out, hi]
    unfold normV
    rw [if_neg (by decide), HPR.out]
    rfl
  have z0 : w5.cell? ⟨g2, 0, none⟩ = some (.int .i64 15) := HB25.out.cell 0
  have r0 := HB25.out.free 0
  have z1 : w5.cell? ⟨g2, 1, none⟩ = some (.int .i64 0) := HB25.out.cell 1
  have r1 := HB25.out.free 1
  have z2 : w5.cell? ⟨g2, 2, none⟩ = some (.string ⟨#[]⟩) := HB25.out.cell 2
  have r2 := HB25.out.free 2
  have z3 : w5.cell? ⟨g2, 3, none⟩ = some (.slice (some ⟨gp, 0, none⟩) N N) := HB25.out.cell 3
  have r3 := HB25.out.free 3
  have z4 : w5.cell? ⟨g2, 4, none⟩ = some (.slice none 0 0) := HB25.out.cell 4
  have r4 := HB25.out.free 4
  go_wp2_with fail
  have HBC : Hid (Blk (wputs w5 g2 0 [.int .i64 15, .int .i64 0, .string ⟨#[]⟩, .slice (some ⟨gp, 0, none⟩) N N, .slice none 0 0]) g2 g2 #[.int .i64 15, .int .i64 0, .string ⟨#[]⟩, .slice (some ⟨gp, 0, none⟩) N N, .slice none 0 0] 29) := HB25.out.putAll [.int .i64 15, .int .i64 0, .string ⟨#[]⟩, .slice (some ⟨gp, 0, none⟩) N N, .slice none 0 0] rfl
  have HNC : Hid (Nx w (wputs w5 g2 0 [.int .i64 15, .int .i64 0, .string ⟨#[]⟩, .slice (some ⟨gp, 0, none⟩) N N, .slice none 0 0])) := Nx.puts HG.out.1 [.int .i64 15, .int .i64 0, .string ⟨#[]⟩, .slice (some ⟨gp, 0, none⟩) N N, .slice none 0 0] 0 HN5.out
  have HOC : Hid (Oth g2 w5 (wputs w5 g2 0 [.int .i64 15, .int .i64 0, .string ⟨#[]⟩, .slice (some ⟨gp, 0, none⟩) N N, .slice none 0 0])) := Oth.owns _ _ (Oth.refl _ _)
  refine bodyPost_ret (results_ct rfl _ _ g2 _ _ _ _ rfl HBC.out.2 Try.underlying29 rfl (by kernel_rfl)) rfl ?_
  change ∃ y, _ ∧ (_ → RdV (n + 1) (wputs w5 g2 0 [.int .i64 15, .int .i64 0, .string ⟨#[]⟩, .slice (some ⟨gp, 0, none⟩) N N, .slice none 0 0]) y _) ∧ _ ∧ _ ∧ Nx w (wputs w5 g2 0 [.int .i64 15, .int .i64 0, .string ⟨#[]⟩, .slice (some ⟨gp, 0, none⟩) N N, .slice none 0 0])
  generalize wputs w5 g2 0 [.int .i64 15, .int .i64 0, .string ⟨#[]⟩, .slice (some ⟨gp, 0, none⟩) N N, .slice none 0 0] = wz at *
  rw [HEQ.out]
  refine ⟨⟨15, 0, [], .slice (some ⟨gp, 0, none⟩) N N, .slice none 0 0⟩, rfl, fun _ => ⟨rfl, rfl, rfl, ?_, RdI.nil_ _⟩, ⟨_, _, _, rfl⟩, ⟨_, _, _, rfl⟩, HNC.out⟩
  have hr := rdl_of (w := wz) (A := some ⟨gp, 0, none⟩) (c := N) (n := n) ((RdO.blk' HBP5.out).oth HOC.out (fun g off e => by cases e; exact Ne.symm HGP.out.1)) (by rw [HYS.out.2.2]; exact Nat.le_refl _) (by have := HN20.out; simp only [maxLen]; omega) HYS.out.1 (fun e => by
    have := HN0.out e
    have h := HYS.out.2.2
    rw [← HNL.out, this] at h
    exact List.eq_nil_of_length_eq_zero h)
  rw [HYS.out.2.2, HYS.out.2.1] at hr
  exact hr
set_option maxRecDepth 100000 in
set_option maxHeartbeats 12800000 in
theorem norm14 (n : Nat) (w : World) (x : ValS) (l : List Val) (is : List Int) (hx : RdV (n + 1) w x (.mk 14 0 [] l is)) (hl : ∀ y ∈ l, leafOk y) (h20 : l.length ≤ 20) (hi : is = []) :
    Calls Try.prog 5 #[.agg (valA x)] w fun e w' => ∃ y, e = .returned (.tuple #[.agg (valA y), .int .i64 ((normV (n + 1) (.mk 14 0 [] l is)).2 : Int)]) ∧ ((normV (n + 1) (.mk 14 0 [] l is)).2 = 0 → RdV (n + 1) w' y (normV (n + 1) (.mk 14 0 [] l is)).1) ∧ IsSlv y.l ∧ IsSlv y.ids ∧ Nx w w' := by
  obtain ⟨xk, xn, xs, xl, xd⟩ := x
  obtain ⟨h1, h2, h3, hxl, hxd⟩ := hx
  dsimp only at h1 h2 h3 hxl hxd
  subst h1 h2 h3
  have hn0 : n = 0 → l = [] := fun e => by
    subst e
    obtain ⟨A, c, ys, -, -, -, -, h4, h5⟩ := hxl
    cases l with
    | nil => rfl
    | cons z r => exact (h5 0 (by rw [h4]; simp) (by simp)).elim
  have HN0 := Lib.hid hn0
  have HPR : Hid (prtV (normV n) l = (l, 0)) := prt_leafs n hl
  have HL := Lib.hid hl
  have HRD := Lib.hid hxl
  obtain ⟨lA, lc, lus, hv1, -, -, -⟩ := id hxl
  obtain ⟨dA, dc, hv2, hd1, hd2, hd3⟩ := id hxd
  subst hv1
  subst hv2
  obtain ⟨N, hN⟩ : ∃ N, l.length = N := ⟨_, rfl⟩
  obtain ⟨D, hD⟩ : ∃ D, is.length = D := ⟨_, rfl⟩
  have HNL := Lib.hid hN
  have HDL := Lib.hid hD
  have HRDI : Hid (D ≤ dc ∧ dc ≤ maxLen ∧ Rd (Value.int .i64) w dA is) := ⟨by rw [← hD]; exact hd1, hd2, hd3⟩
  rw [valA_agg]
  simp only
  rw [hN] at HRD h20 ⊢
  rw [hD]
  rw [show ([] : List UInt8).toArray = #[] from rfl]
  have HN20 := Lib.hid h20
  have hN20 : (N : Int) ≤ 20 := by omega
  obtain ⟨E, hE⟩ : ∃ E, normV (n + 1) (.mk 14 0 [] l is) = E := ⟨_, rfl⟩
  rw [hE]
  have HE := Lib.hid hE
  have I1 : Hid (∀ wx, Calls Try.prog 10 #[.int .u32 61440, .int .i64 (14 : Int)] wx fun e w' => e = .returned (.bool true) ∧ w' = wx) := fun wx => in_any wx 61440 14 true (by decide) (by decide) (by decide +kernel)
  clear hE hn0 hl hxl hxd hd1 hd2 hd3 hN hD h20
  rw [show (((14 : Nat)) : Int) = 14 from rfl]
  obtain ⟨g1, hg1⟩ : ∃ g, w.heap.size = g := ⟨_, rfl⟩
  obtain ⟨w1, hw1⟩ : ∃ x, w.alloc (.cells #[.int .i64 14, .int .i64 0, .string ⟨#[]⟩, .slice lA N lc, .slice dA D dc] 29) = x := ⟨_, rfl⟩
  have hb1 : Blk w1 g1 g1 #[.int .i64 14, .int .i64 0, .string ⟨#[]⟩, .slice lA N lc, .slice dA D dc] 29 := by rw [← hw1, ← hg1]; exact Blk.new w _ _
  have hn1 : Nx w w1 := by rw [← hw1]; exact nx0 _ _
  obtain ⟨g2, hg2⟩ : ∃ g, w1.heap.size = g := ⟨_, rfl⟩
  obtain ⟨w2, hw2⟩ : ∃ x, w1.alloc (.cells #[.int .i64 0, .int .i64 0, .string ⟨#[]⟩, .slice none 0 0, .slice none 0 0] 29) = x := ⟨_, rfl⟩
  have hb2 : Blk w2 g2 g2 #[.int .i64 0, .int .i64 0, .string ⟨#[]⟩, .slice none 0 0, .slice none 0 0] 29 := by rw [← hw2, ← hg2]; exact Blk.new w1 _ _
  have hn2 : Nx w1 w2 := by rw [← hw2]; exact nx0 _ _
  have HG : Hid (w.heap.size ≤ g2 ∧ g1 < g2 ∧ g2 < w2.heap.size) := by
    have h1 := hb1.lt
    have h2 := hb2.lt
    refine ⟨by rw [hg1, ← hg2]; omega, by omega, h2⟩
  have hb1' := hb1.below hn2
  have hne : ¬ g1 = g2 := by have := HG.out.2.1; omega
  have a0 : w2.cell? ⟨g1, 0, none⟩ = some (.int .i64 14) := hb1'.cell 0
  have y0 : w2.cell? ⟨g2, 0, none⟩ = some (.int .i64 0) := hb2.cell 0
  have r0 := hb2.free 0
  have HB1 : Hid (Blk (w2.setCell ⟨g2, 0, none⟩ (.int .i64 14)) g1 g1 #[.int .i64 14, .int .i64 0, .string ⟨#[]⟩, .slice lA N lc, .slice dA D dc] 29) := hb1'.other (Ne.symm hne) 0 _
  have HB2 : Hid (Blk (w2.setCell ⟨g2, 0, none⟩ (.int .i64 14)) g2 g2 #[.int .i64 14, .int .i64 0, .string ⟨#[]⟩, .slice none 0 0, .slice none 0 0] 29) := hb2.put 0 (.int .i64 14)
  have HN3 : Hid (Nx w (w2.setCell ⟨g2, 0, none⟩ (.int .i64 14))) := (hn1.trans hn2).put' HG.out.1 0 _
  clear hb1 hn1 hb2 hn2 hb1'
  go_enter Try.func5, Try.ntmps5
  go_wp2_with fail
  clear hw1 hg1 hw2 hg2
  refine (I1.out w2).mono ?_; rintro e w' ⟨rfl, hw⟩; obtain rfl := hw.symm
  go_upto_region 4 with (fail)
  clear a0 y0 r0
  have HGS : Hid (g2 < (w2.setCell ⟨g2, 0, none⟩ (.int .i64 14)).heap.size) := HB2.out.lt
  generalize w2.setCell ⟨g2, 0, none⟩ (.int .i64 14) = w3 at *
  have HPA := Lib.hid (parts_any n w3 (.slice lA N lc) l (HRD.out.nx (fun x y h => RdV.nx HN3.out n h) HN3.out) HL.out (by rw [HNL.out]; exact HN20.out))
  rw [HNL.out] at HPA
  have a3 : w3.cell? ⟨g1, 3, none⟩ = some (.slice lA N lc) := HB1.out.cell 3
  go_wp2_with fail
  refine HPA.out.mono ?_; rintro e w4 ⟨gp, ys, rfl, hbp, hyok, hyl, hn4⟩
  have HBP := Lib.hid hbp
  have HYS : Hid ((∀ y ∈ ys, OkS y) ∧ ys.map lfV = l ∧ ys.length = N) := ⟨hyok, hyl, by rw [← HNL.out, ← hyl, List.length_map]⟩
  have HN4 := Lib.hid (HN3.out.trans hn4)
  have HGP : Hid (g2 ≠ gp ∧ g1 ≠ gp) := by
    have := hbp.1; have := HGS.out; have := HG.out.2.1
    exact ⟨by omega, by omega⟩
  have hb2 := HB2.out.below hn4
  have hb1 := HB1.out.below hn4
  have y3 : w4.cell? ⟨g2, 3, none⟩ = some (.slice none 0 0) := hb2.cell 3
  have r3 := hb2.free 3
  have b0 : w4.cell? ⟨g1, 0, none⟩ = some (.int .i64 14) := hb1.cell 0
  have HB25 : Hid (Blk (w4.setCell ⟨g2, 3, none⟩ (.slice (some ⟨gp, 0, none⟩) N N)) g2 g2 #[.int .i64 14, .int .i64 0, .string ⟨#[]⟩, .slice (some ⟨gp, 0, none⟩) N N, .slice none 0 0] 29) := hb2.put 3 _
  have HB15 : Hid (Blk (w4.setCell ⟨g2, 3, none⟩ (.slice (some ⟨gp, 0, none⟩) N N)) g1 g1 #[.int .i64 14, .int .i64 0, .string ⟨#[]⟩, .slice lA N lc, .slice dA D dc] 29) := hb1.other (Ne.symm hne) 3 _
  have HBP5 : Hid (Blk (w4.setCell ⟨g2, 3, none⟩ (.slice (some ⟨gp, 0, none⟩) N N)) w3.heap.size gp (rowL valA ys).toArray 29) := hbp.other HGP.out.1 3 _
  have HN5 : Hid (Nx w (w4.setCell ⟨g2, 3, none⟩ (.slice (some ⟨gp, 0, none⟩) N N))) := HN4.out.put' HG.out.1 3 _
  clear a3 hbp hyok hyl hn4 hb2 hb1 HPA HBP HB1 HB2
  go_upto_region 5 with (fail)
  clear y3 r3 b0
  have HGS5 : Hid (g2 < (w4.setCell ⟨g2, 3, none⟩ (.slice (some ⟨gp, 0, none⟩) N N)).heap.size) := HB25.out.lt
  generalize w4.setCell ⟨g2, 3, none⟩ (.slice (some ⟨gp, 0, none⟩) N N) = w5 at *
  have b0 : w5.cell? ⟨g1, 0, none⟩ = some (.int .i64 14) := HB15.out.cell 0
  have HSE := Lib.hid (se_any w5 w3.heap.size gp N ys HYS.out.2.2 HN20.out HBP5.out HYS.out.1)
  have b23 : w5.cell? ⟨g2, 3, none⟩ = some (.slice (some ⟨gp, 0, none⟩) N N) := HB25.out.cell 3
  go_wp2_with fail
  refine HSE.out.mono ?_; rintro e w6 ⟨us, rfl, hon, hrd6, hot6⟩
  have HON := Lib.hid hon
  have hul : us.length ≤ N := by
    have := hon.len
    rw [HYS.out.2.2] at this; exact this
  have HUL := Lib.hid hul
  have hb26 := hot6.blk HB25.out HGP.out.1
  have hn6 : Nx w w6 := hot6.to HN5.out (by have := HBP5.out.1; have := HN3.out.size; omega)
  obtain ⟨U, hU⟩ : ∃ U, us.length = U := ⟨_, rfl⟩
  have HUU := Lib.hid hU
  rw [hU]
  have y3 : w6.cell? ⟨g2, 3, none⟩ = some (.slice (some ⟨gp, 0, none⟩) N N) := hb26.cell 3
  have r3 := hb26.free 3
  have HB27 : Hid (Blk (w6.setCell ⟨g2, 3, none⟩ (.slice (some ⟨gp, 0, none⟩) U N)) g2 g2 #[.int .i64 14, .int .i64 0, .string ⟨#[]⟩, .slice (some ⟨gp, 0, none⟩) U N, .slice none 0 0] 29) := hb26.put 3 _
  have HN7 : Hid (Nx w (w6.setCell ⟨g2, 3, none⟩ (.slice (some ⟨gp, 0, none⟩) U N))) := hn6.put' HG.out.1 3 _
  have HRD7 : Hid (RdO (w6.setCell ⟨g2, 3, none⟩ (.slice (some ⟨gp, 0, none⟩) U N)) (some ⟨gp, 0, none⟩) us) := hrd6.oth (Oth.set _ _ _ _) (fun g off e => by cases e; exact Ne.symm HGP.out.1)
  clear b0 b23 hon hrd6 hot6 hb26 hn6 hul hU HSE
  go_upto_region 14 with (fail)
  clear y3 r3
  generalize w6.setCell ⟨g2, 3, none⟩ (.slice (some ⟨gp, 0, none⟩) U N) = w7 at *
  have HUO : Hid (∀ x ∈ us, OkS x) := fun x hx => HYS.out.1 x (HON.out.2.2 x hx)
  have HEQ : Hid (E = (.mk 14 0 [] (us.map lfV) [], 0)) := by
    unfold Hid
    rw [← HE.out, hi]
    unfold normV
    rw [if_neg (by decide), HPR.out]
    dsimp only
    rw [if_neg (by decide), if_neg (by decide), if_pos rfl, set_c (n := n) HN0.out, ← HYS.out.2.1, ← once_set HON.out HYS.out.1 (n - 1)]
  have z0 : w7.cell? ⟨g2, 0, none⟩ = some (.int .i64 14) := HB27.out.cell 0
  have r0 := HB27.out.free 0
  have z1 : w7.cell? ⟨g2, 1, none⟩ = some (.int .i64 0) := HB27.out.cell 1
  have r1 := HB27.out.free 1
  have z2 : w7.cell? ⟨g2, 2, none⟩ = some (.string ⟨#[]⟩) := HB27.out.cell 2
  have r2 := HB27.out.free 2
  have z3 : w7.cell? ⟨g2, 3, none⟩ = some (.slice (some ⟨gp, 0, none⟩) U N) := HB27.out.cell 3
  have r3 := HB27.out.free 3
  have z4 : w7.cell? ⟨g2, 4, none⟩ = some (.slice none 0 0) := HB27.out.cell 4
  have r4 := HB27.out.free 4
  go_wp2_with fail
  have HBC : Hid (Blk (wputs w7 g2 0 [.int .i64 14, .int .i64 0, .string ⟨#[]⟩, .slice (some ⟨gp, 0, none⟩) U N, .slice none 0 0]) g2 g2 #[.int .i64 14, .int .i64 0, .string ⟨#[]⟩, .slice (some ⟨gp, 0, none⟩) U N, .slice none 0 0] 29) := HB27.out.putAll [.int .i64 14, .int .i64 0, .string ⟨#[]⟩, .slice (some ⟨gp, 0, none⟩) U N, .slice none 0 0] rfl
  have HNC : Hid (Nx w (wputs w7 g2 0 [.int .i64 14, .int .i64 0, .string ⟨#[]⟩, .slice (some ⟨gp, 0, none⟩) U N, .slice none 0 0])) := Nx.puts HG.out.1 [.int .i64 14, .int .i64 0, .string ⟨#[]⟩, .slice (some ⟨gp, 0, none⟩) U N, .slice none 0 0] 0 HN7.out
  have HOC : Hid (Oth g2 w7 (wputs w7 g2 0 [.int .i64 14, .int .i64 0, .string ⟨#[]⟩, .slice (some ⟨gp, 0, none⟩) U N, .slice none 0 0])) := Oth.owns _ _ (Oth.refl _ _)
  refine bodyPost_ret (results_ct rfl _ _ g2 _ _ _ _ rfl HBC.out.2 Try.underlying29 rfl (by kernel_rfl)) rfl ?_
  change ∃ y, _ ∧ (_ → RdV (n + 1) (wputs w7 g2 0 [.int .i64 14, .int .i64 0, .string ⟨#[]⟩, .slice (some ⟨gp, 0, none⟩) U N, .slice none 0 0]) y _) ∧ _ ∧ _ ∧ Nx w (wputs w7 g2 0 [.int .i64 14, .int .i64 0, .string ⟨#[]⟩, .slice (some ⟨gp, 0, none⟩) U N, .slice none 0 0])
  generalize wputs w7 g2 0 [.int .i64 14, .int .i64 0, .string ⟨#[]⟩, .slice (some ⟨gp, 0, none⟩) U N, .slice none 0 0] = wz at *
  rw [HEQ.out]
  refine ⟨⟨14, 0, [], .slice (some ⟨gp, 0, none⟩) U N, .slice none 0 0⟩, rfl, fun _ => ⟨rfl, rfl, rfl, ?_, RdI.nil_ _⟩, ⟨_, _, _, rfl⟩, ⟨_, _, _, rfl⟩, HNC.out⟩
  have hr := rdl_of (w := wz) (A := some ⟨gp, 0, none⟩) (c := N) (n := n) (HRD7.out.oth HOC.out (fun g off e => by cases e; exact Ne.symm HGP.out.1)) HUL.out (by have := HN20.out; simp only [maxLen]; omega) HUO.out (fun e => by
    have := HN0.out e
    have h := HYS.out.2.2
    rw [← HNL.out, this] at h
    have hy : ys = [] := List.eq_nil_of_length_eq_zero h
    cases us with
    | nil => rfl
    | cons a r => have := HON.out.2.2 a (by simp); rw [hy] at this; cases this)
  rw [HUU.out] at hr
  exact hr
set_option maxRecDepth 100000 in
set_option maxHeartbeats 12800000 in
theorem norm13 (n : Nat) (w : World) (x : ValS) (l : List Val) (is : List Int) (hx : RdV (n + 1) w x (.mk 13 0 [] l is)) (hl : ∀ y ∈ l, leafOk y) (h20 : l.length ≤ 20) (hi : is = []) :
    Calls Try.prog 5 #[.agg (valA x)] w fun e w' => ∃ y, e = .returned (.tuple #[.agg (valA y), .int .i64 ((normV (n + 1) (.mk 13 0 [] l is)).2 : Int)]) ∧ ((normV (n + 1) (.mk 13 0 [] l is)).2 = 0 → RdV (n + 1) w' y (normV (n + 1) (.mk 13 0 [] l is)).1) ∧ IsSlv y.l ∧ IsSlv y.ids ∧ Nx w w' := by
  obtain ⟨xk, xn, xs, xl, xd⟩ := x
  obtain ⟨h1, h2, h3, hxl, hxd⟩ := hx
  dsimp only at h1 h2 h3 hxl hxd
  subst h1 h2 h3
  have hn0 : n = 0 → l = [] := fun e => by
    subst e
    obtain ⟨A, c, ys, -, -, -, -, h4, h5⟩ := hxl
    cases l with
    | nil => rfl
    | cons z r => exact (h5 0 (by rw [h4]; simp) (by simp)).elim
  have HN0 := Lib.hid hn0
  have HPR : Hid (prtV (normV n) l = (l, 0)) := prt_leafs n hl
  have HL := Lib.hid hl
  have HRD := Lib.hid hxl
  obtain ⟨lA, lc, lus, hv1, -, -, -⟩ := id hxl
  obtain ⟨dA, dc, hv2, hd1, hd2, hd3⟩ := id hxd
  subst hv1
  subst hv2
  obtain ⟨N, hN⟩ : ∃ N, l.length = N := ⟨_, rfl⟩
  obtain ⟨D, hD⟩ : ∃ D, is.length = D := ⟨_, rfl⟩
  have HNL := Lib.hid hN
  have HDL := Lib.hid hD
  have HRDI : Hid (D ≤ dc ∧ dc ≤ maxLen ∧ Rd (Value.int .i64) w dA is) := ⟨by rw [← hD]; exact hd1, hd2, hd3⟩
  rw [valA_agg]
  simp only
  rw [hN] at HRD h20 ⊢
  rw [hD]
  rw [show ([] : List UInt8).toArray = #[] from rfl]
  have HN20 := Lib.hid h20
  have hN20 : (N : Int) ≤ 20 := by omega
  obtain ⟨E, hE⟩ : ∃ E, normV (n + 1) (.mk 13 0 [] l is) = E := ⟨_, rfl⟩
  rw [hE]
  have HE := Lib.hid hE
  have I1 : Hid (∀ wx, Calls Try.prog 10 #[.int .u32 61440, .int .i64 (13 : Int)] wx fun e w' => e = .returned (.bool true) ∧ w' = wx) := fun wx => in_any wx 61440 13 true (by decide) (by decide) (by decide +kernel)
  clear hE hn0 hl hxl hxd hd1 hd2 hd3 hN hD h20
  rw [show (((13 : Nat)) : Int) = 13 from rfl]
  obtain ⟨g1, hg1⟩ : ∃ g, w.heap.size = g := ⟨_, rfl⟩
  obtain ⟨w1, hw1⟩ : ∃ x, w.alloc (.cells #[.int .i64 13, .int .i64 0, .string ⟨#[]⟩, .slice lA N lc, .slice dA D dc] 29) = x := ⟨_, rfl⟩
  have hb1 : Blk w1 g1 g1 #[.int .i64 13, .int .i64 0, .string ⟨#[]⟩, .slice lA N lc, .slice dA D dc] 29 := by rw [← hw1, ← hg1]; exact Blk.new w _ _
  have hn1 : Nx w w1 := by rw [← hw1]; exact nx0 _ _
  obtain ⟨g2, hg2⟩ : ∃ g, w1.heap.size = g := ⟨_, rfl⟩
  obtain ⟨w2, hw2⟩ : ∃ x, w1.alloc (.cells #[.int .i64 0, .int .i64 0, .string ⟨#[]⟩, .slice none 0 0, .slice none 0 0] 29) = x := ⟨_, rfl⟩
  have hb2 : Blk w2 g2 g2 #[.int .i64 0, .int .i64 0, .string ⟨#[]⟩, .slice none 0 0, .slice none 0 0] 29 := by rw [← hw2, ← hg2]; exact Blk.new w1 _ _
  have hn2 : Nx w1 w2 := by rw [← hw2]; exact nx0 _ _
  have HG : Hid (w.heap.size ≤ g2 ∧ g1 < g2 ∧ g2 < w2.heap.size) := by
    have h1 := hb1.lt
    have h2 := hb2.lt
    refine ⟨by rw [hg1, ← hg2]; omega, by omega, h2⟩
  have hb1' := hb1.below hn2
  have hne : ¬ g1 = g2 := by have := HG.out.2.1; omega
  have a0 : w2.cell? ⟨g1, 0, none⟩ = some (.int .i64 13) := hb1'.cell 0
  have y0 : w2.cell? ⟨g2, 0, none⟩ = some (.int .i64 0) := hb2.cell 0
  have r0 := hb2.free 0
  have HB1 : Hid (Blk (w2.setCell ⟨g2, 0, none⟩ (.int .i64 13)) g1 g1 #[.int .i64 13, .int .i64 0, .string ⟨#[]⟩, .slice lA N lc, .slice dA D dc] 29) := hb1'.other (Ne.symm hne) 0 _
  have HB2 : Hid (Blk (w2.setCell ⟨g2, 0, none⟩ (.int .i64 13)) g2 g2 #[.int .i64 13, .int .i64 0, .string ⟨#[]⟩, .slice none 0 0, .slice none 0 0] 29) := hb2.put 0 (.int .i64 13)
  have HN3 : Hid (Nx w (w2.setCell ⟨g2, 0, none⟩ (.int .i64 13))) := (hn1.trans hn2).put' HG.out.1 0 _
  clear hb1 hn1 hb2 hn2 hb1'
  go_enter Try.func5, Try.ntmps5
  go_wp2_with fail
  clear hw1 hg1 hw2 hg2
  refine (I1.out w2).mono ?_; rintro e w' ⟨rfl, hw⟩; obtain rfl := hw.symm
  go_upto_region 4 with (fail)
  clear a0 y0 r0
  have HGS : Hid (g2 < (w2.setCell ⟨g2, 0, none⟩ (.int .i64 13)).heap.size) := HB2.out.lt
  generalize w2.setCell ⟨g2, 0, none⟩ (.int .i64 13) = w3 at *
  have HPA := Lib.hid (parts_any n w3 (.slice lA N lc) l (HRD.out.nx (fun x y h => RdV.nx HN3.out n h) HN3.out) HL.out (by rw [HNL.out]; exact HN20.out))
  rw [HNL.out] at HPA
  have a3 : w3.cell? ⟨g1, 3, none⟩ = some (.slice lA N lc) := HB1.out.cell 3
  go_wp2_with fail
  refine HPA.out.mono ?_; rintro e w4 ⟨gp, ys, rfl, hbp, hyok, hyl, hn4⟩
  have HBP := Lib.hid hbp
  have HYS : Hid ((∀ y ∈ ys, OkS y) ∧ ys.map lfV = l ∧ ys.length = N) := ⟨hyok, hyl, by rw [← HNL.out, ← hyl, List.length_map]⟩
  have HN4 := Lib.hid (HN3.out.trans hn4)
  have HGP : Hid (g2 ≠ gp ∧ g1 ≠ gp) := by
    have := hbp.1; have := HGS.out; have := HG.out.2.1
    exact ⟨by omega, by omega⟩
  have hb2 := HB2.out.below hn4
  have hb1 := HB1.out.below hn4
  have y3 : w4.cell? ⟨g2, 3, none⟩ = some (.slice none 0 0) := hb2.cell 3
  have r3 := hb2.free 3
  have b0 : w4.cell? ⟨g1, 0, none⟩ = some (.int .i64 13) := hb1.cell 0
  have HB25 : Hid (Blk (w4.setCell ⟨g2, 3, none⟩ (.slice (some ⟨gp, 0, none⟩) N N)) g2 g2 #[.int .i64 13, .int .i64 0, .string ⟨#[]⟩, .slice (some ⟨gp, 0, none⟩) N N, .slice none 0 0] 29) := hb2.put 3 _
  have HB15 : Hid (Blk (w4.setCell ⟨g2, 3, none⟩ (.slice (some ⟨gp, 0, none⟩) N N)) g1 g1 #[.int .i64 13, .int .i64 0, .string ⟨#[]⟩, .slice lA N lc, .slice dA D dc] 29) := hb1.other (Ne.symm hne) 3 _
  have HBP5 : Hid (Blk (w4.setCell ⟨g2, 3, none⟩ (.slice (some ⟨gp, 0, none⟩) N N)) w3.heap.size gp (rowL valA ys).toArray 29) := hbp.other HGP.out.1 3 _
  have HN5 : Hid (Nx w (w4.setCell ⟨g2, 3, none⟩ (.slice (some ⟨gp, 0, none⟩) N N))) := HN4.out.put' HG.out.1 3 _
  clear a3 hbp hyok hyl hn4 hb2 hb1 HPA HBP HB1 HB2
  go_upto_region 5 with (fail)
  clear y3 r3 b0
  have HGS5 : Hid (g2 < (w4.setCell ⟨g2, 3, none⟩ (.slice (some ⟨gp, 0, none⟩) N N)).heap.size) := HB25.out.lt
  generalize w4.setCell ⟨g2, 3, none⟩ (.slice (some ⟨gp, 0, none⟩) N N) = w5 at *
  have b0 : w5.cell? ⟨g1, 0, none⟩ = some (.int .i64 13) := HB15.out.cell 0
  have b23 : w5.cell? ⟨g2, 3, none⟩ = some (.slice (some ⟨gp, 0, none⟩) N N) := HB25.out.cell 3
  by_cases hodd : N % 2 = 1
  · have HSP := Lib.hid (sp_odd w5 (some ⟨gp, 0, none⟩) N N (by have := HN20.out; omega) hodd)
    have HEQ : Hid (E = (val0, 1)) := by
      unfold Hid
      rw [← HE.out, hi]
      unfold normV
      rw [if_neg (by decide), HPR.out]
      dsimp only
      rw [if_neg (by decide), if_neg (by decide), if_neg (by decide), if_pos rfl, if_pos (by rw [HNL.out]; exact hodd)]
    clear hodd
    go_wp2_with fail
    refine HSP.out.mono ?_; rintro e w6 ⟨rfl, hn56⟩
    have hb26 := HB25.out.below hn56
    have HN6 := Lib.hid (HN5.out.trans hn56)
    have y3 : w6.cell? ⟨g2, 3, none⟩ = some (.slice (some ⟨gp, 0, none⟩) N N) := hb26.cell 3
    have r3 := hb26.free 3
    have HB27 : Hid (Blk (w6.setCell ⟨g2, 3, none⟩ (.slice none 0 0)) g2 g2 #[.int .i64 13, .int .i64 0, .string ⟨#[]⟩, .slice none 0 0, .slice none 0 0] 29) := hb26.put 3 _
    have HN7 : Hid (Nx w (w6.setCell ⟨g2, 3, none⟩ (.slice none 0 0))) := HN6.out.put' HG.out.1 3 _
    clear b0 b23 hn56 hb26
    go_upto_region 14 with (fail)
    clear y3 r3
    generalize w6.setCell ⟨g2, 3, none⟩ (.slice none 0 0) = w7 at *
    have z0 : w7.cell? ⟨g2, 0, none⟩ = some (.int .i64 13) := HB27.out.cell 0
    have r0 := HB27.out.free 0
    have z1 : w7.cell? ⟨g2, 1, none⟩ = some (.int .i64 0) := HB27.out.cell 1
    have r1 := HB27.out.free 1
    have z2 : w7.cell? ⟨g2, 2, none⟩ = some (.string ⟨#[]⟩) := HB27.out.cell 2
    have r2 := HB27.out.free 2
    have z3 : w7.cell? ⟨g2, 3, none⟩ = some (.slice none 0 0) := HB27.out.cell 3
    have r3 := HB27.out.free 3
    have z4 : w7.cell? ⟨g2, 4, none⟩ = some (.slice none 0 0) := HB27.out.cell 4
    have r4 := HB27.out.free 4
    go_wp2_with fail
    have HBC : Hid (Blk (wputs w7 g2 0 [.int .i64 0, .int .i64 0, .string ⟨#[]⟩, .slice none 0 0, .slice none 0 0]) g2 g2 #[.int .i64 0, .int .i64 0, .string ⟨#[]⟩, .slice none 0 0, .slice none 0 0] 29) := HB27.out.putAll [.int .i64 0, .int .i64 0, .string ⟨#[]⟩, .slice none 0 0, .slice none 0 0] rfl
    have HNC : Hid (Nx w (wputs w7 g2 0 [.int .i64 0, .int .i64 0, .string ⟨#[]⟩, .slice none 0 0, .slice none 0 0])) := Nx.puts HG.out.1 [.int .i64 0, .int .i64 0, .string ⟨#[]⟩, .slice none 0 0, .slice none 0 0] 0 HN7.out
    refine bodyPost_ret (results_ct rfl _ _ g2 _ _ _ _ rfl HBC.out.2 Try.underlying29 rfl (by kernel_rfl)) rfl ?_
    rw [HEQ.out]
    exact ⟨⟨0, 0, [], .slice none 0 0, .slice none 0 0⟩, rfl, (fun h => absurd h (by decide)), ⟨_, _, _, rfl⟩, ⟨_, _, _, rfl⟩, HNC.out⟩
  · obtain ⟨m, hm⟩ : ∃ m, 2 * m = N := ⟨N / 2, by omega⟩
    have HM := Lib.hid hm
    have hml : ys.length = 2 * m := by rw [HYS.out.2.2, hm]
    have HML := Lib.hid hml
    have HNIL : Hid (n = 0 → ys = []) := fun e => by
      have := HN0.out e
      have h := HYS.out.2.2
      rw [← HNL.out, this] at h
      exact List.eq_nil_of_length_eq_zero h
    have HSP := Lib.hid (sp_any w5 gp w3.heap.size N N m ys HYS.out.2.2 hm HN20.out (Nat.le_refl _) HBP5.out HYS.out.1)
    have HEM : Hid (E = match mapV (cmpV n) [] l with
        | none => (val0, 8)
        | some r => (.mk 13 0 [] r [], 0)) := by
      unfold Hid
      rw [← HE.out, hi]
      unfold normV
      rw [if_neg (by decide), HPR.out]
      dsimp only
      rw [if_neg (by decide), if_neg (by decide), if_neg (by decide), if_pos rfl, if_neg (by rw [HNL.out]; exact hodd)]
      cases mapV (cmpV n) [] l <;> rfl
    clear hodd hm hml
    go_wp2_with fail
    refine HSP.out.mono ?_; rintro e w6 ⟨⟨rfl, hcl⟩ | ⟨vv, acc, rfl, how, hmr⟩, hn56⟩
    · have HEQ : Hid (E = (val0, 8)) := by
        have e := HEM.out
        rw [← HYS.out.2.1, map_err HML.out HYS.out.1 hcl HNIL.out] at e
        exact e
      clear hcl HEM HSP
      have hb26 := HB25.out.below hn56
      have HN6 := Lib.hid (HN5.out.trans hn56)
      have y3 : w6.cell? ⟨g2, 3, none⟩ = some (.slice (some ⟨gp, 0, none⟩) N N) := hb26.cell 3
      have r3 := hb26.free 3
      have HB27 : Hid (Blk (w6.setCell ⟨g2, 3, none⟩ (.slice none 0 0)) g2 g2 #[.int .i64 13, .int .i64 0, .string ⟨#[]⟩, .slice none 0 0, .slice none 0 0] 29) := hb26.put 3 _
      have HN7 : Hid (Nx w (w6.setCell ⟨g2, 3, none⟩ (.slice none 0 0))) := HN6.out.put' HG.out.1 3 _
      clear b0 b23 hn56 hb26
      go_upto_region 14 with (fail)
      clear y3 r3
      generalize w6.setCell ⟨g2, 3, none⟩ (.slice none 0 0) = w7 at *
      have z0 : w7.cell? ⟨g2, 0, none⟩ = some (.int .i64 13) := HB27.out.cell 0
      have r0 := HB27.out.free 0
      have z1 : w7.cell? ⟨g2, 1, none⟩ = some (.int .i64 0) := HB27.out.cell 1
      have r1 := HB27.out.free 1
      have z2 : w7.cell? ⟨g2, 2, none⟩ = some (.string ⟨#[]⟩) := HB27.out.cell 2
      have r2 := HB27.out.free 2
      have z3 : w7.cell? ⟨g2, 3, none⟩ = some (.slice none 0 0) := HB27.out.cell 3
      have r3 := HB27.out.free 3
      have z4 : w7.cell? ⟨g2, 4, none⟩ = some (.slice none 0 0) := HB27.out.cell 4
      have r4 := HB27.out.free 4
      go_wp2_with fail
      have HBC : Hid (Blk (wputs w7 g2 0 [.int .i64 0, .int .i64 0, .string ⟨#[]⟩, .slice none 0 0, .slice none 0 0]) g2 g2 #[.int .i64 0, .int .i64 0, .string ⟨#[]⟩, .slice none 0 0, .slice none 0 0] 29) := HB27.out.putAll [.int .i64 0, .int .i64 0, .string ⟨#[]⟩, .slice none 0 0, .slice none 0 0] rfl
      have HNC : Hid (Nx w (wputs w7 g2 0 [.int .i64 0, .int .i64 0, .string ⟨#[]⟩, .slice none 0 0, .slice none 0 0])) := Nx.puts HG.out.1 [.int .i64 0, .int .i64 0, .string ⟨#[]⟩, .slice none 0 0, .slice none 0 0] 0 HN7.out
      refine bodyPost_ret (results_ct rfl _ _ g2 _ _ _ _ rfl HBC.out.2 Try.underlying29 rfl (by kernel_rfl)) rfl ?_
      rw [HEQ.out]
      exact ⟨⟨0, 0, [], .slice none 0 0, .slice none 0 0⟩, rfl, (fun h => absurd h (by decide)), ⟨_, _, _, rfl⟩, ⟨_, _, _, rfl⟩, HNC.out⟩
    · have HEQ : Hid (E = (.mk 13 0 [] ((flatS acc).map lfV) [], 0)) := by
        have e := HEM.out
        rw [← HYS.out.2.1, map_res HML.out HYS.out.1 hmr HNIL.out] at e
        exact e
      have HMR := Lib.hid hmr
      have how' := how
      obtain ⟨vA, vc, hvv, hvl, hvc, -⟩ := OwnS.sl valA_size how
      obtain ⟨VL, hVL⟩ : ∃ L, (flatS acc).length = L := ⟨_, rfl⟩
      rw [hVL] at hvv
      subst hvv
      have HOW := Lib.hid how'
      clear hmr HEM HSP how how' hvl hvc hVL
      have hb26 := HB25.out.below hn56
      have HN6 := Lib.hid (HN5.out.trans hn56)
      have y3 : w6.cell? ⟨g2, 3, none⟩ = some (.slice (some ⟨gp, 0, none⟩) N N) := hb26.cell 3
      have r3 := hb26.free 3
      have HB27 : Hid (Blk (w6.setCell ⟨g2, 3, none⟩ (.slice vA VL vc)) g2 g2 #[.int .i64 13, .int .i64 0, .string ⟨#[]⟩, .slice vA VL vc, .slice none 0 0] 29) := hb26.put 3 _
      have HN7 : Hid (Nx w (w6.setCell ⟨g2, 3, none⟩ (.slice vA VL vc))) := HN6.out.put' HG.out.1 3 _
      have HOW7 : Hid (OwnS valA 5 29 (w6.setCell ⟨g2, 3, none⟩ (.slice vA VL vc)) w5.heap.size (.slice vA VL vc) (flatS acc)) := HOW.out.oth (Oth.set _ _ _ _) HGS5.out
      clear b0 b23 hn56 hb26
      go_upto_region 14 with (fail)
      clear y3 r3
      generalize w6.setCell ⟨g2, 3, none⟩ (.slice vA VL vc) = w7 at *
      have z0 : w7.cell? ⟨g2, 0, none⟩ = some (.int .i64 13) := HB27.out.cell 0
      have r0 := HB27.out.free 0
      have z1 : w7.cell? ⟨g2, 1, none⟩ = some (.int .i64 0) := HB27.out.cell 1
      have r1 := HB27.out.free 1
      have z2 : w7.cell? ⟨g2, 2, none⟩ = some (.string ⟨#[]⟩) := HB27.out.cell 2
      have r2 := HB27.out.free 2
      have z3 : w7.cell? ⟨g2, 3, none⟩ = some (.slice vA VL vc) := HB27.out.cell 3
      have r3 := HB27.out.free 3
      have z4 : w7.cell? ⟨g2, 4, none⟩ = some (.slice none 0 0) := HB27.out.cell 4
      have r4 := HB27.out.free 4
      go_wp2_with fail
      have HBC : Hid (Blk (wputs w7 g2 0 [.int .i64 13, .int .i64 0, .string ⟨#[]⟩, .slice vA VL vc, .slice none 0 0]) g2 g2 #[.int .i64 13, .int .i64 0, .string ⟨#[]⟩, .slice vA VL vc, .slice none 0 0] 29) := HB27.out.putAll [.int .i64 13, .int .i64 0, .string ⟨#[]⟩, .slice vA VL vc, .slice none 0 0] rfl
      have HNC : Hid (Nx w (wputs w7 g2 0 [.int .i64 13, .int .i64 0, .string ⟨#[]⟩, .slice vA VL vc, .slice none 0 0])) := Nx.puts HG.out.1 [.int .i64 13, .int .i64 0, .string ⟨#[]⟩, .slice vA VL vc, .slice none 0 0] 0 HN7.out
      have HOC : Hid (Oth g2 w7 (wputs w7 g2 0 [.int .i64 13, .int .i64 0, .string ⟨#[]⟩, .slice vA VL vc, .slice none 0 0])) := Oth.owns _ _ (Oth.refl _ _)
      refine bodyPost_ret (results_ct rfl _ _ g2 _ _ _ _ rfl HBC.out.2 Try.underlying29 rfl (by kernel_rfl)) rfl ?_
      change ∃ y, _ ∧ (_ → RdV (n + 1) (wputs w7 g2 0 [.int .i64 13, .int .i64 0, .string ⟨#[]⟩, .slice vA VL vc, .slice none 0 0]) y _) ∧ _ ∧ _ ∧ Nx w (wputs w7 g2 0 [.int .i64 13, .int .i64 0, .string ⟨#[]⟩, .slice vA VL vc, .slice none 0 0])
      generalize wputs w7 g2 0 [.int .i64 13, .int .i64 0, .string ⟨#[]⟩, .slice vA VL vc, .slice none 0 0] = wz at *
      rw [HEQ.out]
      have hr := own_rdl (n := n) (HOW7.out.oth HOC.out HGS5.out) (flatS_one acc HMR.out.2.2) (fun e => map_len HMR.out (HNIL.out e) (by rw [HML.out]))
      exact ⟨⟨13, 0, [], .slice vA VL vc, .slice none 0 0⟩, rfl, fun _ => ⟨rfl, rfl, rfl, hr.1, RdI.nil_ _⟩, ⟨_, _, _, rfl⟩, ⟨_, _, _, rfl⟩, HNC.out⟩
set_option maxRecDepth 100000 in
set_option maxHeartbeats 12800000 in
theorem norm12 (n : Nat) (w : World) (x : ValS) (l : List Val) (is : List Int) (hx : RdV (n + 1) w x (.mk 12 0 [] l is)) (hl : ∀ y ∈ l, leafOk y) (h20 : l.length ≤ 20) :
    Calls Try.prog 5 #[.agg (valA x)] w fun e w' => ∃ y, e = .returned (.tuple #[.agg (valA y), .int .i64 ((normV (n + 1) (.mk 12 0 [] l is)).2 : Int)]) ∧ ((normV (n + 1) (.mk 12 0 [] l is)).2 = 0 → RdV (n + 1) w' y (normV (n + 1) (.mk 12 0 [] l is)).1) ∧ IsSlv y.l ∧ IsSlv y.ids ∧ Nx w w' := by
  obtain ⟨xk, xn, xs, xl, xd⟩ := x
  obtain ⟨h1, h2, h3, hxl, hxd⟩ := hx
  dsimp only at h1 h2 h3 hxl hxd
  subst h1 h2 h3
  have hn0 : n = 0 → l = [] := fun e => by
    subst e
    obtain ⟨A, c, ys, -, -, -, -, h4, h5⟩ := hxl
    cases l with
    | nil => rfl
    | cons z r => exact (h5 0 (by rw [h4]; simp) (by simp)).elim
  have HN0 := Lib.hid hn0
  have HPR : Hid (prtV (normV n) l = (l, 0)) := prt_leafs n hl
  have HL := Lib.hid hl
  have HRD := Lib.hid hxl
  obtain ⟨lA, lc, lus, hv1, -, -, -⟩ := id hxl
  obtain ⟨dA, dc, hv2, hd1, hd2, hd3⟩ := id hxd
  subst hv1
  subst hv2
  obtain ⟨N, hN⟩ : ∃ N, l.length = N := ⟨_, rfl⟩
  obtain ⟨D, hD⟩ : ∃ D, is.length = D := ⟨_, rfl⟩
  have HNL := Lib.hid hN
  have HDL := Lib.hid hD
  have HRDI : Hid (D ≤ dc ∧ dc ≤ maxLen ∧ Rd (Value.int .i64) w dA is) := ⟨by rw [← hD]; exact hd1, hd2, hd3⟩
  rw [valA_agg]
  simp only
  rw [hN] at HRD h20 ⊢
  rw [hD]
  rw [show ([] : List UInt8).toArray = #[] from rfl]
  have HN20 := Lib.hid h20
  have hN20 : (N : Int) ≤ 20 := by omega
  obtain ⟨E, hE⟩ : ∃ E, normV (n + 1) (.mk 12 0 [] l is) = E := ⟨_, rfl⟩
  rw [hE]
  have HE := Lib.hid hE
  have I1 : Hid (∀ wx, Calls Try.prog 10 #[.int .u32 61440, .int .i64 (12 : Int)] wx fun e w' => e = .returned (.bool true) ∧ w' = wx) := fun wx => in_any wx 61440 12 true (by decide) (by decide) (by decide +kernel)
  clear hE hn0 hl hxl hxd hd1 hd2 hd3 hN hD h20
  rw [show (((12 : Nat)) : Int) = 12 from rfl]
  obtain ⟨g1, hg1⟩ : ∃ g, w.heap.size = g := ⟨_, rfl⟩
  obtain ⟨w1, hw1⟩ : ∃ x, w.alloc (.cells #[.int .i64 12, .int .i64 0, .string ⟨#[]⟩, .slice lA N lc, .slice dA D dc] 29) = x := ⟨_, rfl⟩
  have hb1 : Blk w1 g1 g1 #[.int .i64 12, .int .i64 0, .string ⟨#[]⟩, .slice lA N lc, .slice dA D dc] 29 := by rw [← hw1, ← hg1]; exact Blk.new w _ _
  have hn1 : Nx w w1 := by rw [← hw1]; exact nx0 _ _
  obtain ⟨g2, hg2⟩ : ∃ g, w1.heap.size = g := ⟨_, rfl⟩
  obtain ⟨w2, hw2⟩ : ∃ x, w1.alloc (.cells #[.int .i64 0, .int .i64 0, .string ⟨#[]⟩, .slice none 0 0, .slice none 0 0] 29) = x := ⟨_, rfl⟩
  have hb2 : Blk w2 g2 g2 #[.int .i64 0, .int .i64 0, .string ⟨#[]⟩, .slice none 0 0, .slice none 0 0] 29 := by rw [← hw2, ← hg2]; exact Blk.new w1 _ _
  have hn2 : Nx w1 w2 := by rw [← hw2]; exact nx0 _ _
  have HG : Hid (w.heap.size ≤ g2 ∧ g1 < g2 ∧ g2 < w2.heap.size) := by
    have h1 := hb1.lt
    have h2 := hb2.lt
    refine ⟨by rw [hg1, ← hg2]; omega, by omega, h2⟩
  have hb1' := hb1.below hn2
  have hne : ¬ g1 = g2 := by have := HG.out.2.1; omega
  have a0 : w2.cell? ⟨g1, 0, none⟩ = some (.int .i64 12) := hb1'.cell 0
  have y0 : w2.cell? ⟨g2, 0, none⟩ = some (.int .i64 0) := hb2.cell 0
  have r0 := hb2.free 0
  have HB1 : Hid (Blk (w2.setCell ⟨g2, 0, none⟩ (.int .i64 12)) g1 g1 #[.int .i64 12, .int .i64 0, .string ⟨#[]⟩, .slice lA N lc, .slice dA D dc] 29) := hb1'.other (Ne.symm hne) 0 _
  have HB2 : Hid (Blk (w2.setCell ⟨g2, 0, none⟩ (.int .i64 12)) g2 g2 #[.int .i64 12, .int .i64 0, .string ⟨#[]⟩, .slice none 0 0, .slice none 0 0] 29) := hb2.put 0 (.int .i64 12)
  have HN3 : Hid (Nx w (w2.setCell ⟨g2, 0, none⟩ (.int .i64 12))) := (hn1.trans hn2).put' HG.out.1 0 _
  clear hb1 hn1 hb2 hn2 hb1'
  go_enter Try.func5, Try.ntmps5
  go_wp2_with fail
  clear hw1 hg1 hw2 hg2
  refine (I1.out w2).mono ?_; rintro e w' ⟨rfl, hw⟩; obtain rfl := hw.symm
  go_upto_region 4 with (fail)
  clear a0 y0 r0
  have HGS : Hid (g2 < (w2.setCell ⟨g2, 0, none⟩ (.int .i64 12)).heap.size) := HB2.out.lt
  generalize w2.setCell ⟨g2, 0, none⟩ (.int .i64 12) = w3 at *
  have HPA := Lib.hid (parts_any n w3 (.slice lA N lc) l (HRD.out.nx (fun x y h => RdV.nx HN3.out n h) HN3.out) HL.out (by rw [HNL.out]; exact HN20.out))
  rw [HNL.out] at HPA
  have a3 : w3.cell? ⟨g1, 3, none⟩ = some (.slice lA N lc) := HB1.out.cell 3
  go_wp2_with fail
  refine HPA.out.mono ?_; rintro e w4 ⟨gp, ys, rfl, hbp, hyok, hyl, hn4⟩
  have HBP := Lib.hid hbp
  have HYS : Hid ((∀ y ∈ ys, OkS y) ∧ ys.map lfV = l ∧ ys.length = N) := ⟨hyok, hyl, by rw [← HNL.out, ← hyl, List.length_map]⟩
  have HN4 := Lib.hid (HN3.out.trans hn4)
  have HGP : Hid (g2 ≠ gp ∧ g1 ≠ gp) := by
    have := hbp.1; have := HGS.out; have := HG.out.2.1
    exact ⟨by omega, by omega⟩
  have hb2 := HB2.out.below hn4
  have hb1 := HB1.out.below hn4
  have y3 : w4.cell? ⟨g2, 3, none⟩ = some (.slice none 0 0) := hb2.cell 3
  have r3 := hb2.free 3
  have b0 : w4.cell? ⟨g1, 0, none⟩ = some (.int .i64 12) := hb1.cell 0
  have HB25 : Hid (Blk (w4.setCell ⟨g2, 3, none⟩ (.slice (some ⟨gp, 0, none⟩) N N)) g2 g2 #[.int .i64 12, .int .i64 0, .string ⟨#[]⟩, .slice (some ⟨gp, 0, none⟩) N N, .slice none 0 0] 29) := hb2.put 3 _
  have HB15 : Hid (Blk (w4.setCell ⟨g2, 3, none⟩ (.slice (some ⟨gp, 0, none⟩) N N)) g1 g1 #[.int .i64 12, .int .i64 0, .string ⟨#[]⟩, .slice lA N lc, .slice dA D dc] 29) := hb1.other (Ne.symm hne) 3 _
  have HBP5 : Hid (Blk (w4.setCell ⟨g2, 3, none⟩ (.slice (some ⟨gp, 0, none⟩) N N)) w3.heap.size gp (rowL valA ys).toArray 29) := hbp.other HGP.out.1 3 _
  have HN5 : Hid (Nx w (w4.setCell ⟨g2, 3, none⟩ (.slice (some ⟨gp, 0, none⟩) N N))) := HN4.out.put' HG.out.1 3 _
  clear a3 hbp hyok hyl hn4 hb2 hb1 HPA HBP HB1 HB2
  go_upto_region 5 with (fail)
  clear y3 r3 b0
  have HGS5 : Hid (g2 < (w4.setCell ⟨g2, 3, none⟩ (.slice (some ⟨gp, 0, none⟩) N N)).heap.size) := HB25.out.lt
  generalize w4.setCell ⟨g2, 3, none⟩ (.slice (some ⟨gp, 0, none⟩) N N) = w5 at *
  have b0 : w5.cell? ⟨g1, 0, none⟩ = some (.int .i64 12) := HB15.out.cell 0
  have b23 : w5.cell? ⟨g2, 3, none⟩ = some (.slice (some ⟨gp, 0, none⟩) N N) := HB25.out.cell 3
  have b14 : w5.cell? ⟨g1, 4, none⟩ = some (.slice dA D dc) := HB15.out.cell 4
  by_cases hlen : D = N
  case neg =>
    have HSP := Lib.hid (sf_len w5 dA (some ⟨gp, 0, none⟩) D dc N N hlen)
    have HEQ : Hid (E = (val0, 1)) := by
      unfold Hid
      rw [← HE.out]
      unfold normV
      rw [if_neg (by decide), HPR.out]
      dsimp only
      rw [if_neg (by decide), if_neg (by decide), if_neg (by decide), if_neg (by decide), if_pos (by rw [HNL.out, HDL.out]; exact fun h => hlen h.symm)]
    clear hlen
    go_wp2_with fail
    refine HSP.out.mono ?_; rintro e w6 ⟨rfl, hn56⟩
    have hb26 := HB25.out.below hn56
    have HN6 := Lib.hid (HN5.out.trans hn56)
    have y3 : w6.cell? ⟨g2, 3, none⟩ = some (.slice (some ⟨gp, 0, none⟩) N N) := hb26.cell 3
    have y4 : w6.cell? ⟨g2, 4, none⟩ = some (.slice none 0 0) := hb26.cell 4
    have r3 := hb26.free 3
    have r4 := hb26.free 4
    have HB27 : Hid (Blk ((w6.setCell ⟨g2, 4, none⟩ (.slice none 0 0)).setCell ⟨g2, 3, none⟩ (.slice none 0 0)) g2 g2 #[.int .i64 12, .int .i64 0, .string ⟨#[]⟩, .slice none 0 0, .slice none 0 0] 29) := (hb26.put 4 _).put 3 _
    have HN7 : Hid (Nx w ((w6.setCell ⟨g2, 4, none⟩ (.slice none 0 0)).setCell ⟨g2, 3, none⟩ (.slice none 0 0))) := (HN6.out.put' HG.out.1 4 _).put' HG.out.1 3 _
    clear b0 b23 b14 hn56 hb26
    go_upto_region 14 with (fail)
    clear y3 r3 y4 r4
    generalize (w6.setCell ⟨g2, 4, none⟩ (.slice none 0 0)).setCell ⟨g2, 3, none⟩ (.slice none 0 0) = w7 at *
    have z0 : w7.cell? ⟨g2, 0, none⟩ = some (.int .i64 12) := HB27.out.cell 0
    have r0 := HB27.out.free 0
    have z1 : w7.cell? ⟨g2, 1, none⟩ = some (.int .i64 0) := HB27.out.cell 1
    have r1 := HB27.out.free 1
    have z2 : w7.cell? ⟨g2, 2, none⟩ = some (.string ⟨#[]⟩) := HB27.out.cell 2
    have r2 := HB27.out.free 2
    have z3 : w7.cell? ⟨g2, 3, none⟩ = some (.slice none 0 0) := HB27.out.cell 3
    have r3 := HB27.out.free 3
    have z4 : w7.cell? ⟨g2, 4, none⟩ = some (.slice none 0 0) := HB27.out.cell 4
    have r4 := HB27.out.free 4
    go_wp2_with fail
    have HBC : Hid (Blk (wputs w7 g2 0 [.int .i64 0, .int .i64 0, .string ⟨#[]⟩, .slice none 0 0, .slice none 0 0]) g2 g2 #[.int .i64 0, .int .i64 0, .string ⟨#[]⟩, .slice none 0 0, .slice none 0 0] 29) := HB27.out.putAll [.int .i64 0, .int .i64 0, .string ⟨#[]⟩, .slice none 0 0, .slice none 0 0] rfl
    have HNC : Hid (Nx w (wputs w7 g2 0 [.int .i64 0, .int .i64 0, .string ⟨#[]⟩, .slice none 0 0, .slice none 0 0])) := Nx.puts HG.out.1 [.int .i64 0, .int .i64 0, .string ⟨#[]⟩, .slice none 0 0, .slice none 0 0] 0 HN7.out
    refine bodyPost_ret (results_ct rfl _ _ g2 _ _ _ _ rfl HBC.out.2 Try.underlying29 rfl (by kernel_rfl)) rfl ?_
    rw [HEQ.out]
    exact ⟨⟨0, 0, [], .slice none 0 0, .slice none 0 0⟩, rfl, (fun h => absurd h (by decide)), ⟨_, _, _, rfl⟩, ⟨_, _, _, rfl⟩, HNC.out⟩
  case pos =>
    subst hlen
    have HIS : Hid (is.length = ys.length) := by unfold Hid; rw [HDL.out, HYS.out.2.2]
    have HSP := Lib.hid (sf_any w5 dA D dc is HDL.out (HRDI.out.2.2.below HN5.out) HRDI.out.1 gp w3.heap.size D ys HYS.out.2.2 HN20.out (Nat.le_refl _) HBP5.out HYS.out.1)
    have HEM : Hid (E = match strV ([], []) is l with
        | none => (val0, 8)
        | some r => (.mk 12 0 [] r.2 r.1, 0)) := by
      unfold Hid
      rw [← HE.out]
      unfold normV
      rw [if_neg (by decide), HPR.out]
      dsimp only
      rw [if_neg (by decide), if_neg (by decide), if_neg (by decide), if_neg (by decide), if_neg (by rw [HNL.out, HDL.out]; exact fun h => h rfl)]
      cases strV ([], []) is l <;> rfl
    go_wp2_with fail
    refine HSP.out.mono ?_; rintro e w6 ⟨⟨rfl, hcl⟩ | ⟨vi, vv, o, rfl, hoi, how, hsr⟩, hn56⟩
    · have HEQ : Hid (E = (val0, 8)) := by
        have e := HEM.out
        rw [← HYS.out.2.1, str_err HIS.out hcl] at e
        exact e
      clear hcl HEM HSP
      have hb26 := HB25.out.below hn56
      have HN6 := Lib.hid (HN5.out.trans hn56)
      have y3 : w6.cell? ⟨g2, 3, none⟩ = some (.slice (some ⟨gp, 0, none⟩) D D) := hb26.cell 3
      have y4 : w6.cell? ⟨g2, 4, none⟩ = some (.slice none 0 0) := hb26.cell 4
      have r3 := hb26.free 3
      have r4 := hb26.free 4
      have HB27 : Hid (Blk ((w6.setCell ⟨g2, 4, none⟩ (.slice none 0 0)).setCell ⟨g2, 3, none⟩ (.slice none 0 0)) g2 g2 #[.int .i64 12, .int .i64 0, .string ⟨#[]⟩, .slice none 0 0, .slice none 0 0] 29) := (hb26.put 4 _).put 3 _
      have HN7 : Hid (Nx w ((w6.setCell ⟨g2, 4, none⟩ (.slice none 0 0)).setCell ⟨g2, 3, none⟩ (.slice none 0 0))) := (HN6.out.put' HG.out.1 4 _).put' HG.out.1 3 _
      clear b0 b23 b14 hn56 hb26
      go_upto_region 14 with (fail)
      clear y3 r3 y4 r4
      generalize (w6.setCell ⟨g2, 4, none⟩ (.slice none 0 0)).setCell ⟨g2, 3, none⟩ (.slice none 0 0) = w7 at *
      have z0 : w7.cell? ⟨g2, 0, none⟩ = some (.int .i64 12) := HB27.out.cell 0
      have r0 := HB27.out.free 0
      have z1 : w7.cell? ⟨g2, 1, none⟩ = some (.int .i64 0) := HB27.out.cell 1
      have r1 := HB27.out.free 1
      have z2 : w7.cell? ⟨g2, 2, none⟩ = some (.string ⟨#[]⟩) := HB27.out.cell 2
      have r2 := HB27.out.free 2
      have z3 : w7.cell? ⟨g2, 3, none⟩ = some (.slice none 0 0) := HB27.out.cell 3
      have r3 := HB27.out.free 3
      have z4 : w7.cell? ⟨g2, 4, none⟩ = some (.slice none 0 0) := HB27.out.cell 4
      have r4 := HB27.out.free 4
      go_wp2_with fail
      have HBC : Hid (Blk (wputs w7 g2 0 [.int .i64 0, .int .i64 0, .string ⟨#[]⟩, .slice none 0 0, .slice none 0 0]) g2 g2 #[.int .i64 0, .int .i64 0, .string ⟨#[]⟩, .slice none 0 0, .slice none 0 0] 29) := HB27.out.putAll [.int .i64 0, .int .i64 0, .string ⟨#[]⟩, .slice none 0 0, .slice none 0 0] rfl
      have HNC : Hid (Nx w (wputs w7 g2 0 [.int .i64 0, .int .i64 0, .string ⟨#[]⟩, .slice none 0 0, .slice none 0 0])) := Nx.puts HG.out.1 [.int .i64 0, .int .i64 0, .string ⟨#[]⟩, .slice none 0 0, .slice none 0 0] 0 HN7.out
      refine bodyPost_ret (results_ct rfl _ _ g2 _ _ _ _ rfl HBC.out.2 Try.underlying29 rfl (by kernel_rfl)) rfl ?_
      rw [HEQ.out]
      exact ⟨⟨0, 0, [], .slice none 0 0, .slice none 0 0⟩, rfl, (fun h => absurd h (by decide)), ⟨_, _, _, rfl⟩, ⟨_, _, _, rfl⟩, HNC.out⟩
    · have HEQ : Hid (E = (.mk 12 0 [] ((o.map fun k => ys.getD k zeroS).map lfV) (o.map fun k => is.getD k 0), 0)) := by
        have e := HEM.out
        rw [← HYS.out.2.1, str_res HIS.out hsr] at e
        exact e
      have HSR := Lib.hid hsr
      have how' := how
      have hoi' := hoi
      obtain ⟨vA, vc, hvv, -, -, -⟩ := OwnS.sl valA_size how
      obtain ⟨iA, ic, hvi, -, -, -⟩ := OwnS.sl fI_size hoi
      rw [List.length_map] at hvv hvi
      obtain ⟨VL, hVL⟩ : ∃ L, o.length = L := ⟨_, rfl⟩
      rw [hVL] at hvv hvi
      subst hvv hvi
      have HOW := Lib.hid how'
      have HOI := Lib.hid hoi'
      clear hsr HEM HSP how how' hoi hoi' hVL
      have hb26 := HB25.out.below hn56
      have HN6 := Lib.hid (HN5.out.trans hn56)
      have y3 : w6.cell? ⟨g2, 3, none⟩ = some (.slice (some ⟨gp, 0, none⟩) D D) := hb26.cell 3
      have y4 : w6.cell? ⟨g2, 4, none⟩ = some (.slice none 0 0) := hb26.cell 4
      have r3 := hb26.free 3
      have r4 := hb26.free 4
      have HB27 : Hid (Blk ((w6.setCell ⟨g2, 4, none⟩ (.slice iA VL ic)).setCell ⟨g2, 3, none⟩ (.slice vA VL vc)) g2 g2 #[.int .i64 12, .int .i64 0, .string ⟨#[]⟩, .slice vA VL vc, .slice iA VL ic] 29) := (hb26.put 4 _).put 3 _
      have HN7 : Hid (Nx w ((w6.setCell ⟨g2, 4, none⟩ (.slice iA VL ic)).setCell ⟨g2, 3, none⟩ (.slice vA VL vc))) := (HN6.out.put' HG.out.1 4 _).put' HG.out.1 3 _
      have HOT7 : Hid (Oth g2 w6 ((w6.setCell ⟨g2, 4, none⟩ (.slice iA VL ic)).setCell ⟨g2, 3, none⟩ (.slice vA VL vc))) := (Oth.set _ _ _ _).own
      clear b0 b23 b14 hn56 hb26
      go_upto_region 14 with (fail)
      clear y3 r3 y4 r4
      generalize (w6.setCell ⟨g2, 4, none⟩ (.slice iA VL ic)).setCell ⟨g2, 3, none⟩ (.slice vA VL vc) = w7 at *
      have z0 : w7.cell? ⟨g2, 0, none⟩ = some (.int .i64 12) := HB27.out.cell 0
      have r0 := HB27.out.free 0
      have z1 : w7.cell? ⟨g2, 1, none⟩ = some (.int .i64 0) := HB27.out.cell 1
      have r1 := HB27.out.free 1
      have z2 : w7.cell? ⟨g2, 2, none⟩ = some (.string ⟨#[]⟩) := HB27.out.cell 2
      have r2 := HB27.out.free 2
      have z3 : w7.cell? ⟨g2, 3, none⟩ = some (.slice vA VL vc) := HB27.out.cell 3
      have r3 := HB27.out.free 3
      have z4 : w7.cell? ⟨g2, 4, none⟩ = some (.slice iA VL ic) := HB27.out.cell 4
      have r4 := HB27.out.free 4
      go_wp2_with fail
      have HBC : Hid (Blk (wputs w7 g2 0 [.int .i64 12, .int .i64 0, .string ⟨#[]⟩, .slice vA VL vc, .slice iA VL ic]) g2 g2 #[.int .i64 12, .int .i64 0, .string ⟨#[]⟩, .slice vA VL vc, .slice iA VL ic] 29) := HB27.out.putAll [.int .i64 12, .int .i64 0, .string ⟨#[]⟩, .slice vA VL vc, .slice iA VL ic] rfl
      have HNC : Hid (Nx w (wputs w7 g2 0 [.int .i64 12, .int .i64 0, .string ⟨#[]⟩, .slice vA VL vc, .slice iA VL ic])) := Nx.puts HG.out.1 [.int .i64 12, .int .i64 0, .string ⟨#[]⟩, .slice vA VL vc, .slice iA VL ic] 0 HN7.out
      have HOC : Hid (Oth g2 w7 (wputs w7 g2 0 [.int .i64 12, .int .i64 0, .string ⟨#[]⟩, .slice vA VL vc, .slice iA VL ic])) := Oth.owns _ _ (Oth.refl _ _)
      refine bodyPost_ret (results_ct rfl _ _ g2 _ _ _ _ rfl HBC.out.2 Try.underlying29 rfl (by kernel_rfl)) rfl ?_
      change ∃ y, _ ∧ (_ → RdV (n + 1) (wputs w7 g2 0 [.int .i64 12, .int .i64 0, .string ⟨#[]⟩, .slice vA VL vc, .slice iA VL ic]) y _) ∧ _ ∧ _ ∧ Nx w (wputs w7 g2 0 [.int .i64 12, .int .i64 0, .string ⟨#[]⟩, .slice vA VL vc, .slice iA VL ic])
      generalize wputs w7 g2 0 [.int .i64 12, .int .i64 0, .string ⟨#[]⟩, .slice vA VL vc, .slice iA VL ic] = wz at *
      rw [HEQ.out]
      have hr := own_rdl (n := n) ((HOW.out.oth HOT7.out HGS5.out).oth HOC.out HGS5.out) (fun x hx => by
        obtain ⟨k, hk, rfl⟩ := List.mem_map.1 hx
        have hkl : k < ys.length := by rw [← HIS.out]; exact HSR.out.1.mem.1 hk
        have : ys.getD k zeroS = ys[k] := by simp [List.getD, hkl]
        rw [this]; exact HYS.out.1 _ (List.getElem_mem _)) (fun e => by
        have := HN0.out e
        have h := HNL.out
        rw [this] at h
        have ho := HSR.out.1.len
        rw [HDL.out, ← h] at ho
        have : o = [] := List.eq_nil_of_length_eq_zero ho
        rw [this]; rfl)
      have hq := own_rdi ((HOI.out.oth HOT7.out HGS5.out).oth HOC.out HGS5.out)
      exact ⟨⟨12, 0, [], .slice vA VL vc, .slice iA VL ic⟩, rfl, fun _ => ⟨rfl, rfl, rfl, hr.1, hq.1⟩, ⟨_, _, _, rfl⟩, ⟨_, _, _, rfl⟩, HNC.out⟩
theorem Normal_any (n : Nat) : NormC n := by
  intro w x A hx hA
  cases n with
  | zero => exact hx.elim
  | succ n =>
  obtain ⟨k, a, s, l, i⟩ := A
  obtain ⟨hk, rfl, hr, ha, hi, hl, h20, hok⟩ := hA
  by_cases hc : lstK k = true ∨ k = 12
  · have hk' : k = 13 ∨ k = 14 ∨ k = 15 ∨ k = 12 := by
      rcases hc with h | h
      · unfold lstK at h
        simp only [Bool.or_eq_true, decide_eq_true_eq] at h
        omega
      · omega
    have ha0 : a = 0 := by
      rcases ha with h | h | h
      · have := intK_lt h
        unfold lstK at this
        simp only [Bool.or_eq_false_iff, decide_eq_false_iff_not] at this
        omega
      · omega
      · exact h
    subst ha0
    rcases hk' with rfl | rfl | rfl | rfl
    · exact norm13 n w x l i hx hok h20 (by rcases hi with h | h; cases h; exact h)
    · exact norm14 n w x l i hx hok h20 (by rcases hi with h | h; cases h; exact h)
    · exact norm15 n w x l i hx hok h20 (by rcases hi with h | h; cases h; exact h)
    · exact norm12 n w x l i hx hok h20
  · have h1 : lstK k = false := by
      cases h : lstK k with
      | false => rfl
      | true => exact absurd (.inl h) hc
    have h12 : k ≠ 12 := fun h => hc (.inr h)
    have hl0 : l = [] := by
      rcases hl with h | h | h
      · rw [h1] at h; cases h
      · exact absurd h h12
      · exact h
    have hi0 : i = [] := by
      rcases hi with h | h
      · exact absurd h h12
      · exact h
    subst hl0 hi0
    have hxk : x.k = k := hx.1
    have he : normV (n + 1) (.mk k a [] [] []) = (.mk k a [] [] [], 0) := norm_bare n h1 h12
    rw [he]
    refine (norml_any (n + 1) w x (.mk k a [] [] []) hx ⟨rfl, rfl, rfl⟩ (by rw [hxk]; exact hk) (by rw [hxk]; exact h1) (by rw [hxk]; exact h12)).mono ?_
    rintro e w' ⟨y, rfl, h2, h3, h4, h5⟩
    exact ⟨y, rfl, fun _ => h2, h3, h4, h5⟩
end Go.Proofs.Ytjeadmndnbggmaa
