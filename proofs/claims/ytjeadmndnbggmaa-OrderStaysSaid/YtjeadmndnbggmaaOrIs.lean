/- The contract of order.Is. -/
import Derived.Test.YtjeadmndnbggmaaOrNm
set_option linter.unusedVariables false
set_option linter.unusedSimpArgs false
namespace Go.Proofs.Ytjeadmndnbggmaa
open Go.RowKit

theorem insV_mem (c : Val → Val → Int) (y : Val) : ∀ (l : List Val) (x : Val), x ∈ insV c y l → x = y ∨ x ∈ l
  | [], x, h => .inl (by simpa [insV] using h)
  | z :: r, x, h => by
    unfold insV at h
    split at h
    · simpa using h
    · split at h
      · exact .inr h
      · rcases List.mem_cons.1 h with rfl | h
        · exact .inr (by simp)
        · rcases insV_mem c y r x h with rfl | h
          · exact .inl rfl
          · exact .inr (by simp [h])
theorem setV_mem (c : Val → Val → Int) : ∀ (l acc : List Val) (x : Val), x ∈ l.foldl (fun acc x => insV c x acc) acc → x ∈ acc ∨ x ∈ l
  | [], acc, x, h => .inl h
  | y :: r, acc, x, h => by
    rcases setV_mem c r (insV c y acc) x h with h | h
    · rcases insV_mem c y acc x h with rfl | h
      · exact .inr (by simp)
      · exact .inl h
    · exact .inr (by simp [h])
theorem insM_mem (c : Val → Val → Int) (k v : Val) : ∀ (l r : List Val), insM c k v l = some r → ∀ x ∈ r, x = k ∨ x = v ∨ x ∈ l
  | [], r, h, x, hx => by
    have : [k, v] = r := by simpa [insM] using h
    subst this
    simpa using hx
  | [a], r, h, x, hx => by
    have : [k, v] = r := by simpa [insM] using h
    subst this
    rcases List.mem_cons.1 hx with rfl | hx
    · exact .inl rfl
    · exact .inr (.inl (by simpa using hx))
  | a :: b :: s, r, h, x, hx => by
    unfold insM at h
    split at h
    · have : k :: v :: a :: b :: s = r := by simpa using h
      subst this
      rcases List.mem_cons.1 hx with rfl | hx
      · exact .inl rfl
      · rcases List.mem_cons.1 hx with rfl | hx
        · exact .inr (.inl rfl)
        · exact .inr (.inr hx)
    · split at h
      · split at h
        · have : a :: b :: s = r := by simpa using h
          subst this
          exact .inr (.inr hx)
        · cases h
      · cases e : insM c k v s with
        | none => rw [e] at h; cases h
        | some q =>
          rw [e] at h
          have : a :: b :: q = r := by simpa using h
          subst this
          rcases List.mem_cons.1 hx with rfl | hx
          · exact .inr (.inr (by simp))
          · rcases List.mem_cons.1 hx with rfl | hx
            · exact .inr (.inr (by simp))
            · rcases insM_mem c k v s q e x hx with h | h | h
              · exact .inl h
              · exact .inr (.inl h)
              · exact .inr (.inr (by simp [h]))
theorem mapV_mem (c : Val → Val → Int) : ∀ (l acc r : List Val), mapV c acc l = some r → ∀ x ∈ r, x ∈ acc ∨ x ∈ l
  | [], acc, r, h, x, hx => by
    have : acc = r := by simpa [mapV] using h
    subst this; exact .inl hx
  | [a], acc, r, h, x, hx => by
    have : acc = r := by simpa [mapV] using h
    subst this; exact .inl hx
  | k :: v :: s, acc, r, h, x, hx => by
    rw [mapV] at h
    cases e : insM c k v acc with
    | none => rw [e] at h; cases h
    | some q =>
      rw [e] at h
      rcases mapV_mem c s q r h x hx with h1 | h1
      · rcases insM_mem c k v acc q e x h1 with rfl | rfl | h1
        · exact .inr (by simp)
        · exact .inr (by simp)
        · exact .inl h1
      · exact .inr (by simp [h1])
theorem norm_okV : ∀ (n : Nat) (A : Val), netV n A → okV n A → (normV n A).2 = 0 → okV n (normV n A).1
  | 0, _, h, _, _ => h.elim
  | n + 1, .mk k a s l i, hn, ho, h0 => by
    obtain ⟨hk, rfl, hr, ha, hi, hl, h20, hok⟩ := hn
    obtain ⟨o1, o2, o3, o4, o5⟩ := ho
    have hp := prt_leafs n hok
    unfold normV at h0 ⊢
    rw [hp] at h0 ⊢
    dsimp only at h0 ⊢
    by_cases c1 : lstK k = false ∧ k ≠ 12
    · rw [if_pos c1]; exact ⟨o1, o2, o3, o4, o5⟩
    · rw [if_neg c1] at h0 ⊢
      rw [if_neg (by decide)] at h0 ⊢
      by_cases c2 : k = 15
      · rw [if_pos c2]; exact ⟨o1, o2, o3, o4, o5⟩
      · rw [if_neg c2] at h0 ⊢
        by_cases c3 : k = 14
        · rw [if_pos c3]
          refine ⟨o1, o2, o3, o4, fun x hx => ?_⟩
          rcases setV_mem _ _ _ x hx with h | h
          · cases h
          · exact o5 x h
        · rw [if_neg c3] at h0 ⊢
          by_cases c4 : k = 13
          · rw [if_pos c4] at h0 ⊢
            by_cases c5 : l.length % 2 = 1
            · rw [if_pos c5] at h0; cases h0
            · rw [if_neg c5] at h0 ⊢
              cases e : mapV (cmpV n) [] l with
              | none => rw [e] at h0; cases h0
              | some r =>
                refine ⟨o1, o2, o3, o4, fun x hx => ?_⟩
                rcases mapV_mem _ _ _ _ e x hx with h | h
                · cases h
                · exact o5 x h
          · exfalso
            refine c1 ⟨?_, o2⟩
            unfold lstK
            simp [c2, c3, c4]
set_option maxRecDepth 100000 in
set_option maxHeartbeats 6400000 in
theorem Is_any (n : Nat) : IsC n := by
  intro w x A hx hA hO
  have HNM : Hid (∀ wx, Nx w wx → Calls Try.prog 5 #[.agg (valA x)] wx fun e w' => ∃ y, e = .returned (.tuple #[.agg (valA y), .int .i64 ((normV n A).2 : Int)]) ∧ ((normV n A).2 = 0 → RdV n w' y (normV n A).1) ∧ IsSlv y.l ∧ IsSlv y.ids ∧ Nx wx w') := fun wx hw => Normal_any n wx x A (hx.nx hw) hA
  have HCM : Hid (∀ wx y, Nx w wx → (normV n A).2 = 0 → RdV n wx y (normV n A).1 → Calls Try.prog 8 #[.agg (valA x), .agg (valA y)] wx fun e w' => e = .returned (.int .i64 (cmpV n A (normV n A).1)) ∧ Nx wx w') := fun wx y hw h0 hy => Cmp_any n wx x y A _ (hx.nx hw) hy hO (norm_okV n A hA hO h0)
  obtain ⟨⟨lA, lu, lc, hxl⟩, ⟨dA, du, dc, hxd⟩⟩ := hx.slv
  obtain ⟨xk, xn, xs, xl, xd⟩ := x
  dsimp only at hxl hxd
  subst hxl hxd
  rw [valA_agg] at HNM HCM ⊢
  obtain ⟨C, hC⟩ : ∃ C, cmpV n A (normV n A).1 = C := ⟨_, rfl⟩
  rw [hC] at HCM ⊢
  obtain ⟨M, hM⟩ : ∃ M, normV n A = M := ⟨_, rfl⟩
  rw [hM] at HNM HCM ⊢
  obtain ⟨MV, ME⟩ := M
  dsimp only at HNM HCM ⊢
  clear hC hM hx hA hO
  obtain ⟨g1, hg1⟩ : ∃ g, w.heap.size = g := ⟨_, rfl⟩
  obtain ⟨w1, hw1⟩ : ∃ x, w.alloc (.cells #[.int .i64 (xk : Int), .int .i64 xn, .string ⟨xs.toArray⟩, .slice lA lu lc, .slice dA du dc] 29) = x := ⟨_, rfl⟩
  have hb1 : Blk w1 g1 g1 #[.int .i64 (xk : Int), .int .i64 xn, .string ⟨xs.toArray⟩, .slice lA lu lc, .slice dA du dc] 29 := by rw [← hw1, ← hg1]; exact Blk.new w _ _
  have HN1 : Hid (Nx w w1) := by rw [← hw1]; exact nx0 _ _
  have HB1 := Lib.hid hb1
  have a0 : w1.cell? ⟨g1, 0, none⟩ = some (.int .i64 (xk : Int)) := hb1.cell 0
  have a1 : w1.cell? ⟨g1, 1, none⟩ = some (.int .i64 xn) := hb1.cell 1
  have a2 : w1.cell? ⟨g1, 2, none⟩ = some (.string ⟨xs.toArray⟩) := hb1.cell 2
  have a3 : w1.cell? ⟨g1, 3, none⟩ = some (.slice lA lu lc) := hb1.cell 3
  have a4 : w1.cell? ⟨g1, 4, none⟩ = some (.slice dA du dc) := hb1.cell 4
  clear hb1
  go_enter Try.func7, Try.ntmps7
  go_wp2_with fail
  clear hw1 hg1
  refine (HNM.out w1 HN1.out).mono ?_
  rintro e w2 ⟨⟨yk, yn, ys, yl, yd⟩, rfl, hry, ⟨mA, mu, mc, rfl⟩, ⟨eA, eu, ec, rfl⟩, hn2⟩
  rw [valA_agg]
  obtain ⟨g3, hg3⟩ : ∃ g, w2.heap.size = g := ⟨_, rfl⟩
  obtain ⟨w3, hw3⟩ : ∃ x, w2.alloc (.cells #[.int .i64 (yk : Int), .int .i64 yn, .string ⟨ys.toArray⟩, .slice mA mu mc, .slice eA eu ec] 29) = x := ⟨_, rfl⟩
  have hb3 : Blk w3 g3 g3 #[.int .i64 (yk : Int), .int .i64 yn, .string ⟨ys.toArray⟩, .slice mA mu mc, .slice eA eu ec] 29 := by rw [← hw3, ← hg3]; exact Blk.new w2 _ _
  have hn3 : Nx w2 w3 := by rw [← hw3]; exact nx0 _ _
  have HB3 := Lib.hid hb3
  have HB13 := Lib.hid (HB1.out.below (hn2.trans hn3))
  have HN3 := Lib.hid (HN1.out.trans (hn2.trans hn3))
  have HRY : Hid (ME = 0 → RdV n w3 ⟨yk, yn, ys, .slice mA mu mc, .slice eA eu ec⟩ MV) := fun h => (hry h).nx hn3
  have HW3 := Lib.hid hw3
  have HG3 := Lib.hid hg3
  clear a0 a1 a2 a3 a4 hb3 hn3 hn2 hry hw3 hg3
  go_upto_region 2 with (fail)
  rw [HW3.out, HG3.out]
  clear HW3 HG3
  by_cases hm : ME = 0
  · subst hm
    have HCC := Lib.hid (HCM.out w3 ⟨yk, yn, ys, .slice mA mu mc, .slice eA eu ec⟩ HN3.out rfl (HRY.out rfl))
    rw [valA_agg] at HCC
    have b0 : w3.cell? ⟨g1, 0, none⟩ = some (.int .i64 (xk : Int)) := HB13.out.cell 0
    have b1 : w3.cell? ⟨g1, 1, none⟩ = some (.int .i64 xn) := HB13.out.cell 1
    have b2 : w3.cell? ⟨g1, 2, none⟩ = some (.string ⟨xs.toArray⟩) := HB13.out.cell 2
    have b3 : w3.cell? ⟨g1, 3, none⟩ = some (.slice lA lu lc) := HB13.out.cell 3
    have b4 : w3.cell? ⟨g1, 4, none⟩ = some (.slice dA du dc) := HB13.out.cell 4
    have c0 : w3.cell? ⟨g3, 0, none⟩ = some (.int .i64 (yk : Int)) := HB3.out.cell 0
    have c1 : w3.cell? ⟨g3, 1, none⟩ = some (.int .i64 yn) := HB3.out.cell 1
    have c2 : w3.cell? ⟨g3, 2, none⟩ = some (.string ⟨ys.toArray⟩) := HB3.out.cell 2
    have c3 : w3.cell? ⟨g3, 3, none⟩ = some (.slice mA mu mc) := HB3.out.cell 3
    have c4 : w3.cell? ⟨g3, 4, none⟩ = some (.slice eA eu ec) := HB3.out.cell 4
    clear HCM HRY HNM
    rw [show ((0 : Nat) : Int) = 0 from rfl]
    go_wp2_with fail
    refine HCC.out.mono ?_; rintro e w4 ⟨rfl, hn4⟩
    have HN4 := Lib.hid (HN3.out.trans hn4)
    clear b0 b1 b2 b3 b4 c0 c1 c2 c3 c4 hn4 HCC
    by_cases hc : C = 0
    · subst hc
      go_wp2_with fail
      go_ret
      exact ⟨rfl, HN4.out⟩
    · have q : (C == 0) = false := by rw [beq_eq_false_iff_ne]; exact hc
      have HC0 : Hid (decide (C = 0) = false) := decide_eq_false hc
      clear hc
      go_wp2_with fail
      go_ret
      exact ⟨by rw [HC0.out]; rfl, HN4.out⟩
  · have q : ((ME : Int) == 0) = false := by rw [beq_eq_false_iff_ne]; omega
    have q2 : (ME == 0) = false := by rw [beq_eq_false_iff_ne]; exact hm
    have HM0 : Hid (decide (ME = 0) = false) := decide_eq_false hm
    clear hm HCM HRY HNM
    go_wp2_with fail
    go_ret
    exact ⟨by rw [HM0.out]; rfl, HN3.out⟩
end Go.Proofs.Ytjeadmndnbggmaa
