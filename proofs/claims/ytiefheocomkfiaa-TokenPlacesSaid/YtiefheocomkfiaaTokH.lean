/- The contract of token's first word. -/
import Derived.Test.YtiefheocomkfiaaTokG
set_option linter.unusedVariables false
set_option linter.unusedSimpArgs false
namespace Go.Proofs.Ytiefheocomkfiaa
open Go.RowKit

theorem index_signs (c : UInt8) : (0 ≤ Lib.indexByte signsL c ∧ signsL.contains c = true) ∨ (Lib.indexByte signsL c = -1 ∧ signsL.contains c = false) := by
  suffices h : ∀ l : List UInt8, (0 ≤ Lib.indexByte l c ∧ l.contains c = true) ∨ (Lib.indexByte l c = -1 ∧ l.contains c = false) from h _
  intro l
  induction l with
  | nil => exact .inr ⟨rfl, rfl⟩
  | cons d l ih =>
    unfold Lib.indexByte
    by_cases h : d = c
    · subst h; left; simp
    · have h1 : (d == c) = false := by simpa using h
      have h2 : (c == d) = false := by simpa using fun e => h e.symm
      rw [h1, List.contains_cons, h2, Bool.false_or]
      rcases ih with ⟨i1, i2⟩ | ⟨i1, i2⟩
      · left
        have h3 : (Lib.indexByte l c == -1) = false := by rw [beq_eq_false_iff_ne]; omega
        rw [h3]
        exact ⟨by simp; omega, i2⟩
      · right
        rw [i1]
        exact ⟨rfl, i2⟩

set_option maxRecDepth 100000 in
set_option maxHeartbeats 3200000 in
theorem first_any (s : ByteArray) (l : List UInt8) (w : World) (hl : Tx s l) (hs : (l.length : Int) ≤ 8000) (hm : MaxC w) :
    Calls Try.prog 9 #[.string s] w fun e w' => TokR e (firstS l) ∧ Nx w w' := by
  obtain ⟨g, hg⟩ : ∃ g, w.heap.size = g := ⟨_, rfl⟩
  have hB0 := Blk.new w #[.int .i64 0, .string ⟨#[]⟩, .int .i64 0, .int .u64 0, .int .i64 0] 29
  rw [hg] at hB0
  have hN0 : Nx w (w.alloc (Obj.cells #[.int .i64 0, .string ⟨#[]⟩, .int .i64 0, .int .u64 0, .int .i64 0] 29)) := nx0 _ _
  have HM := Lib.hid (hm.nx hN0)
  cases l with
  | nil =>
    have e1 := hl.nil.1
    clear hl HM
    go_enter Try.func9, Try.ntmps9
    go_wp2_with fail
    try simp only [Exit.inBlock, Exit.then]
    refine bodyPost_ret (results_cell_tmp2_row rfl _ _ w.heap.size _ _ _ _ (by rw [hg]; rfl) (heap_alloc_new w _) Try.underlying29 rfl (by kernel_rfl)) rfl ?_
    exact ⟨⟨_, _, _, _, _, _, rfl, fun _ => ⟨rfl, rfl⟩⟩, nx0 _ _⟩
  | cons c r =>
    have HL := Lib.hid hl
    obtain ⟨hp, t0, e0, e1, ht, e2, e3⟩ := hl.cons
    have hz : (s.size : Int) = (r.length : Int) + 1 := by rw [hl.size]; simp
    have hrl : (r.length : Int) ≤ 8000 := by simp at hs; omega
    obtain ⟨bl, hbl⟩ : ∃ b, Hid (isLetS c = b) := ⟨_, rfl⟩
    obtain ⟨bd, hbd⟩ : ∃ b, Hid (isDig c = b) := ⟨_, rfl⟩
    have HX : Hid (firstS (c :: r) = if bl || decide (c.toNat = 95) then nameS (c :: r)
      else if bd || decide (c.toNat = 43) || decide (c.toNat = 45) || decide (c.toNat = 46) then numberS (c :: r)
      else if c.toNat = 34 ∨ c.toNat = 39 then quotedS c r
      else if signsL.contains c then (0, ⟨5, [c], 0, 0, 0⟩, 1) else (2, tok0, 0)) := by
      unfold Hid; rw [← hbl.out, ← hbd.out]; rfl
    obtain ⟨u, hu, HU⟩ := HL.out.upto 1
    have HU2 : Hid (Tx u [c]) := HU
    clear hl ht e1 HU
    go_enter Try.func9, Try.ntmps9
    go_wp2_with fail
    generalize hW1 : World.alloc _ _ = w1 at *
    refine (isLetter_any c w1).mono ?_; rintro e w' ⟨rfl, rfl⟩
    rw [hbl.out]
    obtain ⟨c0, c1, c2, c3, c4, f0, f1, f2, f3, f4⟩ := cells5 hB0
    have hB := Lib.hid hB0
    have hNm : bl = true ∨ (bl = false ∧ ((c.toNat : Int) == 95) = true) ∨ (bl = false ∧ ((c.toNat : Int) == 95) = false ∧ c.toNat ≠ 95) := by
      cases bl
      · by_cases h : c.toNat = 95
        · exact .inr (.inl ⟨rfl, by rw [beq_iff_eq]; omega⟩)
        · exact .inr (.inr ⟨rfl, by rw [beq_eq_false_iff_ne]; omega, h⟩)
      · exact .inl rfl
    have HXN : Hid ((bl = true ∨ ((c.toNat : Int) == 95) = true) → firstS (c :: r) = nameS (c :: r)) := by
      intro h
      rw [HX.out, if_pos]
      rcases h with h | h
      · rw [h]; rfl
      · rw [decide_eq_true (show c.toNat = 95 by rw [beq_iff_eq] at h; omega)]; simp
    rcases hNm with rfl | ⟨rfl, b95⟩ | ⟨rfl, b95, n95⟩
    · have HX2 := Lib.hid (HXN.out (.inl rfl))
      clear hB0 c0 c1 c2 c3 c4 f0 f1 f2 f3 f4
      go_wp2_with fail
      refine (name_any s (c :: r) w' HL.out (by omega) HM.out).mono ?_; rintro e w2 ⟨⟨k, t, v, d, p, n, rfl, hok⟩, hw2⟩
      have hB2 := hB.out.below hw2
      have hN2 := Nx.trans hN0 hw2
      have HOK := Lib.hid hok
      obtain ⟨c0, c1, c2, c3, c4, f0, f1, f2, f3, f4⟩ := cells5 hB2
      clear hok
      go_wp2_with fail
      try simp only [Exit.inBlock, Exit.then]
      refine bodyPost_ret (results_cell_tmp2_row rfl _ _ g _ _ _ _ rfl hB2.put5.2 Try.underlying29 rfl (by kernel_rfl)) rfl ?_
      rw [HX2.out]
      exact ⟨⟨_, _, _, _, _, _, rfl, HOK.out⟩, hN2.put5 (by omega)⟩
    · have HX2 := Lib.hid (HXN.out (.inr b95))
      clear hB0 c0 c1 c2 c3 c4 f0 f1 f2 f3 f4
      go_wp2_with fail
      refine (name_any s (c :: r) w' HL.out (by omega) HM.out).mono ?_; rintro e w2 ⟨⟨k, t, v, d, p, n, rfl, hok⟩, hw2⟩
      have hB2 := hB.out.below hw2
      have hN2 := Nx.trans hN0 hw2
      have HOK := Lib.hid hok
      obtain ⟨c0, c1, c2, c3, c4, f0, f1, f2, f3, f4⟩ := cells5 hB2
      clear hok
      go_wp2_with fail
      try simp only [Exit.inBlock, Exit.then]
      refine bodyPost_ret (results_cell_tmp2_row rfl _ _ g _ _ _ _ rfl hB2.put5.2 Try.underlying29 rfl (by kernel_rfl)) rfl ?_
      rw [HX2.out]
      exact ⟨⟨_, _, _, _, _, _, rfl, HOK.out⟩, hN2.put5 (by omega)⟩
    · have HX2 : Hid (firstS (c :: r) = if bd || decide (c.toNat = 43) || decide (c.toNat = 45) || decide (c.toNat = 46) then numberS (c :: r)
        else if c.toNat = 34 ∨ c.toNat = 39 then quotedS c r
        else if signsL.contains c then (0, ⟨5, [c], 0, 0, 0⟩, 1) else (2, tok0, 0)) := by
        unfold Hid; rw [HX.out, if_neg (by simp; exact n95)]
      clear n95 HXN HX
      go_wp2_with fail
      refine (isDigit_any c _).mono ?_; rintro e w' ⟨rfl, rfl⟩
      rw [hbd.out]
      have hNu : (bd = true ∨ bd = false ∧ (((c.toNat : Int) == 43) = true ∨ ((c.toNat : Int) == 43) = false ∧ (((c.toNat : Int) == 45) = true ∨ ((c.toNat : Int) == 45) = false ∧ ((c.toNat : Int) == 46) = true))) ∨
          (bd = false ∧ ((c.toNat : Int) == 43) = false ∧ ((c.toNat : Int) == 45) = false ∧ ((c.toNat : Int) == 46) = false ∧ c.toNat ≠ 43 ∧ c.toNat ≠ 45 ∧ c.toNat ≠ 46) := by
        cases bd
        · by_cases h1 : c.toNat = 43
          · exact .inl (.inr ⟨rfl, .inl (by rw [beq_iff_eq]; omega)⟩)
          · have e1 : ((c.toNat : Int) == 43) = false := by rw [beq_eq_false_iff_ne]; omega
            by_cases h2 : c.toNat = 45
            · exact .inl (.inr ⟨rfl, .inr ⟨e1, .inl (by rw [beq_iff_eq]; omega)⟩⟩)
            · have e2 : ((c.toNat : Int) == 45) = false := by rw [beq_eq_false_iff_ne]; omega
              by_cases h3 : c.toNat = 46
              · exact .inl (.inr ⟨rfl, .inr ⟨e1, .inr ⟨e2, by rw [beq_iff_eq]; omega⟩⟩⟩)
              · exact .inr ⟨rfl, e1, e2, by rw [beq_eq_false_iff_ne]; omega, h1, h2, h3⟩
        · exact .inl (.inl rfl)
      rcases hNu with hNu | ⟨rfl, b43, b45, b46, n43, n45, n46⟩
      · have HX3 : Hid (firstS (c :: r) = numberS (c :: r)) := by
          unfold Hid
          rw [HX2.out, if_pos]
          rcases hNu with h | ⟨_, h | ⟨_, h | ⟨_, h⟩⟩⟩
          · rw [h]; rfl
          · rw [decide_eq_true (show c.toNat = 43 by rw [beq_iff_eq] at h; omega)]; simp
          · rw [decide_eq_true (show c.toNat = 45 by rw [beq_iff_eq] at h; omega)]; simp
          · rw [decide_eq_true (show c.toNat = 46 by rw [beq_iff_eq] at h; omega)]; simp
        rcases hNu with rfl | ⟨rfl, b43 | ⟨b43, b45 | ⟨b45, b46⟩⟩⟩
        all_goals
          clear hB0 c0 c1 c2 c3 c4 f0 f1 f2 f3 f4
          go_wp2_with fail
          refine (number_any s (c :: r) w' HL.out hs).mono ?_; rintro e w2 ⟨⟨k, t, v, d, p, n, rfl, hok⟩, hw2⟩
          have hB2 := hB.out.below hw2
          have hN2 := Nx.trans hN0 hw2
          have HOK := Lib.hid hok
          obtain ⟨c0, c1, c2, c3, c4, f0, f1, f2, f3, f4⟩ := cells5 hB2
          clear hok
          go_wp2_with fail
          try simp only [Exit.inBlock, Exit.then]
          refine bodyPost_ret (results_cell_tmp2_row rfl _ _ g _ _ _ _ rfl hB2.put5.2 Try.underlying29 rfl (by kernel_rfl)) rfl ?_
          rw [HX3.out]
          exact ⟨⟨_, _, _, _, _, _, rfl, HOK.out⟩, hN2.put5 (by omega)⟩
      · have HX3 : Hid (firstS (c :: r) = if c.toNat = 34 ∨ c.toNat = 39 then quotedS c r
          else if signsL.contains c then (0, ⟨5, [c], 0, 0, 0⟩, 1) else (2, tok0, 0)) := by
          unfold Hid; rw [HX2.out, if_neg (by simp; exact ⟨⟨n43, n45⟩, n46⟩)]
        clear n43 n45 n46
        have hQ : (((c.toNat : Int) == 34) = true ∨ ((c.toNat : Int) == 34) = false ∧ ((c.toNat : Int) == 39) = true) ∨ (((c.toNat : Int) == 34) = false ∧ ((c.toNat : Int) == 39) = false ∧ ¬ (c.toNat = 34 ∨ c.toNat = 39)) := by
          by_cases h1 : c.toNat = 34
          · exact .inl (.inl (by rw [beq_iff_eq]; omega))
          · have e1 : ((c.toNat : Int) == 34) = false := by rw [beq_eq_false_iff_ne]; omega
            by_cases h2 : c.toNat = 39
            · exact .inl (.inr ⟨e1, by rw [beq_iff_eq]; omega⟩)
            · exact .inr ⟨e1, by rw [beq_eq_false_iff_ne]; omega, by omega⟩
        rcases hQ with hQ | ⟨b34, b39, hq⟩
        · have HX4 : Hid (firstS (c :: r) = quotedS c r) := by
            unfold Hid
            rw [HX3.out, if_pos]
            rcases hQ with h | ⟨_, h⟩
            · rw [beq_iff_eq] at h; omega
            · rw [beq_iff_eq] at h; omega
          rcases hQ with b34 | ⟨b34, b39⟩
          all_goals
            clear hB0 c0 c1 c2 c3 c4 f0 f1 f2 f3 f4
            go_wp2_with fail
            refine (quoted_any s c r w' HL.out (by omega)).mono ?_; rintro e w2 ⟨⟨k, t, v, d, p, n, rfl, hok⟩, hw2⟩
            have hB2 := hB.out.below hw2
            have hN2 := Nx.trans hN0 hw2
            have HOK := Lib.hid hok
            obtain ⟨c0, c1, c2, c3, c4, f0, f1, f2, f3, f4⟩ := cells5 hB2
            clear hok
            go_wp2_with fail
            try simp only [Exit.inBlock, Exit.then]
            refine bodyPost_ret (results_cell_tmp2_row rfl _ _ g _ _ _ _ rfl hB2.put5.2 Try.underlying29 rfl (by kernel_rfl)) rfl ?_
            rw [HX4.out]
            exact ⟨⟨_, _, _, _, _, _, rfl, HOK.out⟩, hN2.put5 (by omega)⟩
        · have HX4 : Hid (firstS (c :: r) = if signsL.contains c then (0, ⟨5, [c], 0, 0, 0⟩, 1) else (2, tok0, 0)) := by
            unfold Hid; rw [HX3.out, if_neg hq]
          clear hq
          go_wp2_with fail
          refine (Try.strings_IndexByte ⟨#[123, 125, 40, 41, 91, 93, 60, 62, 44, 59, 58, 61, 42]⟩ (c.toNat : Int) w').mono ?_; rintro e w' ⟨rfl, rfl⟩
          have hI : Hid (Lib.indexByte (ByteArray.mk #[123, 125, 40, 41, 91, 93, 60, 62, 44, 59, 58, 61, 42]).data.toList (c.toNat : Int).toNat.toUInt8 = Lib.indexByte signsL c) := by
            have hq : (c.toNat : Int).toNat.toUInt8 = c := by rw [Int.toNat_natCast]; exact UInt8.ofNat_toNat
            unfold Hid; rw [hq]; rfl
          rw [hI.out]
          obtain ⟨I, hI2⟩ : ∃ I, Hid (Lib.indexByte signsL c = I) := ⟨_, rfl⟩
          have hcase := index_signs c
          rw [hI2.out] at hcase ⊢
          rcases hcase with ⟨hI0, hcon⟩ | ⟨rfl, hcon⟩
          · have HX5 : Hid (firstS (c :: r) = (0, ⟨5, [c], 0, 0, 0⟩, 1)) := by unfold Hid; rw [HX4.out, if_pos hcon]
            have b0 : decide ((0 : Int) ≤ I) = true := decide_eq_true hI0
            clear hcon
            clear hB0 c0 c1 c2 c3 c4 f0 f1 f2 f3 f4
            go_wp2_with fail
            refine (fresh_any u [c] w' HU2.out).mono ?_; rintro e w2 ⟨rfl, hw2⟩
            have hB2 := hB.out.below hw2
            have hN2 := Nx.trans hN0 hw2
            obtain ⟨c0, c1, c2, c3, c4, f0, f1, f2, f3, f4⟩ := cells5 hB2
            go_wp2_with fail
            try simp only [Exit.inBlock, Exit.then]
            refine bodyPost_ret (results_cell_tmp2_row rfl _ _ g _ _ _ _ rfl hB2.put5.2 Try.underlying29 rfl (by kernel_rfl)) rfl ?_
            rw [HX5.out]
            exact ⟨⟨_, _, _, _, _, _, rfl, fun _ => ⟨rfl, rfl⟩⟩, hN2.put5 (by omega)⟩
          · have HX5 : Hid (firstS (c :: r) = (2, tok0, 0)) := by unfold Hid; rw [HX4.out, if_neg (by rw [hcon]; decide)]
            clear hcon
            go_wp2_with fail
            try simp only [Exit.inBlock, Exit.then]
            refine bodyPost_ret (results_cell_tmp2_row rfl _ _ g _ _ _ _ rfl hB0.put5.2 Try.underlying29 rfl (by kernel_rfl)) rfl ?_
            rw [HX5.out]
            exact ⟨⟨_, _, _, _, _, _, rfl, fun h => by cases h⟩, hN0.put5 (by omega)⟩
end Go.Proofs.Ytiefheocomkfiaa
