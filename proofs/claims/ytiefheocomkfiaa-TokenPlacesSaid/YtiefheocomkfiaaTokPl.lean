/- TokenPlaces: the law returns true and leaves memory as it was. -/
import Derived.Test.YtiefheocomkfiaaTokK
set_option linter.unusedVariables false
set_option linter.unusedSimpArgs false
namespace Go.Proofs.Ytiefheocomkfiaa
open Go.RowKit

/-- a name's, a sign's text stands there -/
def TextAt (L : List UInt8) (x : TokV) : Prop := x.k = 1 ∨ x.k = 5 → x.p + x.t.length ≤ L.length ∧ (L.take (x.p + x.t.length)).drop x.p = x.t
/-- words that rise from a place on, and end with the end -/
def Good (L : List UInt8) : Nat → List TokV → Prop
  | _, [] => False
  | o, [x] => x.k = 6 ∧ o ≤ x.p ∧ x.p ≤ L.length
  | o, x :: y :: r => x.k ≠ 6 ∧ o ≤ x.p ∧ x.p ≤ L.length ∧ TextAt L x ∧ Good L (x.p + 1) (y :: r)
theorem Good.less {L : List UInt8} {o o' : Nat} {ts : List TokV} (h : Good L o ts) (ho : o' ≤ o) : Good L o' ts := by
  match ts, h with
  | [x], h => exact ⟨h.1, Nat.le_trans ho h.2.1, h.2.2⟩
  | x :: y :: r, h => exact ⟨h.1, Nat.le_trans ho h.2.1, h.2.2⟩
theorem Good.at_ {L : List UInt8} {o : Nat} {ts : List TokV} (h : Good L o ts) (i : Nat) (hi : i < ts.length) :
    o ≤ ts[i].p ∧ ts[i].p ≤ L.length ∧ (ts[i].k = 6 ↔ i + 1 = ts.length) ∧ TextAt L ts[i] ∧ ∀ j (hj : j + 1 = i), ts[j].p < ts[i].p := by
  induction ts generalizing o i with
  | nil => exact h.elim
  | cons x r ih =>
    cases r with
    | nil =>
      have : i = 0 := by simp at hi; exact hi
      subst this
      refine ⟨h.2.1, h.2.2, ⟨fun _ => rfl, fun _ => h.1⟩, fun hk => ?_, fun j hj => by omega⟩
      have h6 : x.k = 6 := h.1
      rcases hk with hk | hk <;> (have hk' : x.k = _ := hk; omega)
    | cons y r =>
      obtain ⟨h1, h2, h3, h4, h5⟩ := h
      cases i with
      | zero => exact ⟨h2, h3, ⟨fun e => absurd e h1, fun e => by simp at e⟩, h4, fun j hj => by omega⟩
      | succ i =>
        obtain ⟨g1, g2, g3, g4, g5⟩ := ih h5 i (by simpa using hi)
        refine ⟨by simp; omega, by simpa using g2, ?_, by simpa using g4, fun j hj => ?_⟩
        · simp at g3 ⊢; exact g3
        · cases j with
          | zero =>
            have : i = 0 := by omega
            subst this
            simp at g1 ⊢
            omega
          | succ j =>
            have := g5 j (by omega)
            simpa using this
theorem nameS_text (l : List UInt8) (h : (nameS l).1 = 0) : (nameS l).2.1.k = 1 ∧ (nameS l).2.1.t = l.take (nameS l).2.1.t.length ∧ (nameS l).2.1.t.length ≤ l.length := by
  have hn := spanN_le isNmS l
  unfold nameS at h ⊢
  split at h
  · cases h
  · rename_i h1
    rw [if_neg h1]
    split at h
    · cases h
    · rename_i h2
      rw [if_neg h2]
      refine ⟨rfl, ?_, by simp; omega⟩
      dsimp only
      rw [List.length_take, Nat.min_eq_left hn]
theorem numberS_k (l : List UInt8) (h : (numberS l).1 = 0) : (numberS l).2.1.k = 2 ∨ (numberS l).2.1.k = 3 := by
  unfold numberS at h ⊢
  split at h
  · rename_i h1; rw [if_pos h1]; exact .inl rfl
  · rename_i h1
    rw [if_neg h1]
    split at h
    · cases h
    · rename_i h2
      rw [if_neg h2]
      split
      · exact .inl rfl
      · exact .inr rfl
theorem quotedS_k (q : UInt8) (r : List UInt8) (h : (quotedS q r).1 = 0) : (quotedS q r).2.1.k = 4 := by
  unfold quotedS at h ⊢
  split at h
  · cases h
  · rename_i h1; rw [if_neg h1]
theorem first_text (l : List UInt8) (h : (firstS l).1 = 0) (hk : (firstS l).2.1.k = 1 ∨ (firstS l).2.1.k = 5) : (firstS l).2.1.t = l.take (firstS l).2.1.t.length ∧ (firstS l).2.1.t.length ≤ l.length := by
  cases l with
  | nil => simp [firstS] at hk
  | cons c r =>
    rw [show firstS (c :: r) = if isLetS c || decide (c.toNat = 95) then nameS (c :: r)
      else if isDig c || decide (c.toNat = 43) || decide (c.toNat = 45) || decide (c.toNat = 46) then numberS (c :: r)
      else if c.toNat = 34 ∨ c.toNat = 39 then quotedS c r
      else if signsL.contains c then (0, ⟨5, [c], 0, 0, 0⟩, 1) else (2, tok0, 0) from rfl] at h hk ⊢
    split at h
    · rename_i h1
      rw [if_pos h1] at hk ⊢
      exact (nameS_text _ h).2
    · rename_i h1
      rw [if_neg h1] at hk ⊢
      split at h
      · rename_i h2
        rw [if_pos h2] at hk
        rcases numberS_k _ h with e | e <;> rw [e] at hk <;> simp at hk
      · rename_i h2
        rw [if_neg h2] at hk ⊢
        split at h
        · rename_i h3
          rw [if_pos h3] at hk
          rw [quotedS_k _ _ h] at hk
          simp at hk
        · rename_i h3
          rw [if_neg h3] at hk ⊢
          split at h
          · rename_i h4
            rw [if_pos h4]
            exact ⟨rfl, by simp⟩
          · cases h
theorem next_text (L : List UInt8) (o : Nat) (h : (nextS o (L.drop o)).1 = 0) (ho : o ≤ L.length) :
    o ≤ (nextS o (L.drop o)).2.2.1.p ∧ (nextS o (L.drop o)).2.2.1.p ≤ L.length ∧ TextAt L (nextS o (L.drop o)).2.2.1 ∧
    ((nextS o (L.drop o)).2.2.1.k ≠ 6 → (nextS o (L.drop o)).2.2.1.p + 1 ≤ o + (nextS o (L.drop o)).2.2.2) := by
  have hs := skipS_le (L.drop o)
  rw [List.length_drop] at hs
  generalize hl : L.drop o = l at *
  unfold nextS at h ⊢
  split at h
  · cases h
  · rename_i h1
    rw [if_neg h1]
    split at h
    · rename_i h2; exact absurd h h2
    · rename_i h2
      rw [if_neg h2]
      have hw := word_ok (l.drop (skipS l).1) (by simpa using h2)
      rw [hw.1]
      dsimp only
      have hdd : l.drop (skipS l).1 = L.drop (o + (skipS l).1) := by rw [← hl, List.drop_drop]
      refine ⟨by omega, by omega, fun hk => ?_, fun h6 => ?_⟩
      · dsimp only at hk ⊢
        have := first_text _ hw.2 hk
        rw [hdd] at this ⊢
        obtain ⟨t1, t2⟩ := this
        rw [List.length_drop] at t2
        refine ⟨by omega, ?_⟩
        rw [List.drop_take]
        rw [show o + (skipS l).1 + (firstS (L.drop (o + (skipS l).1))).2.1.t.length - (o + (skipS l).1) = (firstS (L.drop (o + (skipS l).1))).2.1.t.length by omega]
        exact t1.symm
      · have := first_pos _ hw.2 h6
        omega
theorem lexF_good (L : List UInt8) : ∀ (f o : Nat), o ≤ L.length → L.length - o < f → (lexF f o (L.drop o)).2.1 = 0 → Good L o (lexF f o (L.drop o)).1 := by
  intro f
  induction f with
  | zero => intro o _ h; omega
  | succ f ih =>
    intro o ho hf he
    by_cases hn : (nextS o (L.drop o)).1 = 0
    · obtain ⟨n1, n2, n3, n4⟩ := next_text L o hn ho
      have hl := next_len o (L.drop o) hn
      rw [List.length_drop] at hl
      by_cases h6 : (nextS o (L.drop o)).2.2.1.k = 6
      · rw [lexF_end f o _ hn h6]
        exact ⟨h6, n1, n2⟩
      · have hc := lexF_more f o _ hn h6 []
        rw [cat_nil _ (lexF_zero _ _ _)] at hc
        rw [hc] at he ⊢
        rw [List.drop_drop] at he ⊢
        have h1 := hl.2.1 h6
        have ih' := ih (o + (nextS o (L.drop o)).2.2.2) (by omega) (by omega)
        generalize hr : lexF f (o + (nextS o (L.drop o)).2.2.2) (L.drop (o + (nextS o (L.drop o)).2.2.2)) = r at *
        unfold cat at he ⊢
        by_cases h0 : r.2.1 = 0
        · rw [if_neg (by simpa using h0)]
          have g := ih' h0
          have h4 := n4 h6
          dsimp only
          cases hr1 : r.1 with
          | nil => rw [hr1] at g; exact g.elim
          | cons y ys =>
            rw [hr1] at g
            exact ⟨h6, n1, n2, n3, g.less h4⟩
        · rw [if_pos h0] at he; exact absurd he h0
    · rw [lexF_err f o _ hn] at he; exact absurd he hn
theorem lexF_bad (L : List UInt8) : ∀ (f o : Nat), o ≤ L.length → (lexF f o (L.drop o)).2.1 ≠ 0 → (lexF f o (L.drop o)).1 = [] ∧ (lexF f o (L.drop o)).2.2 ≤ L.length := by
  intro f
  induction f with
  | zero => intro o _ h; exact absurd rfl h
  | succ f ih =>
    intro o ho he
    by_cases hn : (nextS o (L.drop o)).1 = 0
    · have hl := next_len o (L.drop o) hn
      rw [List.length_drop] at hl
      by_cases h6 : (nextS o (L.drop o)).2.2.1.k = 6
      · rw [lexF_end f o _ hn h6] at he; exact absurd rfl he
      · have hc := lexF_more f o _ hn h6 []
        rw [cat_nil _ (lexF_zero _ _ _)] at hc
        rw [hc] at he ⊢
        rw [List.drop_drop] at he ⊢
        have ih' := ih (o + (nextS o (L.drop o)).2.2.2) (by omega)
        generalize hr : lexF f (o + (nextS o (L.drop o)).2.2.2) (L.drop (o + (nextS o (L.drop o)).2.2.2)) = r at *
        unfold cat at he ⊢
        by_cases h0 : r.2.1 = 0
        · rw [if_neg (by simpa using h0)] at he; exact absurd rfl he
        · rw [if_pos h0]; exact ih' h0
    · rw [lexF_err f o _ hn]
      refine ⟨rfl, ?_⟩
      dsimp only
      have hs := skipS_le (L.drop o)
      rw [List.length_drop] at hs
      unfold nextS
      split
      · dsimp only; omega
      · split
        · dsimp only
          have : (wordS ((L.drop o).drop (skipS (L.drop o)).1)).2.1 ≤ ((L.drop o).drop (skipS (L.drop o)).1).length := by
            have := first_len ((L.drop o).drop (skipS (L.drop o)).1)
            unfold wordS
            split
            · exact Nat.zero_le _
            · split
              · exact this
              · exact Nat.zero_le _
          simp at this ⊢
          omega
        · exact Nat.zero_le _
theorem lex_places (L : List UInt8) : ((lexS L).2.1 = 0 → Good L 0 (lexS L).1) ∧ ((lexS L).2.1 ≠ 0 → (lexS L).1 = [] ∧ (lexS L).2.2 ≤ L.length) := by
  unfold lexS
  split
  · exact ⟨fun h => by simp at h, fun _ => ⟨rfl, Nat.zero_le _⟩⟩
  · have h1 := lexF_good L (L.length + 1) 0 (Nat.zero_le _) (by omega)
    have h2 := lexF_bad L (L.length + 1) 0 (Nat.zero_le _)
    rw [List.drop_zero] at h1 h2
    exact ⟨h1, h2⟩

theorem place_facts (s u : ByteArray) (l tt : List UInt8) (tp : Nat) (hz : (s.size : Int) = (l.length : Int)) (hl2 : (l.length : Int) ≤ 200) (h1 : (tp : Int) + (tt.length : Int) ≤ (l.length : Int)) (h2 : s.extract tp (tp + tt.length) = u) :
    ∃ E : Nat, (tp : Int) + (tt.length : Int) = (E : Int) ∧ E ≤ l.length ∧ (E : Int) ≤ 200 ∧ (tp : Int) ≤ (E : Int) ∧ (E : Int) ≤ (s.size : Int) ∧ tp ≤ E ∧ IntKind.i64.wrap (E : Int) = (E : Int) ∧ s.extract tp E = u :=
  ⟨tp + tt.length, by omega, by omega, by omega, by omega, by omega, by omega, by rw [IntKind.wrap_i64]; omega, h2⟩

set_option maxRecDepth 100000 in
set_option maxHeartbeats 12800000 in
theorem TokenPlaces_walk (s : ByteArray) (w : World) (hm : MaxC w) (hs : s.size ≤ maxLen) :
    Calls Try.prog 3 #[.string s] w fun e w' => e = .returned (.bool true) ∧ Below w.heap.size w w' := by
  have HM := Lib.hid hm
  obtain ⟨l, hl⟩ : ∃ l, Hid (Tx s l) := ⟨s.data.toList, rfl⟩
  have hz : (s.size : Int) = (l.length : Int) := by rw [hl.out.size]
  clear hm
  go_enter Try.func3, Try.ntmps3
  go_wp2_with fail
  refine (begun_any _ HM.out).mono ?_; rintro e w0 ⟨rfl, hb⟩
  by_cases h200 : 200 < l.length
  · have g1 : decide ((200 : Int) < (l.length : Int)) = true := decide_eq_true (by omega)
    clear h200 hs
    go_wp2_with fail
    go_ret
    exact ⟨rfl, hb⟩
  · have g1 : decide ((200 : Int) < (l.length : Int)) = false := decide_eq_false (by omega)
    have hl2 : (l.length : Int) ≤ 200 := by omega
    have hpl := Lib.hid (lex_places l)
    clear h200 hs
    go_wp2_with fail
    refine (lex_any s l w0 hl.out (by omega) (HM.out.nx hb)).mono ?_; rintro e w1 ⟨v1, rfl, hv1, hw1⟩
    obtain ⟨R, hR⟩ : ∃ R, Hid (lexS l = R) := ⟨_, rfl⟩
    rw [hR.out] at hv1 hpl ⊢
    obtain ⟨ts, re, rat⟩ := R
    dsimp only at hv1 ⊢
    have hn1 := Nx.trans hb hw1
    obtain ⟨A, c, rfl, hc1, hc2, hr⟩ := hv1.sl
    have hts : (ts.length : Int) ≤ 9223372036854775807 := by simp only [maxLen] at hc2; omega
    by_cases he : re = 0
    · subst he
      have hg : Good l 0 ts := hpl.out.1 rfl
      have HG := Lib.hid hg
      have HR := Lib.hid hr
      clear hv1 hpl hg hr
      go_wp2_with fail
      go_loopw [6] (fun v wr => ∃ i : Nat, v = .int .i64 i ∧ i ≤ ts.length ∧ Nx w1 wr) (fun v _ => (ts.length - intOf v).toNat)
      case atStart => exact ⟨0, rfl, Nat.zero_le _, Nx.refl _⟩
      case round =>
        obtain ⟨i, rfl, hi, hbr⟩ := hrel
        by_cases hlt : i < ts.length
        · obtain ⟨g1', g2', g3', g4', g5'⟩ := HG.out.at_ i hlt
          obtain ⟨g, rfl, hgg, a0, a1, a2, a3, a4⟩ := (HR.out.nx hbr).at_ i hlt
          have hprev : i = 0 ∨ ∃ j pp : Nat, i = j + 1 ∧ wr.cell? ⟨g, j * 5 + 4, none⟩ = some (.int .i64 (pp : Int)) ∧ pp < ts[i].p := by
            cases i with
            | zero => exact .inl rfl
            | succ j =>
              obtain ⟨g2, e2, -, -, -, -, -, p4⟩ := (HR.out.nx hbr).at_ j (by omega)
              injection e2 with e2
              injection e2 with e2
              subst e2
              exact .inr ⟨j, _, rfl, p4, g5' j rfl⟩
          obtain ⟨T, hT⟩ : ∃ T, ts[i] = T := ⟨_, rfl⟩
          rw [hT] at g1' g2' g3' g4' a0 a1 a4 hprev
          obtain ⟨tk, tt, tn, td, tp⟩ := T
          dsimp only at g1' g2' g3' g4' a0 a1 a4 hprev
          have HPV := Lib.hid hprev
          clear hprev
          obtain ⟨u, hu⟩ : ∃ u : ByteArray, (⟨tt.toArray⟩ : ByteArray) = u := ⟨_, rfl⟩
          have hut : Tx u tt := by rw [← hu]; exact Tx.of tt
          rw [hu] at a1
          have hus : (u.size : Int) = (tt.length : Int) := by rw [hut.size]
          obtain ⟨B6, b6⟩ : ∃ B, ((tk : Int) == 6) = B := ⟨_, rfl⟩
          have bl : ((i : Int) == (ts.length : Int) - 1) = B6 := by
            rw [← b6, Bool.eq_iff_iff, beq_iff_eq, beq_iff_eq]; omega
          have hx : (tk = 1 ∨ tk = 5) → (tp : Int) + (tt.length : Int) ≤ (l.length : Int) ∧ s.extract tp (tp + tt.length) = u := by
            intro hk
            obtain ⟨t1, t2⟩ := g4' hk
            refine ⟨by dsimp only at t1; omega, ?_⟩
            obtain ⟨u', e1, e2⟩ := hl.out.mid tp (tp + tt.length)
            rw [e1]
            have e3 : Tx u' tt := by have := e2.out; dsimp only at t2; rw [t2] at this; exact this
            rw [e3.eq, hut.eq]
          have hx2 := fun hk => place_facts s u l tt tp hz hl2 (hx hk).1 (hx hk).2
          have q2 : decide ((l.length : Int) < (tp : Int)) = false := decide_eq_false (by omega)
          have q3 : ¬ l.length < tp := by omega
          have hk15 : ((((tk : Int) == 1) = true ∨ ((tk : Int) == 1) = false ∧ ((tk : Int) == 5) = true) ∧ ∃ E : Nat, (tp : Int) + (tt.length : Int) = (E : Int) ∧ E ≤ l.length ∧ (E : Int) ≤ 200 ∧ (tp : Int) ≤ (E : Int) ∧ (E : Int) ≤ (s.size : Int) ∧ tp ≤ E ∧ IntKind.i64.wrap (E : Int) = (E : Int) ∧ s.extract tp E = u) ∨ (((tk : Int) == 1) = false ∧ ((tk : Int) == 5) = false) := by
            by_cases k1 : tk = 1
            · exact .inl ⟨.inl (by rw [beq_iff_eq]; omega), hx2 (.inl k1)⟩
            · have e1 : ((tk : Int) == 1) = false := by rw [beq_eq_false_iff_ne]; omega
              by_cases k5 : tk = 5
              · exact .inl ⟨.inr ⟨e1, by rw [beq_iff_eq]; omega⟩, hx2 (.inr k5)⟩
              · exact .inr ⟨e1, by rw [beq_eq_false_iff_ne]; omega⟩
          have HK := Lib.hid hk15
          clear g1' g2' g3' g4' g5' hx hx2 hT hut hu hgg a2 a3 hk15
          have a0' : wr.cell? ⟨g, i * 5, none⟩ = some (.int .i64 (tk : Int)) := a0
          have a1' : wr.cell? ⟨g, i * 5 + 1, none⟩ = some (.string u) := a1
          have a4' : wr.cell? ⟨g, i * 5 + 4, none⟩ = some (.int .i64 (tp : Int)) := a4
          clear a0 a1 a4
          have j1 : (i : Int) < (ts.length : Int) := by omega
          have n1 : tp ≤ l.length := by omega
          have q1 : decide ((tp : Int) < 0) = false := decide_eq_false (by omega)
          rcases HPV.out with rfl | ⟨j, pp, hij, hp4, hpp⟩
          · simp only [Nat.zero_mul, Nat.zero_add] at a0' a1' a4'
            have bl0 : ((0 : Int) == (ts.length : Int) - 1) = B6 := bl
            have j0 : (0 : Int) < (ts.length : Int) := j1
            clear bl hi
            rw [show ((0 : Nat) : Int) = 0 from rfl]
            cases B6
            · go_wp2_with fail
              go_quiet (fail)
              go_wp2_with fail
              rcases HK.out with ⟨k1 | ⟨k1, k5⟩, E, hE, n2, n4, n5, n6, n7, n8, hx2⟩ | ⟨k1, k5⟩
              all_goals
                try (have n9 : ¬ l.length < E := by omega)
                go_quiet (fail)
                go_wp2_with fail
                go_roundw
                case rel => exact ⟨0 + 1, by go_num, by omega, hbr.dr _⟩
                case measure => simp [intOf]; omega
            · have k15 : ((tk : Int) == 1) = false ∧ ((tk : Int) == 5) = false := by
                rw [beq_iff_eq] at b6
                exact ⟨by rw [beq_eq_false_iff_ne]; omega, by rw [beq_eq_false_iff_ne]; omega⟩
              obtain ⟨k1, k5⟩ := k15
              clear HK
              go_wp2_with fail
              go_quiet (fail)
              go_wp2_with fail
              go_quiet (fail)
              go_wp2_with fail
              go_roundw
              case rel => exact ⟨0 + 1, by go_num, by omega, hbr.dr _⟩
              case measure => simp [intOf]; omega
          · have j2 : (j : Int) < (ts.length : Int) := by omega
            have n3 : ¬ tp ≤ pp := by omega
            have e1 : (i : Int) - 1 = (j : Int) := by omega
            have e2 : IntKind.i64.wrap (j : Int) = (j : Int) := by rw [IntKind.wrap_i64]; omega
            have j3 : j < ts.length := by omega
            have j4 : ¬ i = 0 := by omega
            have j6 : 0 < i := by omega
            have j5 : decide ((0 : Int) < (i : Int)) = true := decide_eq_true (by omega)
            clear hi hij
            cases B6
            · go_wp2_with fail
              go_quiet (fail)
              go_wp2_with fail
              rcases HK.out with ⟨k1 | ⟨k1, k5⟩, E, hE, n2, n4, n5, n6, n7, n8, hx2⟩ | ⟨k1, k5⟩
              all_goals
                try (have n9 : ¬ l.length < E := by omega)
                go_quiet (fail)
                go_wp2_with fail
                go_roundw
                case rel =>
                  first
                    | exact ⟨i + 1, by go_num, by omega, hbr.dr _⟩
                    | ((repeat apply Exists.intro); refine ⟨?_, rfl⟩; exact ⟨i + 1, by go_num, by omega, hbr.dr _⟩)
                case measure => simp [intOf]; omega
            · have k15 : ((tk : Int) == 1) = false ∧ ((tk : Int) == 5) = false := by
                rw [beq_iff_eq] at b6
                exact ⟨by rw [beq_eq_false_iff_ne]; omega, by rw [beq_eq_false_iff_ne]; omega⟩
              obtain ⟨k1, k5⟩ := k15
              clear HK
              go_wp2_with fail
              go_quiet (fail)
              go_wp2_with fail
              go_quiet (fail)
              go_wp2_with fail
              go_roundw
              case rel => exact ⟨i + 1, by go_num, by omega, hbr.dr _⟩
              case measure => simp [intOf]; omega
        · obtain rfl : i = ts.length := by omega
          have hpos : 0 < ts.length := by
            cases ts with
            | nil => exact HG.out.elim
            | cons x r => simp
          have hp2 : (0 : Int) < (ts.length : Int) := by omega
          go_wp2_with fail
          go_ret
          exact ⟨by first | rfl | simp [hpos], Nx.trans hn1 hbr⟩
    · obtain ⟨h1, h2⟩ := hpl.out.2 he
      dsimp only at h1 h2
      subst h1
      have b0 : ((re : Int) != 0) = true := by simp; omega
      have n1 : rat ≤ l.length := h2
      have i1 : (rat : Int) ≤ (l.length : Int) := by omega
      have i2 : decide ((0 : Int) ≤ (rat : Int)) = true := decide_eq_true (by omega)
      clear hv1 hpl hr
      go_wp2_with fail
      go_ret
      exact ⟨by first | rfl | simp [n1], hn1⟩
end Go.Proofs.Ytiefheocomkfiaa
