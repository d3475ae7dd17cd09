/- The contracts of token's cursor. -/
import Derived.Test.YtiefheocomkfiaaTokT
set_option linter.unusedVariables false
set_option linter.unusedSimpArgs false
namespace Go.Proofs.Ytiefheocomkfiaa
open Go.RowKit

set_option maxRecDepth 100000 in
set_option maxHeartbeats 800000 in
theorem isNumber_any (k v p : Int) (t : ByteArray) (d : Int) (w : World) :
    Calls Try.prog 11 #[.agg #[.int .i64 k, .string t, .int .i64 v, .int .u64 d, .int .i64 p]] w fun e w' => e = .returned (.bool (decide (k = 2) || decide (k = 3))) ∧ Nx w w' := by
  go_enter Try.func11, Try.ntmps11
  go_wp2_with fail
  all_goals
    go_ret
    refine ⟨congrArg (fun b => Ending.returned (Value.bool b)) ?_, nx0 _ _⟩
    rw [Bool.eq_iff_iff]
    simp
    try omega

set_option maxRecDepth 100000 in
set_option maxHeartbeats 800000 in
theorem goesOn_any (s : ByteArray) (l : List UInt8) (w : World) (hl : Tx s l) :
    Calls Try.prog 12 #[.string s] w fun e w' => e = .returned (.bool (goesS l)) ∧ w' = w := by
  cases l with
  | nil =>
    have e1 := hl.nil.1
    clear hl
    go_enter Try.func12, Try.ntmps12
    go_wp2_with fail
    go_ret
    exact ⟨rfl, rfl⟩
  | cons c r =>
    obtain ⟨hp, t, e0, e1, ht, e2, e3⟩ := hl.cons
    clear hl ht
    go_enter Try.func12, Try.ntmps12
    go_wp2_with fail
    refine (isOfName_any c w).mono ?_; rintro e w' ⟨rfl, rfl⟩
    have hG : Hid (goesS (c :: r) = isNmS c) := rfl
    obtain ⟨b, hb⟩ : ∃ b, Hid (isNmS c = b) := ⟨_, rfl⟩
    rw [hb.out]
    go_wp2_with fail
    go_ret
    rw [hG.out, hb.out]
    exact ⟨by first | rfl | simp, rfl⟩

/-- a cursor: the text, the place -/
abbrev Cur (w : World) (b : Nat) (s : ByteArray) (o : Nat) : Prop := Blk w b b #[.string s, .int .i64 (o : Int)] 36

set_option maxRecDepth 100000 in
set_option maxHeartbeats 800000 in
theorem rest_any (b : Nat) (s : ByteArray) (l : List UInt8) (o : Nat) (w : World) (hB : Cur w b s o) (hl : Tx s l) (ho : o ≤ l.length) :
    Calls Try.prog 10 #[.pointer (some ⟨b, 0, none⟩)] w fun e w' => ∃ u, e = .returned (.string u) ∧ Hid (Tx u (l.drop o)) ∧ Nx w w' := by
  obtain ⟨u, hu, HU⟩ := hl.from_ o
  have hz : (o : Int) ≤ (s.size : Int) := by rw [hl.size]; omega
  have c0 : w.cell? ⟨b, 0, none⟩ = some (.string s) := hB.cell 0
  have c1 : w.cell? ⟨b, 1, none⟩ = some (.int .i64 (o : Int)) := hB.cell 1
  clear hl ho hB
  go_enter Try.func10, Try.ntmps10
  go_wp2_with fail
  go_quiet (fail)
  go_wp2_with fail
  go_ret
  exact ⟨u, rfl, HU, (Nx.refl w).dr _⟩

/-- the place of a cursor -/
def atOf (b : Nat) (w : World) : Nat := match w.cell? ⟨b, 1, none⟩ with
  | some (.int _ n) => n.toNat
  | _ => 0
theorem Cur.at_ {w : World} {b : Nat} {s : ByteArray} {o : Nat} (h : Cur w b s o) : atOf b w = o := by
  unfold atOf
  rw [show w.cell? ⟨b, 1, none⟩ = some (.int .i64 (o : Int)) from h.cell 1]
  simp

set_option maxRecDepth 100000 in
set_option maxHeartbeats 1600000 in
theorem skip_any (b : Nat) (s : ByteArray) (l : List UInt8) (o : Nat) (w : World) (hB : Cur w b s o) (hl : Tx s l) (ho : o ≤ l.length) (hs : (l.length : Int) ≤ 8000) (hm : MaxC w) (hb : b ≠ 0) :
    Calls Try.prog 8 #[.pointer (some ⟨b, 0, none⟩)] w fun e w' => e = .returned (.bool (skipS (l.drop o)).2) ∧ Cur w' b s (o + (skipS (l.drop o)).1) ∧ Oth b w w' := by
  have HL := Lib.hid hl
  have HM := Lib.hid hm
  have HB := Lib.hid hB
  obtain ⟨P, hP⟩ : ∃ P, Hid (skipS (l.drop o) = P) := ⟨_, rfl⟩
  rw [hP.out]
  obtain ⟨pn, pb⟩ := P
  clear hl hm hB
  go_enter Try.func8, Try.ntmps8
  go_wp2_with fail
  go_loopw [] (fun wr => ∃ n : Nat, Cur wr b s (o + n) ∧ o + n ≤ l.length ∧ Hid (pn = n + (skipS (l.drop (o + n))).1 ∧ (skipS (l.drop (o + n))).2 = pb) ∧ Oth b w wr) (fun wr => 10000 - atOf b wr)
  case atStart => exact ⟨0, HB.out, ho, by unfold Hid; simp [hP.out], Oth.refl _ _⟩
  case round =>
    obtain ⟨n, hC, hn, HS, ho⟩ := hrel
    obtain ⟨l1, hl1⟩ : ∃ l1, Hid (l.drop (o + n) = l1) := ⟨_, rfl⟩
    rw [hl1.out] at HS
    have hl1n : l1.length + (o + n) = l.length := by rw [← hl1.out]; simp; omega
    have hat := hC.at_
    have HC := Lib.hid hC
    have HO := Lib.hid ho
    obtain ⟨G, hG⟩ : ∃ G, Hid (gapS l1 = G) := ⟨_, rfl⟩
    obtain ⟨gn, gb⟩ := G
    have hgle := (gapS_le l1).1
    rw [hG.out] at hgle
    have hst := skipS_step l1
    rw [hG.out] at hst
    have HST := Lib.hid hst
    have HLE := Lib.hid hgle
    have hnI : (o : Int) + (n : Int) ≤ 8000 := by omega
    have hgI : (gn : Int) ≤ 8000 := by simp at hgle; omega
    clear hC ho hst hgle
    go_wp2_with fail
    refine (rest_any b s l (o + n) _ HC.out HL.out hn).mono ?_; rintro e w1 ⟨u, rfl, HU, hw1⟩
    rw [hl1.out] at HU
    have ho1 := HO.out.trans (Oth.nx hw1)
    have hC1 := HC.out.below hw1
    go_wp2_with fail
    refine (gap_any u l1 _ HU.out (by omega) (ho1.maxC HM.out hb)).mono ?_; rintro e w' ⟨rfl, rfl⟩
    rw [hG.out]
    by_cases h0 : gn = 0
    · subst h0
      have HF : Hid (skipS l1 = (0, gb)) := HST.out
      go_wp2_with fail
      go_ret
      have := HS.out
      rw [HF.out] at this
      obtain ⟨rfl, rfl⟩ := this
      exact ⟨rfl, hC1, ho1⟩
    · have b0 : ((gn : Int) == 0) = false := by rw [beq_eq_false_iff_ne]; omega
      have HF : Hid (skipS l1 = (gn + (skipS (l1.drop gn)).1, (skipS (l1.drop gn)).2)) := by unfold Hid; rw [HST.out, if_neg h0]
      have c1 : w'.cell? ⟨b, 1, none⟩ = some (.int .i64 ((o + n : Nat) : Int)) := hC1.cell 1
      have f1 := hC1.free 1
      have HG0 := Lib.hid h0
      clear h0
      go_wp2_with fail
      go_roundw
      case rel =>
        have hd : l.drop (o + (n + gn)) = l1.drop gn := by rw [← hl1.out, List.drop_drop]; congr 1; omega
        refine ⟨n + gn, ?_, ?_, ?_, ho1.own⟩
        · have e : ((o : Int) + (n : Int) + (gn : Int)) = ((o + (n + gn) : Nat) : Int) := by omega
          rw [e]
          exact hC1.put 1 _
        · have := HLE.out; omega
        · unfold Hid
          rw [hd]
          have h1 := HS.out
          rw [HF.out] at h1
          exact ⟨by rw [h1.1]; simp; omega, h1.2⟩
      case measure =>
        have e : ((o : Int) + (n : Int) + (gn : Int)) = ((o + (n + gn) : Nat) : Int) := by omega
        rw [e]
        have h1 : Cur (w'.setCell ⟨b, 1, none⟩ (.int .i64 ((o + (n + gn) : Nat) : Int))) b s (o + (n + gn)) := hC1.put 1 _
        rw [h1.at_, hat]
        have := HLE.out
        have := HG0.out
        omega

theorem Blk.put_4 {w : World} {B g : Nat} {T : TypeId} {a0 a1 a2 a3 a4 v : Value} (h : Blk w B g #[a0, a1, a2, a3, a4] T) : Blk (w.setCell ⟨g, 4, none⟩ v) B g #[a0, a1, a2, a3, v] T := h.put 4 v
theorem Blk.other5 {w : World} {B g k : Nat} {cs : Array Value} {T : TypeId} {v0 v1 v2 v3 v4 : Value} (h : Blk w B g cs T) (hk : k ≠ g) :
    Blk (((((w.setCell ⟨k, 0, none⟩ v0).setCell ⟨k, 1, none⟩ v1).setCell ⟨k, 2, none⟩ v2).setCell ⟨k, 3, none⟩ v3).setCell ⟨k, 4, none⟩ v4) B g cs T :=
  ((((h.other hk _ _).other hk _ _).other hk _ _).other hk _ _).other hk _ _
theorem numTok_is (x : TokV) (k : Int) (h : k = (x.k : Nat)) : (decide (k = 2) || decide (k = 3)) = numTok x := by
  subst h; unfold numTok; rw [Bool.eq_iff_iff]; simp; omega

theorem nameS_len (l : List UInt8) : (nameS l).2.2 ≤ l.length := by
  have := spanN_le isNmS l
  unfold nameS
  split
  · exact Nat.zero_le _
  · split
    · exact Nat.zero_le _
    · exact this
theorem numberS_len (l : List UInt8) : (numberS l).2.2 ≤ l.length := by
  have h1 := (hexN_le l).1
  have h2 := decN_le l
  unfold numberS
  split
  · exact h1
  · split
    · exact Nat.zero_le _
    · split <;> exact h2
theorem quotedS_len (q : UInt8) (r : List UInt8) : (quotedS q r).2.2 ≤ r.length + 1 := by
  have h1 := spanN_le (fun c => decide (c ≠ q)) r
  have h2 : quoteN q r ≤ r.length := h1
  unfold quotedS
  split
  · exact Nat.zero_le _
  · rename_i h
    dsimp only
    omega
theorem first_len (l : List UInt8) : (firstS l).2.2 ≤ l.length := by
  cases l with
  | nil => exact Nat.le_refl _
  | cons c r =>
    rw [show firstS (c :: r) = if isLetS c || decide (c.toNat = 95) then nameS (c :: r)
      else if isDig c || decide (c.toNat = 43) || decide (c.toNat = 45) || decide (c.toNat = 46) then numberS (c :: r)
      else if c.toNat = 34 ∨ c.toNat = 39 then quotedS c r
      else if signsL.contains c then (0, ⟨5, [c], 0, 0, 0⟩, 1) else (2, tok0, 0) from rfl]
    split
    · exact nameS_len _
    · split
      · exact numberS_len _
      · split
        · have := quotedS_len c r; simp; omega
        · split
          · simp
          · exact Nat.zero_le _

set_option maxRecDepth 100000 in
set_option maxHeartbeats 3200000 in
theorem next_any (b : Nat) (s : ByteArray) (l : List UInt8) (o : Nat) (w : World) (hB : Cur w b s o) (hl : Tx s l) (ho : o ≤ l.length) (hs : (l.length : Int) ≤ 8000) (hm : MaxC w) (hb : b ≠ 0) :
    Calls Try.prog 7 #[.pointer (some ⟨b, 0, none⟩)] w fun e w' => ∃ k t v d p, e = .returned (.tuple #[.agg #[.int .i64 k, .string t, .int .i64 v, .int .u64 d, .int .i64 p], .int .i64 ((nextS o (l.drop o)).1 : Nat)]) ∧
      ((nextS o (l.drop o)).1 ≠ 0 → Cur w' b s (nextS o (l.drop o)).2.1) ∧
      ((nextS o (l.drop o)).1 = 0 → #[.int .i64 k, .string t, .int .i64 v, .int .u64 d, .int .i64 p] = tokC (nextS o (l.drop o)).2.2.1 ∧ Cur w' b s (o + (nextS o (l.drop o)).2.2.2)) ∧ Oth b w w' := by
  obtain ⟨g, hg⟩ : ∃ g, w.heap.size = g := ⟨_, rfl⟩
  have hbg : b < g := by rw [← hg]; exact hB.lt
  have hB0 := Blk.new w #[.int .i64 0, .string ⟨#[]⟩, .int .i64 0, .int .u64 0, .int .i64 0] 29
  rw [hg] at hB0
  have hN0 : Nx w (w.alloc (Obj.cells #[.int .i64 0, .string ⟨#[]⟩, .int .i64 0, .int .u64 0, .int .i64 0] 29)) := nx0 _ _
  have HL := Lib.hid hl
  have hC0 := hB.below hN0
  have HM := Lib.hid (hm.nx hN0)
  obtain ⟨X, hX⟩ : ∃ X, Hid (nextS o (l.drop o) = X) := ⟨_, rfl⟩
  rw [hX.out]
  obtain ⟨xe, xat, xt, xn⟩ := X
  obtain ⟨P, hP⟩ : ∃ P, Hid (skipS (l.drop o) = P) := ⟨_, rfl⟩
  obtain ⟨pn, pb⟩ := P
  have hpn := skipS_le (l.drop o)
  rw [hP.out] at hpn
  have hop : o + pn ≤ l.length := by simp at hpn; omega
  have HX : Hid ((xe, xat, xt, xn) = if pb = false then (2, o + pn, tok0, 0)
    else if (wordS (l.drop (o + pn))).1 ≠ 0 then ((wordS (l.drop (o + pn))).1, o + pn + (wordS (l.drop (o + pn))).2.1, tok0, 0)
    else (0, 0, { (wordS (l.drop (o + pn))).2.2.1 with p := o + pn }, pn + (wordS (l.drop (o + pn))).2.2.2)) := by
    unfold Hid
    rw [← hX.out]
    unfold nextS
    rw [hP.out, List.drop_drop]
  obtain ⟨m, hmm⟩ : ∃ m, Hid (l.drop (o + pn) = m) := ⟨_, rfl⟩
  rw [hmm.out] at HX
  have hml : m.length ≤ l.length := by rw [← hmm.out]; simp
  clear hl hm hB hpn hX
  go_enter Try.func7, Try.ntmps7
  go_wp2_with fail
  generalize hW1 : World.alloc _ _ = w1 at *
  refine (skip_any b s l o w1 hC0 HL.out ho hs HM.out hb).mono ?_; rintro e w2 ⟨rfl, hC2, ho2⟩
  rw [hP.out] at hC2 ⊢
  dsimp only at hC2 ⊢
  have hT2 := ho2.blk hB0 (by omega)
  have hO2 := Oth.mono ho2 hN0
  have HM2 := Lib.hid (ho2.maxC HM.out hb)
  obtain ⟨c0, c1, c2, c3, c4, f0, f1, f2, f3, f4⟩ := cells5 hT2
  cases pb
  · have hx := HX.out
    rw [if_pos rfl] at hx
    simp only [Prod.mk.injEq] at hx
    obtain ⟨rfl, rfl, -, -⟩ := hx
    clear HX
    go_wp2_with fail
    refine bodyPost_ret (results_cell_tmp_row rfl _ _ g _ _ _ _ rfl hT2.put5.2 Try.underlying29 rfl (by kernel_rfl)) rfl ?_
    refine ⟨_, _, _, _, _, rfl, fun _ => ?_, fun h => by simp at h, hO2.put5 (by omega)⟩
    exact hC2.other5 (by omega)
  · have HX2 : Hid ((xe, xat, xt, xn) = if (wordS m).1 ≠ 0 then ((wordS m).1, o + pn + (wordS m).2.1, tok0, 0)
      else (0, 0, { (wordS m).2.2.1 with p := o + pn }, pn + (wordS m).2.2.2)) := by unfold Hid; rw [HX.out, if_neg (by simp)]
    have d1 : w2.cell? ⟨b, 1, none⟩ = some (.int .i64 ((o + pn : Nat) : Int)) := hC2.cell 1
    have HC2 := Lib.hid hC2
    clear HX hC2
    clear c0 c1 c2 c3 c4 f0 f1 f2 f3 f4
    go_wp2_with fail
    refine (rest_any b s l (o + pn) _ HC2.out HL.out hop).mono ?_; rintro e w3 ⟨u, rfl, HU, hw3⟩
    rw [hmm.out] at HU
    have hC3 := HC2.out.below hw3
    have hT3 := hT2.below hw3
    have hO3 := hO2.trans (Oth.nx hw3)
    go_wp2_with fail
    obtain ⟨F, hF⟩ : ∃ F, Hid (firstS m = F) := ⟨_, rfl⟩
    obtain ⟨fe, fx, fn⟩ := F
    have hW : wordS m = if fe ≠ 0 then (fe, 0, tok0, 0) else if numTok fx && goesS (m.drop fn) then (2, fn, tok0, 0) else (0, 0, fx, fn) := by unfold wordS; rw [hF.out]
    refine (first_any u m _ HU.out (by omega) (HM2.out.nx hw3)).mono ?_; rintro e w4 ⟨⟨k, t, v, d, p, n, rfl, hok⟩, hw4⟩
    rw [hF.out] at hok ⊢
    dsimp only at hok ⊢
    have hC4 := Lib.hid (hC3.below hw4)
    have hT4 := hT3.below hw4
    have hO4 := hO3.trans (Oth.nx hw4)
    have HW := Lib.hid hW
    have HOK := Lib.hid hok
    obtain ⟨c0, c1, c2, c3, c4, f0, f1, f2, f3, f4⟩ := cells5 hT4
    clear hW hok
    by_cases h0 : fe = 0
    · subst h0
      have HW2 : Hid (wordS m = if numTok fx && goesS (m.drop fn) then (2, fn, tok0, 0) else (0, 0, fx, fn)) := HW.out
      obtain ⟨hcs, rfl⟩ := HOK.out rfl
      obtain ⟨fk, ft, fv, fd, fp⟩ := fx
      unfold tokC at hcs
      simp at hcs
      obtain ⟨rfl, rfl, rfl, rfl, rfl⟩ := hcs
      have d1 : w4.cell? ⟨b, 1, none⟩ = some (.int .i64 ((o + pn : Nat) : Int)) := hC4.out.cell 1
      have fb1 := hC4.out.free 1
      have hfn := first_len m
      rw [hF.out] at hfn
      dsimp only at hfn
      have hopn : o + pn + fn ≤ l.length := by
        have : m.length = l.length - (o + pn) := by rw [← hmm.out]; simp
        omega
      have hfnI : (o : Int) + (pn : Int) + (fn : Int) ≤ 8000 := by omega
      have hdm : Hid (l.drop (o + pn + fn) = m.drop fn) := by unfold Hid; rw [← hmm.out, List.drop_drop]
      obtain ⟨nb, hnb⟩ : ∃ nb, Hid ((decide ((fk : Int) = 2) || decide ((fk : Int) = 3)) = nb) := ⟨_, rfl⟩
      have hnt : numTok ⟨fk, ft, v, fd, fp⟩ = nb := by rw [← hnb.out]; exact (numTok_is ⟨fk, ft, v, fd, fp⟩ fk rfl).symm
      rw [hnt] at HW2
      clear hnt hfn
      go_wp2_with fail
      generalize hW5 : World.setCell _ _ _ = w5
      have hT5 : Blk w5 g g #[.int .i64 (fk : Nat), .string ⟨ft.toArray⟩, .int .i64 v, .int .u64 (fd : Nat), .int .i64 (fp : Nat)] 29 := by rw [← hW5]; exact hT4.put5.other (by omega) _ _
      have hC5 : Cur w5 b s (o + pn + fn) := by
        rw [← hW5]
        have e : ((o : Int) + (pn : Int) + (fn : Int)) = ((o + pn + fn : Nat) : Int) := by omega
        rw [e]
        exact (hC4.out.other5 (by omega)).put 1 _
      have hO5 : Oth b w w5 := by rw [← hW5]; exact (hO4.put5 (by omega)).own
      clear hW5 c0 c1 c2 c3 c4 f0 f1 f2 f3 f4 d1 fb1
      refine (isNumber_any _ _ _ _ _ w5).mono ?_; rintro e w6 ⟨rfl, hw6⟩
      rw [hnb.out]
      have hT6 := hT5.below hw6
      have hC6 := Lib.hid (hC5.below hw6)
      have hO6 := hO5.trans (Oth.nx hw6)
      cases nb
      · have HW3 : Hid (wordS m = (0, 0, ⟨fk, ft, v, fd, fp⟩, fn)) := HW2
        have hx := HX2.out
        rw [HW3.out, if_neg (by simp)] at hx
        simp only [Prod.mk.injEq] at hx
        obtain ⟨rfl, rfl, rfl, rfl⟩ := hx
        obtain ⟨c0, c1, c2, c3, c4, f0, f1, f2, f3, f4⟩ := cells5 hT6
        clear HX2
        go_wp2_with fail
        refine bodyPost_ret (results_cell_tmp_row rfl _ _ g _ _ _ _ rfl hT6.put_4.put5.2 Try.underlying29 rfl (by kernel_rfl)) rfl ?_
        refine ⟨_, _, _, _, _, rfl, ⟨by simp [tokC], ?_⟩, (hO6.put (by omega) _ _).put5 (by omega)⟩
        rw [show o + (pn + fn) = o + pn + fn by omega]
        exact (hC6.out.other (by omega) _ _).other5 (by omega)
      · have HW3 : Hid (wordS m = if goesS (m.drop fn) then (2, fn, tok0, 0) else (0, 0, ⟨fk, ft, v, fd, fp⟩, fn)) := by unfold Hid; rw [HW2.out, Bool.true_and]
        go_wp2_with fail
        refine (rest_any b s l (o + pn + fn) _ hC6.out HL.out hopn).mono ?_; rintro e w7 ⟨u7, rfl, HU7, hw7⟩
        rw [hdm.out] at HU7
        have hT7 := hT6.below hw7
        have hC7 := Lib.hid (hC6.out.below hw7)
        have hO7 := hO6.trans (Oth.nx hw7)
        go_wp2_with fail
        refine (goesOn_any u7 _ _ HU7.out).mono ?_; rintro e w8 ⟨rfl, rfl⟩
        obtain ⟨gb, hgb⟩ : ∃ gb, Hid (goesS (m.drop fn) = gb) := ⟨_, rfl⟩
        rw [hgb.out] at HW3 ⊢
        obtain ⟨c0, c1, c2, c3, c4, f0, f1, f2, f3, f4⟩ := cells5 hT7
        cases gb
        · have HW4 : Hid (wordS m = (0, 0, ⟨fk, ft, v, fd, fp⟩, fn)) := HW3
          have hx := HX2.out
          rw [HW4.out, if_neg (by simp)] at hx
          simp only [Prod.mk.injEq] at hx
          obtain ⟨rfl, rfl, rfl, rfl⟩ := hx
          clear HX2
          go_wp2_with fail
          refine bodyPost_ret (results_cell_tmp_row rfl _ _ g _ _ _ _ rfl hT7.put_4.put5.2 Try.underlying29 rfl (by kernel_rfl)) rfl ?_
          refine ⟨_, _, _, _, _, rfl, ⟨by simp [tokC], ?_⟩, (hO7.put (by omega) _ _).put5 (by omega)⟩
          rw [show o + (pn + fn) = o + pn + fn by omega]
          exact (hC7.out.other (by omega) _ _).other5 (by omega)
        · have HW4 : Hid (wordS m = (2, fn, tok0, 0)) := HW3
          have hx := HX2.out
          rw [HW4.out, if_pos (by simp)] at hx
          simp only [Prod.mk.injEq] at hx
          obtain ⟨rfl, rfl, rfl, rfl⟩ := hx
          clear HX2
          go_wp2_with fail
          refine bodyPost_ret (results_cell_tmp_row rfl _ _ g _ _ _ _ rfl hT7.put5.2 Try.underlying29 rfl (by kernel_rfl)) rfl ?_
          exact ⟨_, _, _, _, _, rfl, fun _ => hC7.out.other5 (by omega), fun h => by simp at h, hO7.put5 (by omega)⟩
    · have HW2 : Hid (wordS m = (fe, 0, tok0, 0)) := by unfold Hid; rw [HW.out, if_pos h0]
      have hx := HX2.out
      rw [HW2.out, if_pos h0] at hx
      simp only [Prod.mk.injEq] at hx
      obtain ⟨rfl, rfl, -, -⟩ := hx
      have b0 : ((xe : Int) != 0) = true := by simp; omega
      have H0 := Lib.hid h0
      clear HX2
      go_wp2_with fail
      refine bodyPost_ret (results_cell_tmp_row rfl _ _ g _ _ _ _ rfl hT4.put5.put5.2 Try.underlying29 rfl (by kernel_rfl)) rfl ?_
      refine ⟨_, _, _, _, _, rfl, fun _ => ?_, fun h => absurd h H0.out, (hO4.put5 (by omega)).put5 (by omega)⟩
      exact (hC4.out.other5 (by omega)).other5 (by omega)
end Go.Proofs.Ytiefheocomkfiaa
