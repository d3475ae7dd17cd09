/- The contract of token.Lex. -/
import Derived.Test.YtiefheocomkfiaaTokI
set_option linter.unusedVariables false
set_option linter.unusedSimpArgs false
namespace Go.Proofs.Ytiefheocomkfiaa
open Go.RowKit

theorem first_pos (l : List UInt8) (h : (firstS l).1 = 0) (h6 : (firstS l).2.1.k ≠ 6) : 1 ≤ (firstS l).2.2 := by
  cases l with
  | nil => exact absurd rfl h6
  | cons c r =>
    have e : firstS (c :: r) = if isLetS c || decide (c.toNat = 95) then nameS (c :: r)
      else if isDig c || decide (c.toNat = 43) || decide (c.toNat = 45) || decide (c.toNat = 46) then numberS (c :: r)
      else if c.toNat = 34 ∨ c.toNat = 39 then quotedS c r
      else if signsL.contains c then (0, ⟨5, [c], 0, 0, 0⟩, 1) else (2, tok0, 0) := rfl
    rw [e] at h ⊢
    split at h
    · rename_i h1
      rw [if_pos h1]
      have h2 : 1 ≤ spanN isNmS (c :: r) := by
        unfold spanN
        rw [if_pos]
        · omega
        · unfold isNmS
          simp at h1 ⊢
          rcases h1 with h1 | h1
          · simp [h1]
          · simp [h1]
      unfold nameS at h ⊢
      split at h
      · cases h
      · rename_i h3
        rw [if_neg h3]
        split at h
        · cases h
        · rename_i h4
          rw [if_neg h4]
          exact h2
    · rename_i h1
      rw [if_neg h1]
      split at h
      · rename_i h2
        rw [if_pos h2]
        have h3 := (hexN_le (c :: r)).2.1
        unfold numberS at h ⊢
        split at h
        · rename_i h4
          rw [if_pos h4]
          have := h3 h4
          dsimp only
          omega
        · rename_i h4
          rw [if_neg h4]
          split at h
          · cases h
          · rename_i h5
            rw [if_neg h5]
            split
            · dsimp only; omega
            · dsimp only; omega
      · rename_i h2
        rw [if_neg h2]
        split at h
        · rename_i h3
          rw [if_pos h3]
          unfold quotedS at h ⊢
          split at h
          · cases h
          · rename_i h4
            rw [if_neg h4]
            dsimp only; omega
        · rename_i h3
          rw [if_neg h3]
          split at h
          · rename_i h4
            rw [if_pos h4]
            exact Nat.le_refl _
          · cases h
theorem word_ok (l : List UInt8) (h : (wordS l).1 = 0) : wordS l = (0, 0, (firstS l).2.1, (firstS l).2.2) ∧ (firstS l).1 = 0 := by
  unfold wordS at h ⊢
  split at h
  · rename_i h1; exact absurd h h1
  · rename_i h1
    rw [if_neg h1]
    split at h
    · cases h
    · rename_i h2
      rw [if_neg h2]
      exact ⟨rfl, by simpa using h1⟩
theorem next_len (o : Nat) (l : List UInt8) (h : (nextS o l).1 = 0) : (nextS o l).2.2.2 ≤ l.length ∧ ((nextS o l).2.2.1.k ≠ 6 → 1 ≤ (nextS o l).2.2.2) ∧ (nextS o l).2.1 = 0 := by
  have hs := skipS_le l
  unfold nextS at h ⊢
  split at h
  · cases h
  · rename_i h1
    rw [if_neg h1]
    split at h
    · rename_i h2; exact absurd h h2
    · rename_i h2
      rw [if_neg h2]
      have hw := word_ok (l.drop (skipS l).1) (by simpa using h2)
      have hl := first_len (l.drop (skipS l).1)
      rw [hw.1]
      dsimp only
      refine ⟨by simp at hl; omega, fun h6 => ?_, rfl⟩
      have := first_pos _ hw.2 h6
      omega

def cat (acc : List TokV) (r : List TokV × Nat × Nat) : List TokV × Nat × Nat := if r.2.1 ≠ 0 then r else (acc ++ r.1, 0, 0)
theorem cat_nil (r : List TokV × Nat × Nat) (h : r.2.1 = 0 → r.2.2 = 0) : cat [] r = r := by
  unfold cat
  split
  · rfl
  · rename_i h1
    obtain ⟨a, b, c⟩ := r
    have hb : b = 0 := by simpa using h1
    subst hb
    have := h rfl
    dsimp only at this
    subst this
    rfl
theorem lexF_zero (f o : Nat) (l : List UInt8) : (lexF f o l).2.1 = 0 → (lexF f o l).2.2 = 0 := by
  induction f generalizing o l with
  | zero => intro _; rfl
  | succ f ih =>
    unfold lexF
    split
    · rename_i h; intro h2; exact absurd h2 h
    · split
      · intro _; rfl
      · split
        · intro h2; rename_i h3; exact absurd h2 h3
        · intro _; rfl
theorem lexF_err (f o : Nat) (l : List UInt8) (h : (nextS o l).1 ≠ 0) : lexF (f + 1) o l = ([], (nextS o l).1, (nextS o l).2.1) := by
  conv => lhs; unfold lexF
  rw [if_pos h]
theorem lexF_end (f o : Nat) (l : List UInt8) (h : (nextS o l).1 = 0) (h6 : (nextS o l).2.2.1.k = 6) : lexF (f + 1) o l = ([(nextS o l).2.2.1], 0, 0) := by
  conv => lhs; unfold lexF
  rw [if_neg (by simpa using h), if_pos h6]
theorem lexF_more (f o : Nat) (l : List UInt8) (h : (nextS o l).1 = 0) (h6 : (nextS o l).2.2.1.k ≠ 6) (acc : List TokV) :
    cat acc (lexF (f + 1) o l) = cat (acc ++ [(nextS o l).2.2.1]) (lexF f (o + (nextS o l).2.2.2) (l.drop (nextS o l).2.2.2)) := by
  conv => lhs; unfold lexF
  rw [if_neg (by simpa using h), if_neg h6]
  generalize lexF f (o + (nextS o l).2.2.2) (l.drop (nextS o l).2.2.2) = r
  unfold cat
  by_cases h0 : r.2.1 ≠ 0
  · simp [h0]
  · rw [if_neg h0, if_neg h0]
    simp

theorem cell_newT {w : World} {cs : Array Value} {T : TypeId} {g j : Nat} (hg : g = w.heap.size) : (w.alloc (.cells cs T)).cell? ⟨g, j, none⟩ = cs[j]? := by
  subst hg; exact (Blk.new w cs T).cell j

theorem own_ne {w : World} {B : Nat} {v : Value} {xs : List TokV} (h : OwnT w B v xs) : v.ownBlock ≠ some w.heap.size := fun e => by
  have := World.ownsRow.lt h _ e
  omega

theorem Oth.bel {b B : Nat} {x y z : World} (h : Oth b x y) (hz : x.heap.size ≤ B) (hb : Below B y z) : Oth b x z :=
  ⟨hb.os.trans h.os, hb.tape.trans h.tape, hb.output.trans h.output, Nat.le_trans h.size hb.size, fun k hk hkb => (hb.block k (Nat.lt_of_lt_of_le hk hz)).trans (h.block k hk hkb)⟩
theorem Blk.bel {w w' : World} {C B g : Nat} {cs : Array Value} {T : TypeId} (h : Blk w B g cs T) (hb : Below C w w') (hg : g < C) : Blk w' B g cs T := ⟨h.1, by rw [hb.block g hg]; exact h.2⟩

set_option maxRecDepth 100000 in
set_option maxHeartbeats 3200000 in
theorem lex_any (s : ByteArray) (l : List UInt8) (w : World) (hl : Tx s l) (hs : (l.length : Int) ≤ 140737488355328) (hm : MaxC w) :
    Calls Try.prog 6 #[.string s] w fun e w' => ∃ v, e = .returned (.tuple #[v, .int .i64 ((lexS l).2.1 : Nat), .int .i64 ((lexS l).2.2 : Nat)]) ∧ OwnT w' w.heap.size v (lexS l).1 ∧ Nx w w' := by
  have HL := Lib.hid hl
  have hz : (s.size : Int) = (l.length : Int) := by rw [hl.size]
  obtain ⟨R, hR⟩ : ∃ R, Hid (lexS l = R) := ⟨_, rfl⟩
  rw [hR.out]
  by_cases hlong : 2000 < l.length
  · have g1 : decide ((2000 : Int) < (l.length : Int)) = true := decide_eq_true (by omega)
    have hr : R = ([], 4, 0) := by rw [← hR.out]; unfold lexS; rw [if_pos hlong]
    subst hr
    clear hl hlong
    go_enter Try.func6, Try.ntmps6
    go_wp2_with fail
    go_ret3
    exact ⟨_, rfl, OwnT.nil_ _ _, Nx.refl _⟩
  · have g1 : decide ((2000 : Int) < (l.length : Int)) = false := decide_eq_false (by omega)
    have hs2 : (l.length : Int) ≤ 2000 := by omega
    have HR : Hid (lexF (l.length + 1) 0 l = R) := by unfold Hid; rw [← hR.out]; unfold lexS; rw [if_neg hlong]
    obtain ⟨b, hb⟩ : ∃ b, w.heap.size = b := ⟨_, rfl⟩
    have hbm : b ≠ 0 := by
      obtain ⟨m, hmm⟩ := hm
      have := World.block_lt_of_cell? w _ hmm
      intro e
      rw [← hb] at e
      exact absurd this (by simp only; omega)
    have hB0 := Blk.new w #[.string s, .int .i64 0] 36
    rw [hb] at hB0
    have hN0 : Nx w (w.alloc (Obj.cells #[.string s, .int .i64 0] 36)) := nx0 _ _
    have HM := Lib.hid (hm.nx hN0)
    have hsz : (w.alloc (Obj.cells #[.string s, .int .i64 0] 36)).heap.size = b + 1 := by simp [hb]
    clear hl hlong hm
    go_enter Try.func6, Try.ntmps6
    go_wp2_with fail
    generalize hW1 : World.alloc _ _ = w1 at *
    go_loopw [2] (fun lv wr => ∃ (o f : Nat) (acc : List TokV), OwnT wr (b + 1) lv acc ∧ Cur wr b s o ∧ o ≤ l.length ∧ Hid (R = cat acc (lexF f o (l.drop o))) ∧ l.length - o < f ∧ acc.length ≤ o ∧ Oth b w1 wr) (fun _ wr => 10000 - atOf b wr)
    case atStart => exact ⟨0, l.length + 1, [], OwnT.nil_ _ _, hB0, Nat.zero_le _, by unfold Hid; rw [List.drop_zero, cat_nil _ (lexF_zero _ _ _)]; exact HR.out.symm, by omega, Nat.zero_le _, Oth.refl _ _⟩
    case round =>
      obtain ⟨o, f, acc, hown, hC, ho, HS, hf, hacc, hO⟩ := hrel
      obtain ⟨f, rfl⟩ : ∃ k, f = k + 1 := ⟨f - 1, by omega⟩
      obtain ⟨X, hX⟩ : ∃ X, Hid (nextS o (l.drop o) = X) := ⟨_, rfl⟩
      have hnl := next_len o (l.drop o)
      have hE := lexF_err f o (l.drop o)
      have hD := lexF_end f o (l.drop o)
      have hMo := fun h h6 => lexF_more f o (l.drop o) h h6 acc
      rw [hX.out] at hnl hE hD hMo
      obtain ⟨xe, xat, xt, xn⟩ := X
      dsimp only at hnl hE hD hMo
      have HE := Lib.hid hE
      have HD := Lib.hid hD
      have HMo := Lib.hid hMo
      have HNL := Lib.hid hnl
      have hat := hC.at_
      have HC := Lib.hid hC
      have HOWN := Lib.hid hown
      have HO := Lib.hid hO
      clear hE hD hMo hnl hC hown hO
      go_wp2_with fail
      refine (next_any b s l o _ HC.out HL.out ho (by omega) (HO.out.maxC HM.out hbm) hbm).mono ?_; rintro e w2 ⟨k, t, v, d, p, rfl, h1, h2, ho2⟩
      rw [hX.out] at h1 h2 ⊢
      dsimp only at h1 h2 ⊢
      have hO2 := HO.out.trans ho2
      have hown2 := HOWN.out.oth ho2 (by omega)
      by_cases he : xe = 0
      · subst he
        obtain ⟨hcs, hC2⟩ := h2 rfl
        obtain ⟨hn1, hn2, hn3⟩ := HNL.out rfl
        rw [List.length_drop] at hn1
        obtain ⟨fk, ft, fv, fd, fp⟩ := xt
        unfold tokC at hcs
        simp at hcs
        obtain ⟨rfl, rfl, rfl, rfl, rfl⟩ := hcs
        have hsz2 : b + 1 ≤ w2.heap.size := by have := hO2.size; omega
        have hal : (acc.length : Int) ≤ 100000 := by omega
        clear h1 h2
        by_cases h6 : fk = 6
        · subst h6
          have HRS : Hid (R = (acc ++ [⟨6, ft, v, fd, fp⟩], 0, 0)) := by unfold Hid; rw [HS.out, HD.out rfl rfl]; rfl
          go_wp2_with (at_builtin; go_must (refine wpList_appT _ rfl _ _ rfl (b + 1) _ acc ⟨6, ft, v, fd, fp⟩ rfl ((hown2.alloc _).alloc _) _ rfl (fun j hj => cell_newT (by simp)) hal (by simp; omega) ?_; intro v3 w3 hown3 hbel3 hold3; have c0 : w3.cell? ⟨w2.heap.size, 0, none⟩ = some (.int .i64 (6 : Int)) := (World.cell?_of_block (hold3 w2.heap.size (by simp; omega) (own_ne hown2))).trans (((Blk.new w2 _ _).alloc _).cell 0)))
          go_ret3
          rw [HRS.out]
          refine ⟨_, rfl, hown3.less (by omega), ?_⟩
          exact Oth.to ((hO2.trans (Oth.nx (nxa (nx0 w2 _) _))).bel (Nat.le_of_eq hsz) hbel3) hN0 (by omega)
        · have h6b : ((fk : Int) == 6) = false := by rw [beq_eq_false_iff_ne]; omega
          have HRS : Hid (R = cat (acc ++ [⟨fk, ft, v, fd, fp⟩]) (lexF f (o + xn) (l.drop (o + xn)))) := by unfold Hid; rw [HS.out, HMo.out rfl h6, List.drop_drop]
          go_wp2_with (at_builtin; go_must (refine wpList_appT _ rfl _ _ rfl (b + 1) _ acc ⟨fk, ft, v, fd, fp⟩ rfl ((hown2.alloc _).alloc _) _ rfl (fun j hj => cell_newT (by simp)) hal (by simp; omega) ?_; intro v3 w3 hown3 hbel3 hold3; have c0 : w3.cell? ⟨w2.heap.size, 0, none⟩ = some (.int .i64 ((fk : Nat) : Int)) := (World.cell?_of_block (hold3 w2.heap.size (by simp; omega) (own_ne hown2))).trans (((Blk.new w2 _ _).alloc _).cell 0)))
          go_roundw
          case rel =>
            exact ⟨o + xn, f, acc ++ [⟨fk, ft, v, fd, fp⟩], hown3, ((hC2.alloc _).alloc _).bel hbel3 (by omega), by omega, HRS, by have := hn2 h6; omega, by have := hn2 h6; simp; omega, (hO2.trans (Oth.nx (nxa (nx0 w2 _) _))).bel (Nat.le_of_eq hsz) hbel3⟩
          case measure =>
            have hC3 := ((hC2.alloc (.cells #[.int .i64 (fk : Nat), .string ⟨ft.toArray⟩, .int .i64 v, .int .u64 (fd : Nat), .int .i64 (fp : Nat)] 29)).alloc (.cells #[.int .i64 (fk : Nat), .string ⟨ft.toArray⟩, .int .i64 v, .int .u64 (fd : Nat), .int .i64 (fp : Nat)] 29)).bel hbel3 (by omega)
            have := Cur.at_ hC3
            have := hn2 h6
            omega
      · have hC2 := h1 he
        have HRS : Hid (R = ([], xe, xat)) := by unfold Hid; rw [HS.out, HE.out he]; unfold cat; rw [if_pos he]
        have b0 : ((xe : Int) != 0) = true := by simp; omega
        have hsz2 : b + 1 ≤ w2.heap.size := by have := hO2.size; omega
        have hN2 : Nx w w2 := Oth.to hO2 hN0 (by omega)
        clear h1 h2
        go_wp2_with fail
        generalize hW3 : World.alloc _ _ = w3
        have c1 : w3.cell? ⟨b, 1, none⟩ = some (.int .i64 (xat : Int)) := by rw [← hW3]; exact (hC2.alloc _).cell 1
        have hN3 : Nx w w3 := by rw [← hW3]; exact hN2.al _
        clear hW3
        go_quiet (fail)
        go_wp2_with fail
        go_ret3
        rw [HRS.out]
        exact ⟨_, rfl, OwnT.nil_ _ _, hN3.dr _⟩
end Go.Proofs.Ytiefheocomkfiaa
