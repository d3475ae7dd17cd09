/- The contracts of dec's parts of a text: an exponent, the whole number taken apart. -/
import Derived.Test.YtpaacfoiiihbeaaGreatDecA
import Derived.Test.YtpaacfoiiihbeaaGreatShelf
namespace Go.Proofs.YtpaacfoiiihbeaaGreat
open Go.RowKit

/-- digits as a number, capped by 401 -/
def capF : List UInt8 → Nat → Nat
  | [], v => v
  | c :: l, v => capF l (min (10 * v + digV c) 401)
def digs (l : List UInt8) : Prop := ∀ c ∈ l, isDig c = true
theorem spanD_digs (l : List UInt8) : digs (spanD l).1 := by
  induction l with
  | nil => intro c hc; cases hc
  | cons a l ih =>
    unfold spanD
    split
    · rename_i h
      intro c hc
      rcases List.mem_cons.1 hc with rfl | h'
      · exact h
      · exact ih c h'
    · intro c hc; cases hc
theorem spanD_len (l : List UInt8) : (spanD l).1.length + (spanD l).2.length = l.length := by
  conv => rhs; rw [spanD_app l, List.length_append]
theorem signS_len (l : List UInt8) : (signS l).2.length ≤ l.length := by
  cases l with
  | nil => simp [signS]
  | cons c l => unfold signS; dsimp only; split
                · simp
                · split <;> simp
theorem capF_take (l : List UInt8) (n : Nat) (h : n < l.length) : ∀ v, capF (l.take (n + 1)) v = min (10 * capF (l.take n) v + digV l[n]) 401 := by
  induction l generalizing n with
  | nil => simp at h
  | cons a l ih =>
    intro v
    cases n with
    | zero => simp [capF]
    | succ n =>
      simp only [List.take_succ_cons, capF, List.getElem_cons_succ]
      exact ih n (by simpa using h) _
theorem capF_le (l : List UInt8) : ∀ v, v ≤ 401 → capF l v ≤ 401 := by
  induction l with
  | nil => intro v h; exact h
  | cons a l ih => intro v _; exact ih _ (Nat.min_le_right _ _)

set_option maxRecDepth 100000 in
set_option maxHeartbeats 1600000 in
theorem capped_any (s : ByteArray) (l : List UInt8) (w : World) (hl : Tx s l) (hd : digs l) (hs : (l.length : Int) ≤ 10000) :
    Calls Tryz.prog 122 #[.string s] w fun e w' => e = .returned (.int .i64 (capF l 0 : Nat)) ∧ Below w.heap.size w w' := by
  have HL := Lib.hid hl
  have HD := Lib.hid hd
  have hz : (s.size : Int) ≤ 10000 := by rw [hl.size]; exact hs
  clear hl hd
  go_enter Tryz.func122, Tryz.ntmps122
  go_wp2_with fail
  go_loopw [3, 7] (fun a v wr => ∃ (n m : Nat), v = .int .i64 n ∧ a = .int .i64 m ∧ n ≤ l.length ∧ m ≤ 401 ∧ Hid (capF (l.take n) 0 = m) ∧ Below w.heap.size w wr) (fun _ v _ => (10000 - intOf v).toNat)
  case atStart => exact ⟨0, 0, rfl, rfl, Nat.zero_le _, by decide, by unfold Hid; simp [capF], Below.refl _ _⟩
  case round =>
    obtain ⟨n, m, rfl, rfl, hn, hm, HM, hb⟩ := hrel
    by_cases hlt : n < l.length
    · obtain ⟨hp, e0⟩ := HL.out.idx n hlt
      obtain ⟨c, hc⟩ : ∃ c, l[n] = c := ⟨_, rfl⟩
      rw [hc] at e0
      have hcd := (isDig_iff c).1 (HD.out c (by rw [← hc]; exact List.getElem_mem hlt))
      have h48 : (48 : Int) ≤ (c.toNat : Int) := by omega
      have h57 : (c.toNat : Int) ≤ 57 := by omega
      obtain ⟨M, hM, hM2⟩ : ∃ M : Nat, min (10 * (m : Int) + ((c.toNat : Int) - 48)) 401 = (M : Int) ∧ M = min (10 * m + digV c) 401 := by
        refine ⟨_, ?_, rfl⟩
        unfold digV
        omega
      have HN : Hid (capF (l.take (n + 1)) 0 = M) := by unfold Hid; rw [capF_take l n hlt 0, HM.out, hc, hM2]
      have hM3 : M ≤ 401 := by omega
      clear hM2 hcd hc
      go_wp2_with fail
      go_roundw
      case rel => exact ⟨n + 1, M, by go_num, rfl, hlt, hM3, HN, hb⟩
      case measure => simp [intOf]; omega
    · have g1 : ¬ n < s.size := by rw [HL.out.size]; omega
      have HE : Hid (capF l 0 = m) := by unfold Hid; rw [← HM.out, List.take_of_length_le (by omega)]
      go_wp2_with fail
      go_ret
      refine ⟨?_, hb⟩
      rw [HE.out]; rfl

/-- an exponent, as dec reads it -/
def expD : List UInt8 → Int × Bool
  | [] => (0, false)
  | c :: l =>
    if c.toNat = 101 ∨ c.toNat = 69 then
      (if (signS l).1 then -((capF (spanD (signS l).2).1 0 : Nat) : Int) else ((capF (spanD (signS l).2).1 0 : Nat) : Int), !(spanD (signS l).2).1.isEmpty && (spanD (signS l).2).2.isEmpty)
    else (0, false)

set_option maxRecDepth 100000 in
set_option maxHeartbeats 1600000 in
theorem exponent_any (s : ByteArray) (c : UInt8) (l : List UInt8) (w : World) (hl : Tx s (c :: l)) (hs : (l.length : Int) ≤ 9000) :
    Calls Tryz.prog 112 #[.string s] w fun e w' => e = .returned (.tuple #[.int .i64 (expD (c :: l)).1, .bool (expD (c :: l)).2]) ∧ Below w.heap.size w w' := by
  obtain ⟨hp, t, e0, e1, ht, e2, e3⟩ := hl.cons
  have HT := Lib.hid ht
  clear ht hl
  have gen : (c.toNat = 101 ∨ c.toNat = 69) → Calls Tryz.prog 112 #[.string s] w fun e w' => e = .returned (.tuple #[.int .i64 (expD (c :: l)).1, .bool (expD (c :: l)).2]) ∧ Below w.heap.size w w' := by
    intro hc
    have HX : Hid (expD (c :: l) = (if (signS l).1 then -((capF (spanD (signS l).2).1 0 : Nat) : Int) else ((capF (spanD (signS l).2).1 0 : Nat) : Int), !(spanD (signS l).2).1.isEmpty && (spanD (signS l).2).2.isEmpty)) := by
      unfold Hid; simp only [expD, if_pos hc]
    obtain ⟨neg, HNEG⟩ : ∃ b, Hid ((signS l).1 = b) := ⟨_, rfl⟩
    obtain ⟨r, HR⟩ : ∃ b, Hid ((signS l).2 = b) := ⟨_, rfl⟩
    obtain ⟨ds, HDS⟩ : ∃ b, Hid ((spanD r).1 = b) := ⟨_, rfl⟩
    obtain ⟨rest, HREST⟩ : ∃ b, Hid ((spanD r).2 = b) := ⟨_, rfl⟩
    have hdl : ds.length + rest.length = r.length := by rw [← HDS.out, ← HREST.out]; exact spanD_len r
    have hrl : r.length ≤ l.length := by rw [← HR.out]; exact signS_len l
    have hds : digs ds := by rw [← HDS.out]; exact spanD_digs r
    have HDG := Lib.hid hds
    clear hds
    rw [HX.out, HNEG.out, HR.out, HDS.out, HREST.out]
    clear HX
    obtain ⟨V, HV, hV2⟩ : ∃ V : Nat, Hid (capF ds 0 = V) ∧ V ≤ 401 := ⟨_, rfl, capF_le ds 0 (by decide)⟩
    rw [HV.out]
    have hsplit : (((c.toNat : Int) != 101) = false) ∨ (((c.toNat : Int) != 101) = true ∧ ((c.toNat : Int) != 69) = false) := by
      by_cases h : c.toNat = 101
      · exact .inl (by simp [h])
      · refine .inr ⟨?_, ?_⟩
        · rw [bne_iff_ne]; omega
        · rw [show c.toNat = 69 from by omega]; rfl
    clear hc
    rcases hsplit with n1 | ⟨n1, n2⟩
    all_goals
      go_enter Tryz.func112, Tryz.ntmps112
      go_wp2_with fail
      refine (cutSign_any t l _ HT.out (by omega)).mono ?_; rintro e w1 ⟨t1, rfl, HT1, hw1⟩
      rw [HNEG.out]
      rw [HR.out] at HT1
      go_wp2_with fail
      refine (cutDigits_any t1 r _ HT1.out (by omega)).mono ?_; rintro e w2 ⟨t2, t3, rfl, HT2, HT3, hw2⟩
      rw [HDS.out] at HT2
      rw [HREST.out] at HT3
      have hb := nx hw1 hw2
      go_wp2_with fail
      refine (capped_any t2 ds _ HT2.out HDG.out (by omega)).mono ?_; rintro e w3 ⟨rfl, hw3⟩
      have hb := nx hb hw3
      rw [HV.out]
      have d1 := HT2.out.toL
      have d2 := HT3.out.toL
      cases neg <;> cases ds <;> cases rest
      all_goals
        go_wp2_with fail
        go_ret2
        exact ⟨rfl, ⟨hb.os, hb.tape, hb.output, hb.size, hb.block⟩⟩
  by_cases hc : c.toNat = 101 ∨ c.toNat = 69
  · exact gen hc
  · have HX : Hid (expD (c :: l) = (0, false)) := by unfold Hid; simp only [expD, if_neg hc]
    have n1 : ((c.toNat : Int) != 101) = true := by rw [bne_iff_ne]; omega
    have n2 : ((c.toNat : Int) != 69) = true := by rw [bne_iff_ne]; omega
    clear gen hc
    rw [HX.out]
    go_enter Tryz.func112, Tryz.ntmps112
    go_wp2_with fail
    go_ret2
    exact ⟨rfl, Below.refl _ _⟩
end Go.Proofs.YtpaacfoiiihbeaaGreat
