/- The contracts of the document's answers for octet: sealed records. -/
import Derived.Test.YtaoekeldokmmlaaRefB
namespace Go.Proofs.Ytaoekeldokmmlaa
open Go.RowKit

set_option maxHeartbeats 800000 in
theorem refSeal_any (A : Option Addr) (xs : List UInt8) (c : Nat) (w : World) (hr : Rd bv w A xs) (hc : xs.length ≤ c) (hm : c ≤ maxLen) (hl : (xs.length : Int) ≤ 1000) :
    Calls Try.prog 24 #[.slice A xs.length c] w fun e w' => ∃ v', e = .returned v' ∧
      OwnG bv w' w.heap.size v' (be 3 xs.length ++ xs ++ be 4 (crc xs)) ∧ Below w.heap.size w w' := by
  have hge : decide ((16777216 : Int) ≤ (xs.length : Int)) = false := decide_eq_false (by omega)
  go_enter Try.func24, Try.ntmps24
  go_wp2_with fail
  refine (refPut_any none [] 0 xs.length 3 _ Rd.nil (by decide) (by decide) (by decide) (by omega) (by decide)).mono ?_; rintro e w1 ⟨v1, rfl, hg1, hb1⟩
  obtain ⟨A1, c1, W1, rfl, HW1, hl1a, hl1b, hc1, hm1, hr1, hg1⟩ := hg1.name 3 (by simp [be_len])
  have hrx1 := hr.below hb1
  have hs1 := hb1.size
  go_wp2_with (at_builtin; go_must (refine wpList_appGe (f := bv) _ bT rfl _ _ rfl bv_one w.heap.size _ W1 xs rfl hg1 _ _ rfl hrx1 (by simp only [maxLen]; omega) (by omega) hs1 ?_; intro v2 w2 hg2 hb2; obtain ⟨A2, c2, W2, rfl, HW2, hl2a, hl2b, hc2, hm2, hr2, -⟩ := hg2.name (3 + xs.length) (by simp; omega)))
  have hb12 : Below w.heap.size w w2 := hb1.trans hb2
  refine (refSum_any A xs c _ (hr.below hb12) hc (by omega)).mono ?_; rintro e w' ⟨rfl, rfl⟩
  have hcr : (crc xs : Int) ≤ 4294967295 := by have := crc_lt xs; omega
  generalize hC : crc xs = C at *
  have HC := Lib.hid hC
  clear hC
  go_wp2_with fail
  refine (refPut_any A2 W2 c2 C 4 _ hr2 hc2 hm2 (by decide) (by omega) (by omega)).mono ?_; rintro e w3 ⟨v3, rfl, hg3, hb3⟩
  go_wp2_with fail
  go_ret
  refine ⟨_, rfl, (hg3.less hb12.size).cast ?_, nx hb12 hb3⟩
  rw [HC.out, HW2.out, HW1.out]
  simp

set_option maxHeartbeats 800000 in
theorem refUnseal_short3 (A : Option Addr) (xs : List UInt8) (c : Nat) (w : World) (hm : xs.length ≤ maxLen) (hl : xs.length < 3) :
    Calls Try.prog 20 #[.slice A xs.length c] w fun e w' => e = .returned (.tuple #[.slice none 0 0, .int .i64 0, .int .i64 3]) ∧ w = w' := by
  go_enter Try.func20, Try.ntmps20
  go_wp2_with fail
  refine (refTake_short A xs c 3 _ hm (by omega) hl).mono ?_; rintro e w' ⟨rfl, rfl⟩
  go_wp2_with fail
  go_ret3
  exact ⟨rfl, rfl⟩

set_option maxHeartbeats 800000 in
theorem refUnseal_short (A : Option Addr) (xs : List UInt8) (c : Nat) (w : World) (hr : Rd bv w A xs) (hc : xs.length ≤ c) (hm : c ≤ maxLen) (hl : 3 ≤ xs.length) (hn : xs.length < 7 + num (xs.take 3)) :
    Calls Try.prog 20 #[.slice A xs.length c] w fun e w' => e = .returned (.tuple #[.slice none 0 0, .int .i64 0, .int .i64 3]) ∧ w = w' := by
  go_enter Try.func20, Try.ntmps20
  go_wp2_with fail
  refine (refTake_ok A xs c 3 _ hr hc hm (by omega) hl).mono ?_; rintro e w' ⟨rfl, rfl⟩
  unfold maxLen at hm
  have hN3 : (num (xs.take 3) : Int) ≤ 16777215 := by have := num_take_lt xs 3; omega
  generalize num (xs.take 3) = N at *
  have hd : decide ((xs.length : Int) < 7 + (N : Int)) = true := decide_eq_true (by omega)
  go_wp2_with fail
  go_ret3
  exact ⟨rfl, rfl⟩

/-- what a record of at least its length is taken for -/
def UnsealIs (xs ys : List UInt8) (n er : Int) : Prop :=
  (ys, n, er) = if num ((xs.drop (3 + num (xs.take 3))).take 4) ≠ crc ((xs.drop 3).take (num (xs.take 3))) then ([], (0 : Int), (2 : Int)) else ((xs.drop 3).take (num (xs.take 3)), (7 : Int) + num (xs.take 3), (0 : Int))
theorem UnsealIs.one {xs ys ys' : List UInt8} {n n' er er' : Int} (h : UnsealIs xs ys n er) (h' : UnsealIs xs ys' n' er') : ys = ys' ∧ n = n' ∧ er = er' := by
  unfold UnsealIs at h h'
  rw [← h'] at h
  simpa using h

theorem unseal_long (A : Option Addr) (xs : List UInt8) (c : Nat) (w : World) (hr : Rd bv w A xs) (hc : xs.length ≤ c) (hm : c ≤ maxLen) (hl : 3 ≤ xs.length) (hn : 7 + num (xs.take 3) ≤ xs.length) :
    Calls Try.prog 19 #[.slice A xs.length c] w fun e w' => ∃ v' ys n er, e = .returned (.tuple #[v', .int .i64 n, .int .i64 er]) ∧ OwnG bv w' w.heap.size v' ys ∧ Below w.heap.size w w' ∧ UnsealIs xs ys n er := by
  by_cases hs : num ((xs.drop (3 + num (xs.take 3))).take 4) = crc ((xs.drop 3).take (num (xs.take 3)))
  · refine (unseal_ok A xs c w hr hc hm hl hn hs).mono fun e w' ⟨v', h1, h2, h3⟩ => ⟨v', _, _, _, h1, h2.gen, h3, ?_⟩
    unfold UnsealIs
    rw [if_neg (fun h => h hs)]
    simp
  · refine (unseal_form A xs c w hr hc hm hl hn hs).mono fun e w' ⟨h1, h2⟩ => ⟨_, [], _, _, h1, .inl ⟨rfl, rfl⟩, h2 ▸ Below.refl _ _, ?_⟩
    unfold UnsealIs
    rw [if_pos hs]

set_option maxHeartbeats 800000 in
theorem refUnseal_long (A : Option Addr) (xs : List UInt8) (c : Nat) (w : World) (hr : Rd bv w A xs) (hc : xs.length ≤ c) (hm : c ≤ maxLen) (hl : 3 ≤ xs.length) (hn : 7 + num (xs.take 3) ≤ xs.length) (hsm : (xs.length : Int) ≤ 1000) :
    Calls Try.prog 20 #[.slice A xs.length c] w fun e w' => ∃ v' ys n er, e = .returned (.tuple #[v', .int .i64 n, .int .i64 er]) ∧ OwnG bv w' w.heap.size v' ys ∧ Below w.heap.size w w' ∧
      UnsealIs xs ys n er := by
  go_enter Try.func20, Try.ntmps20
  go_wp2_with fail
  refine (refTake_ok A xs c 3 _ hr hc hm (by omega) hl).mono ?_; rintro e w' ⟨rfl, rfl⟩
  unfold maxLen at hm
  have hN3 : (num (xs.take 3) : Int) ≤ 16777215 := by have := num_take_lt xs 3; omega
  generalize hN : num (xs.take 3) = N at *
  have HN := Lib.hid hN
  clear hN
  have hd : decide ((xs.length : Int) < 7 + (N : Int)) = false := decide_eq_false (by omega)
  have hh := hr.alloc (.cells #[] 5)
  go_wp2_with (first
    | (refine wpList_sl (f := bv) _ bT rfl _ _ _ rfl A xs c rfl hh hc 3 (7 + N - 4) (.inr ⟨_, _, rfl, rfl⟩) (.inr ⟨_, _, rfl, rfl⟩) (by omega) (by omega) (by omega) ?_; intro A1 ys c1 hcut hc1 hc2; obtain ⟨hr1, HY, hlo, hhi⟩ := hcut)
    | (at_builtin; go_must (refine wpList_app (f := bv) _ bT rfl _ _ rfl bv_one w.heap.size _ [] ys rfl (Own.empty w) _ _ rfl hr1 (by simp [maxLen]; omega) (by simp; omega) (by simp) ?_; intro v1 w1 hown1 hbel1; rw [List.nil_append] at hown1; obtain ⟨A3, c3, W3, rfl, HW3, hl3a, hl3b, hc3, hm3, hr3, hown3⟩ := hown1.name ys.length rfl; clear hown1; have hb1 : Below w.heap.size w w1 := (nx0 w _).trans hbel1; have hrx1 := hr.below hb1; clear hbel1))
    | (refine wpList_sl (f := bv) _ bT rfl _ _ _ rfl A xs c rfl hrx1 hc (7 + N - 4) xs.length (.inr ⟨_, _, rfl, rfl⟩) (.inl ⟨rfl, rfl⟩) (by omega) (by omega) (by omega) ?_; intro A2 zs c2 hcut hc2a hc2b; obtain ⟨hr2, HZ, hlo2, hhi2⟩ := hcut))
  refine (refTake_ok A2 zs c2 4 _ hr2 hc2a (by unfold maxLen; omega) (by omega) (by omega)).mono ?_; rintro e w' ⟨rfl, rfl⟩
  have hT4 : (num (zs.take 4) : Int) ≤ 4294967295 := by have := num_take_lt zs 4; omega
  have e1 : (7 + (N : Int) - 4).toNat = 3 + N := by omega
  have e2 : ((xs.length : Int)).toNat = xs.length := by omega
  have HT : Hid (num (zs.take 4) = num ((xs.drop (3 + num (xs.take 3))).take 4)) := by
    unfold Hid; rw [HZ.out, e1, e2, List.take_length, HN.out]
  have HW : Hid (W3 = (xs.drop 3).take (num (xs.take 3))) := by
    unfold Hid; rw [HW3.out, HY.out, e1, HN.out]
    simp [List.drop_take]
  clear e1 e2
  generalize num (zs.take 4) = T at *
  go_wp2_with fail
  refine (refSum_any A3 W3 c3 _ hr3 hc3 (by omega)).mono ?_; rintro e w' ⟨rfl, rfl⟩
  have hC4 : (crc W3 : Int) ≤ 4294967295 := by have := crc_lt W3; omega
  have HC : Hid (crc W3 = crc ((xs.drop 3).take (num (xs.take 3)))) := by unfold Hid; rw [HW.out]
  generalize crc W3 = C at *
  by_cases hTC : (T : Int) = (C : Int)
  · have hne2 : ((T : Int) != (C : Int)) = false := by rw [bne_eq_false_iff_eq]; exact hTC
    have HTC := Lib.hid hTC
    clear hTC
    go_wp2_with fail
    go_ret3
    refine ⟨_, W3, _, _, rfl, hown3.gen, hb1, ?_⟩
    unfold UnsealIs
    have hTC := HTC.out
    rw [if_neg (by rw [← HT.out, ← HC.out]; omega), HW.out, HN.out]
  · have hne2 : ((T : Int) != (C : Int)) = true := by rw [bne_iff_ne]; exact hTC
    have HTC := Lib.hid hTC
    clear hTC
    go_wp2_with fail
    go_ret3
    refine ⟨_, [], _, _, rfl, .inl ⟨rfl, rfl⟩, hb1, ?_⟩
    unfold UnsealIs
    have hTC := HTC.out
    rw [if_pos (by rw [← HT.out, ← HC.out]; omega)]

/-- both take the same bytes for the same record -/
theorem unseal_both (xs : List UInt8) (hsm : (xs.length : Int) ≤ 1000) : ∃ (ys : List UInt8) (n er : Int),
    (∀ A c w, Rd bv w A xs → xs.length ≤ c → c ≤ maxLen → Calls Try.prog 19 #[.slice A xs.length c] w fun e w' => ∃ v', e = .returned (.tuple #[v', .int .i64 n, .int .i64 er]) ∧ OwnG bv w' w.heap.size v' ys ∧ Below w.heap.size w w') ∧
    (∀ A c w, Rd bv w A xs → xs.length ≤ c → c ≤ maxLen → Calls Try.prog 20 #[.slice A xs.length c] w fun e w' => ∃ v', e = .returned (.tuple #[v', .int .i64 n, .int .i64 er]) ∧ OwnG bv w' w.heap.size v' ys ∧ Below w.heap.size w w') := by
  by_cases hl : 3 ≤ xs.length
  · by_cases hn : 7 + num (xs.take 3) ≤ xs.length
    · obtain ⟨⟨ys, n, er⟩, h⟩ : ∃ p : List UInt8 × Int × Int, UnsealIs xs p.1 p.2.1 p.2.2 := ⟨_, rfl⟩
      refine ⟨ys, n, er, fun A c w hr hc hm => ?_, fun A c w hr hc hm => ?_⟩
      · refine (unseal_long A xs c w hr hc hm hl hn).mono fun e w' ⟨v', ys', n', er', h1, h2, h3, h4⟩ => ?_
        obtain ⟨rfl, rfl, rfl⟩ := h.one h4
        exact ⟨v', h1, h2, h3⟩
      · refine (refUnseal_long A xs c w hr hc hm hl hn hsm).mono fun e w' ⟨v', ys', n', er', h1, h2, h3, h4⟩ => ?_
        obtain ⟨rfl, rfl, rfl⟩ := h.one h4
        exact ⟨v', h1, h2, h3⟩
    · exact ⟨[], 0, 3, fun A c w hr hc hm => (unseal_short A xs c w hr hc hm hl (by omega)).mono fun e w' ⟨h1, h2⟩ => ⟨_, h1, .inl ⟨rfl, rfl⟩, h2 ▸ Below.refl _ _⟩,
        fun A c w hr hc hm => (refUnseal_short A xs c w hr hc hm hl (by omega)).mono fun e w' ⟨h1, h2⟩ => ⟨_, h1, .inl ⟨rfl, rfl⟩, h2 ▸ Below.refl _ _⟩⟩
  · exact ⟨[], 0, 3, fun A c w hr hc hm => (unseal_short3 A xs c w (Nat.le_trans hc hm) (by omega)).mono fun e w' ⟨h1, h2⟩ => ⟨_, h1, .inl ⟨rfl, rfl⟩, h2 ▸ Below.refl _ _⟩,
        fun A c w hr hc hm => (refUnseal_short3 A xs c w (Nat.le_trans hc hm) (by omega)).mono fun e w' ⟨h1, h2⟩ => ⟨_, h1, .inl ⟨rfl, rfl⟩, h2 ▸ Below.refl _ _⟩⟩
end Go.Proofs.Ytaoekeldokmmlaa
