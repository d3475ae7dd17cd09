/- The contract of dec.Show. -/
import Derived.Test.YtddolmkmijkpiaaDoorDecX
import Derived.Laws.Bits64b
namespace Go.Proofs.YtddolmkmijkpiaaDoor
open Go.RowKit

def tailS (l : List UInt8) : List UInt8 := if Lib.trimRightB l 48 = [] then [48] else Lib.trimRightB l 48
def showD (T : Int) (D : Nat) : List UInt8 := (decS D).take 1 ++ (46 :: (tailS ((decS D).drop 1) ++ (101 :: tenS (T + ((decS D).length : Nat) - 17))))
def sgS (B : Nat) : List UInt8 := if 9223372036854775808 ≤ B then [45] else []
def ShowR (B : Nat) (l : List UInt8) : Prop :=
  if LIM ≤ B % 9223372036854775808 then l = []
  else if B % 9223372036854775808 = 0 then l = sgS B ++ [48, 46, 48, 101, 48]
  else ∃ T : Int, GE10 (exX (B % 9223372036854775808)) (exY (B % 9223372036854775808)) T ∧ ¬ GE10 (exX (B % 9223372036854775808)) (exY (B % 9223372036854775808)) (T + 1) ∧
    l = sgS B ++ showD T (digN (exX (B % 9223372036854775808)) (exY (B % 9223372036854775808)) T)
theorem and63 (B : Nat) (hB : B < 18446744073709551616) : bits .and .u64 (B : Int) (9223372036854775808 : Int) = if 9223372036854775808 ≤ B then (9223372036854775808 : Int) else 0 := by
  have h1 : (9223372036854775808 : Int) = ((9223372036854775808 : Nat) : Int) := rfl
  rw [h1, bits_and_u64_nat _ _ (by omega) (by omega)]
  have h2 : B &&& 9223372036854775808 = if 9223372036854775808 ≤ B then 9223372036854775808 else 0 := by
    have e : (9223372036854775808 : Nat) = 2 ^ 63 := rfl
    rw [e]
    by_cases h : 2 ^ 63 ≤ B
    · have hb : B.testBit 63 = true := by rw [Nat.testBit_eq_decide_div_mod_eq]; simp; omega
      rw [if_pos h]
      apply Nat.eq_of_testBit_eq
      intro i
      rw [Nat.testBit_and, Nat.testBit_two_pow]
      by_cases hi : 63 = i
      · subst hi; rw [hb]; rfl
      · simp [hi]
    · rw [if_neg h]
      apply Nat.eq_of_testBit_eq
      intro i
      rw [Nat.testBit_and, Nat.testBit_two_pow]
      by_cases hi : 63 = i
      · subst hi; rw [Nat.testBit_lt_two_pow (by omega)]; simp
      · simp [hi]
  rw [h2]
  split <;> rfl
theorem trimB_len (l : List UInt8) : (Lib.trimRightB l 48).length ≤ l.length := by
  unfold Lib.trimRightB
  rw [List.length_reverse]
  exact Nat.le_trans (List.IsSuffix.length_le (List.dropWhile_suffix _)) (by simp)

theorem Tx.app2 {s t : ByteArray} {a b : List UInt8} (h : Tx s a) (g : Tx t b) : Tx (s ++ t) (a ++ b) := by
  unfold Tx at *
  rw [← h, ← g]
  simp
theorem Tx.sz {s : ByteArray} {l : List UInt8} (h : Tx s l) (k : Nat) (hk : l.length ≤ k) : s.size ≤ k := by rw [h.size]; exact hk
theorem tenS_len (v : Int) (h1 : -1000 ≤ v) (h2 : v ≤ 1000) : (tenS v).length ≤ 20 := by
  unfold tenS
  split
  · have := decS_len 3 (-v).toNat (by omega); simp; omega
  · have := decS_len 3 v.toNat (by omega); omega

set_option maxRecDepth 100000 in
set_option maxHeartbeats 3200000 in
theorem show_any (B : Nat) (w : World) (hB : B < 18446744073709551616) (ht : Tab w) :
    Calls Tryd.prog 15 #[.int .u64 B] w fun e w' => ∃ (t : ByteArray) (l : List UInt8), e = .returned (.string t) ∧ Hid (Tx t l) ∧ Hid (ShowR B l) ∧ Nx w w' := by
  have hand := and63 B hB
  obtain ⟨b, hb⟩ : ∃ b, B % 9223372036854775808 = b := ⟨_, rfl⟩
  have hsr : ∀ l, ShowR B l ↔ (if LIM ≤ b then l = [] else if b = 0 then l = sgS B ++ [48, 46, 48, 101, 48] else ∃ T : Int, GE10 (exX b) (exY b) T ∧ ¬ GE10 (exX b) (exY b) (T + 1) ∧ l = sgS B ++ showD T (digN (exX b) (exY b) T)) := by
    intro l; unfold ShowR; rw [hb]
  have HSR := Lib.hid hsr
  clear hsr
  have hB2 : (B : Int) ≤ 18446744073709551615 := by omega
  by_cases hneg : 9223372036854775808 ≤ B
  · rw [if_pos hneg] at hand
    have hs : sgS B = [45] := by unfold sgS; rw [if_pos hneg]
    have HS := Lib.hid hs
    have hw1 : (B : Int) - 9223372036854775808 = (b : Int) := by omega
    have hb2 : (b : Int) < 9223372036854775808 := by omega
    clear hs hneg hb
    by_cases hinf : LIM ≤ b
    · have b1 : decide ((9218868437227405312 : Int) ≤ (b : Int)) = true := decide_eq_true (by unfold LIM at hinf; omega)
      have HI := Lib.hid hinf
      clear hinf
      go_enter Tryd.func15, Tryd.ntmps15
      go_wp2_with fail
      go_ret
      exact ⟨_, [], rfl, rfl, (HSR.out _).2 (by rw [if_pos HI.out]), Nx.refl _⟩
    · have b1 : decide ((9218868437227405312 : Int) ≤ (b : Int)) = false := decide_eq_false (by unfold LIM at hinf; omega)
      have HI := Lib.hid hinf
      by_cases h0 : b = 0
      · subst h0
        clear hinf
        go_enter Tryd.func15, Tryd.ntmps15
        go_wp2_with fail
        go_ret
        exact ⟨_, rfl, [45, 48, 46, 48, 101, 48], rfl, (HSR.out _).2 (by rw [if_neg HI.out]; simp [HS.out]), Nx.refl _⟩
      · have hbl : b < LIM := by omega
        have b2 : ((b : Int) == 0) = false := by rw [beq_eq_false_iff_ne]; omega
        have hlo := Lib.hid (ex_lo b hbl h0)
        have hhi := Lib.hid (ex_hi b hbl h0)
        have hx0 := Lib.hid (Nat.pos_iff_ne_zero.1 (exX_pos b h0))
        have hy0 := Lib.hid (Nat.pos_iff_ne_zero.1 (exY_pos b))
        have hpb := exP_b b hbl
        have HPB := Lib.hid hpb
        have H0 := Lib.hid h0
        have HBL := Lib.hid hbl
        have HT0 := Lib.hid ht
        clear hinf h0 hpb hbl ht
        go_enter Tryd.func15, Tryd.ntmps15
        go_wp2_with fail
        refine (exact_any b _ HBL.out).mono ?_; rintro e w1 ⟨r1, rfl, hR1, hw1'⟩
        obtain ⟨v1, u1, rfl, hv1, hu1, hx1, hy1⟩ := hR1
        have HR1 := Lib.hid (show Ra w1 (.agg #[v1, u1]) (exX b) (exY b) _ from ⟨v1, u1, rfl, hv1, hu1, hx1, hy1⟩)
        clear hv1 hu1 hx1 hy1
        go_wp2_with fail
        refine (shortened_any _ (exX b) (exY b) _ _ HR1.out (by have := HPB.out; omega) hx0.out hy0.out hlo.out hhi.out (HT0.out.nx hw1')).mono ?_; rintro e w2 ⟨T, t, rfl, HT, hT1, hT2, HTx, hw2⟩
        obtain ⟨D, HD⟩ : ∃ D, Hid (digN (exX b) (exY b) T = D) := ⟨_, rfl⟩
        rw [HD.out] at HTx
        rw [HD.out]
        have hdb := digN_b (exX b) (exY b) T (Nat.pos_of_ne_zero hy0.out) HT.out.1 HT.out.2
        rw [HD.out] at hdb
        have hln : (decS D).length ≤ 20 := decS_len 19 D (by omega)
        have hlp := decS_pos D
        obtain ⟨n, hn⟩ : ∃ n, (decS D).length = n := ⟨_, rfl⟩
        have HN := Lib.hid hn
        rw [hn] at hln hlp ⊢
        clear hdb hn
        obtain ⟨c, m, hcm⟩ : ∃ c m, decS D = c :: m := by
          cases hq : decS D with
          | nil => have := HN.out; rw [hq] at this; simp at this; omega
          | cons c m => exact ⟨c, m, rfl⟩
        have HCM := Lib.hid hcm
        rw [hcm] at HTx
        obtain ⟨hp, t', e0, e1, ht', e2, e3⟩ := HTx.out.cons
        obtain ⟨d1, e4, hd1⟩ : ∃ d1, t.extract 0 1 = d1 ∧ Hid (Tx d1 [c]) := ⟨_, rfl, by unfold Hid Tx; rw [Lib.extract_data, show t.data.toList = c :: m from HTx.out]; rfl⟩
        have hts1 : (1 : Int) ≤ (t.size : Int) := by omega
        have hml : m.length ≤ 20 := by have := HN.out; rw [hcm] at this; simp at this; omega
        have HTP := Lib.hid ht'
        have htl := ht'.size
        have hE : ∃ E : Int, T + (n : Int) - 17 = E ∧ -1000 ≤ E ∧ E ≤ 1000 := ⟨_, rfl, by omega, by omega⟩
        obtain ⟨E, hE0, hE1, hE2⟩ := hE
        have hE3 : -9223372036854775808 ≤ E := by omega
        have hE4 : E ≤ 9223372036854775807 := by omega
        have HTE := Lib.hid hE0
        rw [hE0]
        have hN2 := Nx.trans hw1' hw2
        have hd1s : d1.size = 1 := hd1.out.size
        clear hcm ht' e0 hE0
        have hres : ShowR B ([45] ++ (c :: 46 :: (tailS m ++ (101 :: tenS E)))) := by
          refine (HSR.out _).2 ?_
          rw [if_neg HI.out, if_neg H0.out]
          refine ⟨T, HT.out.1, HT.out.2, ?_⟩
          rw [HS.out, HD.out]
          unfold showD
          rw [HN.out, HTE.out, HCM.out]
          rfl
        have HRES := Lib.hid hres
        clear hres
        go_wp2_with fail
        refine (Tryd.strings_TrimRight_one t' 48 (by decide) _ (by omega)).mono ?_; rintro e w' ⟨rfl, hw'⟩
        rw [hw']
        obtain ⟨f1, hf1⟩ : ∃ f1 : ByteArray, ⟨(Lib.trimRightB t'.data.toList 48).toArray⟩ = f1 := ⟨_, rfl⟩
        have hff : Tx f1 (Lib.trimRightB m 48) := by rw [← hf1, show t'.data.toList = m from HTP.out]; exact Tx.of _
        rw [hf1]
        clear hf1 hw'
        have hfl := trimB_len m
        obtain ⟨q, HQ⟩ : ∃ q, Hid (Lib.trimRightB m 48 = q) := ⟨_, rfl⟩
        rw [HQ.out] at hff hfl
        cases q with
        | nil =>
          have z1 := hff.nil.1
          have HTL : Hid (tailS m = [48]) := by unfold Hid tailS; rw [HQ.out, if_pos rfl]
          clear hff
          go_wp2_with fail
          refine wp_region_hyb [(0, true), (1, true), (2, true), (3, true), (4, true), (5, true), (6, true), (7, true), (8, true), (9, false), (10, true), (11, true)] rfl (by kernel_rfl) ?_
          iterate 9 (refine hyb_calm rfl (fun K hK => ?_); go_simp; refine hK _ ?_; clear hK K)
          have hp1 : Tx ((⟨#[45]⟩ ++ d1 ++ ⟨#[46]⟩ ++ ⟨#[48]⟩ ++ ⟨#[101]⟩ : ByteArray)) ([45] ++ (c :: 46 :: ([48] ++ [101]))) := by
            have := Tx.app2 (Tx.app2 (Tx.app2 (Tx.app2 (Tx.of [45]) hd1.out) (Tx.of [46])) (Tx.of [48])) (Tx.of [101])
            unfold Tx at *
            rw [this]; simp
          generalize hP : (⟨#[45]⟩ ++ d1 ++ ⟨#[46]⟩ ++ ⟨#[48]⟩ ++ ⟨#[101]⟩ : ByteArray) = P1 at *
          have hps : P1.size ≤ 40 := hp1.sz 40 (by simp at hfl ⊢ <;> omega)
          have HP1 := Lib.hid hp1
          clear hP hp1
          refine hyb_alone rfl (fun w3 hn3 K hK => ?_)
          go_simp
          refine (itoa_any E _ hE3 hE4 (HT0.out.nx (Nx.trans hN2 hn3))).mono ?_; rintro e w4 ⟨t9, rfl, ht9, hw4⟩
          have hsum : P1.size + t9.size ≤ 9223372036854775807 := by
            have := ht9.out.sz 20 (tenS_len E hE1 hE2)
            omega
          have hsum' : ¬ 9223372036854775807 < P1.size + t9.size := by omega
          refine hK _ _ hw4 ?_
          clear hK K
          iterate 2 (refine hyb_calm rfl (fun K hK => ?_); go_simp; refine hK _ ?_; clear hK K)
          refine hyb_nil (fun w5 hn5 => ?_)
          go_wp2_with fail
          go_ret
          have hN5 := Nx.trans (Nx.trans (Nx.trans hN2 hn3) hw4) hn5
          have hfin : Tx (P1 ++ t9) ([45] ++ (c :: 46 :: (tailS m ++ (101 :: tenS E)))) := by
            have := Tx.app2 HP1.out ht9.out
            unfold Tx at *
            rw [this, HTL.out]; simp
          first
            | exact ⟨_, _, rfl, hfin, HRES.out, hN5⟩
            | exact ⟨_, rfl, _, hfin, HRES.out, hN5⟩
        | cons c9 q9 =>
          have z1 : f1.toList = c9 :: q9 := hff.toL
          have hfs : f1.size ≤ 20 := hff.sz 20 (by omega)
          have hfs0 : ¬ 9223372036854775807 < 3 + f1.size := by omega
          have hfs1 : ¬ 9223372036854775807 < 3 + f1.size + 1 := by omega
          have hfs2 : ¬ 9223372036854775807 < 2 + f1.size := by omega
          have hfs3 : ¬ 9223372036854775807 < 2 + f1.size + 1 := by omega
          have hfs4 : ¬ 9223372036854775807 < f1.size + 1 := by omega
          have HTL : Hid (tailS m = c9 :: q9) := by unfold Hid tailS; rw [HQ.out, if_neg (by simp)]
          have hff := Lib.hid hff
          go_wp2_with fail
          refine wp_region_hyb [(0, true), (1, true), (2, true), (3, true), (4, true), (5, true), (6, true), (7, true), (8, true), (9, false), (10, true), (11, true)] rfl (by kernel_rfl) ?_
          iterate 9 (refine hyb_calm rfl (fun K hK => ?_); go_simp; refine hK _ ?_; clear hK K)
          have hp1 : Tx ((⟨#[45]⟩ ++ d1 ++ ⟨#[46]⟩ ++ f1 ++ ⟨#[101]⟩ : ByteArray)) ([45] ++ (c :: 46 :: (c9 :: q9 ++ [101]))) := by
            have := Tx.app2 (Tx.app2 (Tx.app2 (Tx.app2 (Tx.of [45]) hd1.out) (Tx.of [46])) hff.out) (Tx.of [101])
            unfold Tx at *
            rw [this]; simp
          generalize hP : (⟨#[45]⟩ ++ d1 ++ ⟨#[46]⟩ ++ f1 ++ ⟨#[101]⟩ : ByteArray) = P1 at *
          have hps : P1.size ≤ 40 := hp1.sz 40 (by simp at hfl ⊢ <;> omega)
          have HP1 := Lib.hid hp1
          clear hP hp1
          refine hyb_alone rfl (fun w3 hn3 K hK => ?_)
          go_simp
          refine (itoa_any E _ hE3 hE4 (HT0.out.nx (Nx.trans hN2 hn3))).mono ?_; rintro e w4 ⟨t9, rfl, ht9, hw4⟩
          have hsum : P1.size + t9.size ≤ 9223372036854775807 := by
            have := ht9.out.sz 20 (tenS_len E hE1 hE2)
            omega
          have hsum' : ¬ 9223372036854775807 < P1.size + t9.size := by omega
          refine hK _ _ hw4 ?_
          clear hK K
          iterate 2 (refine hyb_calm rfl (fun K hK => ?_); go_simp; refine hK _ ?_; clear hK K)
          refine hyb_nil (fun w5 hn5 => ?_)
          go_wp2_with fail
          go_ret
          have hN5 := Nx.trans (Nx.trans (Nx.trans hN2 hn3) hw4) hn5
          have hfin : Tx (P1 ++ t9) ([45] ++ (c :: 46 :: (tailS m ++ (101 :: tenS E)))) := by
            have := Tx.app2 HP1.out ht9.out
            unfold Tx at *
            rw [this, HTL.out]; simp
          first
            | exact ⟨_, _, rfl, hfin, HRES.out, hN5⟩
            | exact ⟨_, rfl, _, hfin, HRES.out, hN5⟩
  · rw [if_neg hneg] at hand
    have hs : sgS B = [] := by unfold sgS; rw [if_neg hneg]
    have HS := Lib.hid hs
    have hBb : B = b := by omega
    subst hBb
    clear hs hneg hb
    by_cases hinf : LIM ≤ B
    · have b1 : decide ((9218868437227405312 : Int) ≤ (B : Int)) = true := decide_eq_true (by unfold LIM at hinf; omega)
      have HI := Lib.hid hinf
      clear hinf
      go_enter Tryd.func15, Tryd.ntmps15
      go_wp2_with fail
      go_ret
      exact ⟨_, [], rfl, rfl, (HSR.out _).2 (by rw [if_pos HI.out]), Nx.refl _⟩
    · have b1 : decide ((9218868437227405312 : Int) ≤ (B : Int)) = false := decide_eq_false (by unfold LIM at hinf; omega)
      have HI := Lib.hid hinf
      by_cases h0 : B = 0
      · subst h0
        clear hinf
        go_enter Tryd.func15, Tryd.ntmps15
        go_wp2_with fail
        go_ret
        exact ⟨_, rfl, [48, 46, 48, 101, 48], rfl, (HSR.out _).2 (by rw [if_neg HI.out]; simp [HS.out]), Nx.refl _⟩
      · have hbl : B < LIM := by omega
        have b2 : ((B : Int) == 0) = false := by rw [beq_eq_false_iff_ne]; omega
        have hlo := Lib.hid (ex_lo B hbl h0)
        have hhi := Lib.hid (ex_hi B hbl h0)
        have hx0 := Lib.hid (Nat.pos_iff_ne_zero.1 (exX_pos B h0))
        have hy0 := Lib.hid (Nat.pos_iff_ne_zero.1 (exY_pos B))
        have hpb := exP_b B hbl
        have HPB := Lib.hid hpb
        have H0 := Lib.hid h0
        have HBL := Lib.hid hbl
        have HT0 := Lib.hid ht
        clear hinf h0 hpb hbl ht
        go_enter Tryd.func15, Tryd.ntmps15
        go_wp2_with fail
        refine (exact_any B _ HBL.out).mono ?_; rintro e w1 ⟨r1, rfl, hR1, hw1'⟩
        obtain ⟨v1, u1, rfl, hv1, hu1, hx1, hy1⟩ := hR1
        have HR1 := Lib.hid (show Ra w1 (.agg #[v1, u1]) (exX B) (exY B) _ from ⟨v1, u1, rfl, hv1, hu1, hx1, hy1⟩)
        clear hv1 hu1 hx1 hy1
        go_wp2_with fail
        refine (shortened_any _ (exX B) (exY B) _ _ HR1.out (by have := HPB.out; omega) hx0.out hy0.out hlo.out hhi.out (HT0.out.nx hw1')).mono ?_; rintro e w2 ⟨T, t, rfl, HT, hT1, hT2, HTx, hw2⟩
        obtain ⟨D, HD⟩ : ∃ D, Hid (digN (exX B) (exY B) T = D) := ⟨_, rfl⟩
        rw [HD.out] at HTx
        rw [HD.out]
        have hdb := digN_b (exX B) (exY B) T (Nat.pos_of_ne_zero hy0.out) HT.out.1 HT.out.2
        rw [HD.out] at hdb
        have hln : (decS D).length ≤ 20 := decS_len 19 D (by omega)
        have hlp := decS_pos D
        obtain ⟨n, hn⟩ : ∃ n, (decS D).length = n := ⟨_, rfl⟩
        have HN := Lib.hid hn
        rw [hn] at hln hlp ⊢
        clear hdb hn
        obtain ⟨c, m, hcm⟩ : ∃ c m, decS D = c :: m := by
          cases hq : decS D with
          | nil => have := HN.out; rw [hq] at this; simp at this; omega
          | cons c m => exact ⟨c, m, rfl⟩
        have HCM := Lib.hid hcm
        rw [hcm] at HTx
        obtain ⟨hp, t', e0, e1, ht', e2, e3⟩ := HTx.out.cons
        obtain ⟨d1, e4, hd1⟩ : ∃ d1, t.extract 0 1 = d1 ∧ Hid (Tx d1 [c]) := ⟨_, rfl, by unfold Hid Tx; rw [Lib.extract_data, show t.data.toList = c :: m from HTx.out]; rfl⟩
        have hts1 : (1 : Int) ≤ (t.size : Int) := by omega
        have hml : m.length ≤ 20 := by have := HN.out; rw [hcm] at this; simp at this; omega
        have HTP := Lib.hid ht'
        have htl := ht'.size
        have hE : ∃ E : Int, T + (n : Int) - 17 = E ∧ -1000 ≤ E ∧ E ≤ 1000 := ⟨_, rfl, by omega, by omega⟩
        obtain ⟨E, hE0, hE1, hE2⟩ := hE
        have hE3 : -9223372036854775808 ≤ E := by omega
        have hE4 : E ≤ 9223372036854775807 := by omega
        have HTE := Lib.hid hE0
        rw [hE0]
        have hN2 := Nx.trans hw1' hw2
        have hd1s : d1.size = 1 := hd1.out.size
        clear hcm ht' e0 hE0
        have hres : ShowR B ([] ++ (c :: 46 :: (tailS m ++ (101 :: tenS E)))) := by
          refine (HSR.out _).2 ?_
          rw [if_neg HI.out, if_neg H0.out]
          refine ⟨T, HT.out.1, HT.out.2, ?_⟩
          rw [HS.out, HD.out]
          unfold showD
          rw [HN.out, HTE.out, HCM.out]
          rfl
        have HRES := Lib.hid hres
        clear hres
        go_wp2_with fail
        refine (Tryd.strings_TrimRight_one t' 48 (by decide) _ (by omega)).mono ?_; rintro e w' ⟨rfl, hw'⟩
        rw [hw']
        obtain ⟨f1, hf1⟩ : ∃ f1 : ByteArray, ⟨(Lib.trimRightB t'.data.toList 48).toArray⟩ = f1 := ⟨_, rfl⟩
        have hff : Tx f1 (Lib.trimRightB m 48) := by rw [← hf1, show t'.data.toList = m from HTP.out]; exact Tx.of _
        rw [hf1]
        clear hf1 hw'
        have hfl := trimB_len m
        obtain ⟨q, HQ⟩ : ∃ q, Hid (Lib.trimRightB m 48 = q) := ⟨_, rfl⟩
        rw [HQ.out] at hff hfl
        cases q with
        | nil =>
          have z1 := hff.nil.1
          have HTL : Hid (tailS m = [48]) := by unfold Hid tailS; rw [HQ.out, if_pos rfl]
          clear hff
          go_wp2_with fail
          refine wp_region_hyb [(0, true), (1, true), (2, true), (3, true), (4, true), (5, true), (6, true), (7, true), (8, true), (9, false), (10, true), (11, true)] rfl (by kernel_rfl) ?_
          iterate 9 (refine hyb_calm rfl (fun K hK => ?_); go_simp; refine hK _ ?_; clear hK K)
          have hp1 : Tx ((⟨#[]⟩ ++ d1 ++ ⟨#[46]⟩ ++ ⟨#[48]⟩ ++ ⟨#[101]⟩ : ByteArray)) ([] ++ (c :: 46 :: ([48] ++ [101]))) := by
            have := Tx.app2 (Tx.app2 (Tx.app2 (Tx.app2 (Tx.of []) hd1.out) (Tx.of [46])) (Tx.of [48])) (Tx.of [101])
            unfold Tx at *
            rw [this]; simp
          generalize hP : (⟨#[]⟩ ++ d1 ++ ⟨#[46]⟩ ++ ⟨#[48]⟩ ++ ⟨#[101]⟩ : ByteArray) = P1 at *
          have hps : P1.size ≤ 40 := hp1.sz 40 (by simp at hfl ⊢ <;> omega)
          have HP1 := Lib.hid hp1
          clear hP hp1
          refine hyb_alone rfl (fun w3 hn3 K hK => ?_)
          go_simp
          refine (itoa_any E _ hE3 hE4 (HT0.out.nx (Nx.trans hN2 hn3))).mono ?_; rintro e w4 ⟨t9, rfl, ht9, hw4⟩
          have hsum : P1.size + t9.size ≤ 9223372036854775807 := by
            have := ht9.out.sz 20 (tenS_len E hE1 hE2)
            omega
          have hsum' : ¬ 9223372036854775807 < P1.size + t9.size := by omega
          refine hK _ _ hw4 ?_
          clear hK K
          iterate 2 (refine hyb_calm rfl (fun K hK => ?_); go_simp; refine hK _ ?_; clear hK K)
          refine hyb_nil (fun w5 hn5 => ?_)
          go_wp2_with fail
          go_ret
          have hN5 := Nx.trans (Nx.trans (Nx.trans hN2 hn3) hw4) hn5
          have hfin : Tx (P1 ++ t9) ([] ++ (c :: 46 :: (tailS m ++ (101 :: tenS E)))) := by
            have := Tx.app2 HP1.out ht9.out
            unfold Tx at *
            rw [this, HTL.out]; simp
          first
            | exact ⟨_, _, rfl, hfin, HRES.out, hN5⟩
            | exact ⟨_, rfl, _, hfin, HRES.out, hN5⟩
        | cons c9 q9 =>
          have z1 : f1.toList = c9 :: q9 := hff.toL
          have hfs : f1.size ≤ 20 := hff.sz 20 (by omega)
          have hfs0 : ¬ 9223372036854775807 < 3 + f1.size := by omega
          have hfs1 : ¬ 9223372036854775807 < 3 + f1.size + 1 := by omega
          have hfs2 : ¬ 9223372036854775807 < 2 + f1.size := by omega
          have hfs3 : ¬ 9223372036854775807 < 2 + f1.size + 1 := by omega
          have hfs4 : ¬ 9223372036854775807 < f1.size + 1 := by omega
          have HTL : Hid (tailS m = c9 :: q9) := by unfold Hid tailS; rw [HQ.out, if_neg (by simp)]
          have hff := Lib.hid hff
          go_wp2_with fail
          refine wp_region_hyb [(0, true), (1, true), (2, true), (3, true), (4, true), (5, true), (6, true), (7, true), (8, true), (9, false), (10, true), (11, true)] rfl (by kernel_rfl) ?_
          iterate 9 (refine hyb_calm rfl (fun K hK => ?_); go_simp; refine hK _ ?_; clear hK K)
          have hp1 : Tx ((⟨#[]⟩ ++ d1 ++ ⟨#[46]⟩ ++ f1 ++ ⟨#[101]⟩ : ByteArray)) ([] ++ (c :: 46 :: (c9 :: q9 ++ [101]))) := by
            have := Tx.app2 (Tx.app2 (Tx.app2 (Tx.app2 (Tx.of []) hd1.out) (Tx.of [46])) hff.out) (Tx.of [101])
            unfold Tx at *
            rw [this]; simp
          generalize hP : (⟨#[]⟩ ++ d1 ++ ⟨#[46]⟩ ++ f1 ++ ⟨#[101]⟩ : ByteArray) = P1 at *
          have hps : P1.size ≤ 40 := hp1.sz 40 (by simp at hfl ⊢ <;> omega)
          have HP1 := Lib.hid hp1
          clear hP hp1
          refine hyb_alone rfl (fun w3 hn3 K hK => ?_)
          go_simp
          refine (itoa_any E _ hE3 hE4 (HT0.out.nx (Nx.trans hN2 hn3))).mono ?_; rintro e w4 ⟨t9, rfl, ht9, hw4⟩
          have hsum : P1.size + t9.size ≤ 9223372036854775807 := by
            have := ht9.out.sz 20 (tenS_len E hE1 hE2)
            omega
          have hsum' : ¬ 9223372036854775807 < P1.size + t9.size := by omega
          refine hK _ _ hw4 ?_
          clear hK K
          iterate 2 (refine hyb_calm rfl (fun K hK => ?_); go_simp; refine hK _ ?_; clear hK K)
          refine hyb_nil (fun w5 hn5 => ?_)
          go_wp2_with fail
          go_ret
          have hN5 := Nx.trans (Nx.trans (Nx.trans hN2 hn3) hw4) hn5
          have hfin : Tx (P1 ++ t9) ([] ++ (c :: 46 :: (tailS m ++ (101 :: tenS E)))) := by
            have := Tx.app2 HP1.out ht9.out
            unfold Tx at *
            rw [this, HTL.out]; simp
          first
            | exact ⟨_, _, rfl, hfin, HRES.out, hN5⟩
            | exact ⟨_, rfl, _, hfin, HRES.out, hN5⟩
end Go.Proofs.YtddolmkmijkpiaaDoor
