/- The walk of ScopeTwices. -/
import Derived.Test.YtpfecpcgdfbekaaGreatDoorNTwB
import Derived.Test.YtpfecpcgdfbekaaGreatDoorS00
import Derived.Test.YtpfecpcgdfbekaaGreatDoorG32
set_option linter.unusedVariables false
set_option linter.unusedSimpArgs false
namespace Go.Proofs.YtpfecpcgdfbekaaGreatDoor
open Go.RowKit

def sA (l : List UInt8) : Array Value := #[.bool (tB l 0), .bool (tB l 1), .bool (tB l 2), .bool (tB l 3), .bool (tB l 4), .bool (tB l 5)]
theorem sA_get (l : List UInt8) {k : Nat} (hk : k < 6) : (sA l)[k]? = some (.bool (tB l k)) := by
  rcases k6 hk with rfl | rfl | rfl | rfl | rfl | rfl <;> rfl
theorem sA_set {l : List UInt8} {i : Nat} (hi : i < l.length) {k : Nat} (hk : l[i].toNat % 6 = k) : (sA (l.take i)).setIfInBounds k (.bool true) = sA (l.take (i + 1)) := by
  have h6 : k < 6 := by rw [← hk]; exact Nat.mod_lt _ (by decide)
  unfold sA
  rw [tB_step hi (k := 0) (by decide), tB_step hi (k := 1) (by decide), tB_step hi (k := 2) (by decide), tB_step hi (k := 3) (by decide), tB_step hi (k := 4) (by decide), tB_step hi (k := 5) (by decide), hk]
  rcases k6 h6 with rfl | rfl | rfl | rfl | rfl | rfl <;> simp
/-- the piece among four -/
theorem p4_get (k : Nat) {q : Nat} (hq : q < 4) : (#[.string ⟨(tP 0 k).toArray⟩, .string ⟨(tP 1 k).toArray⟩, .string ⟨(tP 2 k).toArray⟩, .string ⟨(tP 3 k).toArray⟩] : Array Value)[q]? = some (.string ⟨(tP q k).toArray⟩) := by
  rcases (show q = 0 ∨ q = 1 ∨ q = 2 ∨ q = 3 by omega) with rfl | rfl | rfl | rfl <;> rfl
def stO (o : Option (List UInt8)) (b : Bool) (t : List UInt8) : Option (List UInt8) := match o with
  | some y => some y
  | none => if b = true then some t else none
/-- the file where it stands, the name -/
def fS (o : Option (List UInt8)) : List UInt8 := if o.isSome = true then [102] else []
def wS (o : Option (List UInt8)) : List UInt8 := o.getD []
theorem tO_st {l : List UInt8} {i : Nat} (hi : i < l.length) : tO (l.take (i + 1)) = stO (tO (l.take i)) (tB (l.take i) (l[i].toNat % 6)) (tn (l[i].toNat % 6)) := by
  rw [tO_step hi]
  unfold stO tB
  cases tO (l.take i) with
  | some y => rfl
  | none => simp only [decide_eq_true_eq]
theorem tP_len (q k : Nat) : (tP q k).length ≤ 20 := by
  unfold tP tn
  split
  · simp
  · split
    · simp
    · split <;> simp
set_option maxRecDepth 100000 in
set_option maxHeartbeats 12800000 in
theorem ScopeTwices_walk (A : Option Addr) (xs : List UInt8) (c : Nat) (w : World) (hm : MaxC w) (hr : Rd bv w A xs) (hc1 : xs.length ≤ c) (hc2 : c ≤ maxLen) :
    Calls Tryz.prog 3 #[.slice A xs.length c] w fun e w' => e = .returned (.bool true) ∧ Below w.heap.size w w' := by
  have HBG := Lib.hid (scbegun_any w hm)
  have HR := Lib.hid hr
  obtain ⟨n, hn⟩ : ∃ n, xs.length = n := ⟨_, rfl⟩
  have HN := Lib.hid hn
  rw [hn] at hc1 ⊢
  clear hr hn hm
  go_enter Tryz.func3, Tryz.ntmps3
  go_wp2_with fail
  refine HBG.out.mono ?_; rintro e w1 ⟨rfl, hn1⟩
  have HN1 := Lib.hid hn1
  clear hn1 HBG
  by_cases h20 : 10 < n
  · have q1 : decide ((10 : Int) < (n : Int)) = true := decide_eq_true (by omega)
    have q2 : (10 : Int) < (n : Int) := by omega
    have q3 : decide (10 < n) = true := decide_eq_true h20
    go_wp2_with fail
    go_ret
    exact ⟨rfl, HN1.out⟩
  have q1 : decide ((10 : Int) < (n : Int)) = false := decide_eq_false (by omega)
  have q2 : ¬ (10 : Int) < (n : Int) := by omega
  have q3 : decide (10 < n) = false := decide_eq_false h20
  have hn10 : (n : Int) ≤ 10 := by omega
  have HN10 : Hid (n ≤ 10) := by unfold Hid; omega
  clear hc1 hc2
  go_upto_region 6 with (fail)
  clear q1 q2 q3 h20
  obtain ⟨gs, hgs⟩ : ∃ g, w1.heap.size = g := ⟨_, rfl⟩
  obtain ⟨w2, hw2⟩ : ∃ x, w1.alloc (.cells #[.bool false, .bool false, .bool false, .bool false, .bool false, .bool false] 24) = x := ⟨_, rfl⟩
  have hb2 : Blk w2 gs gs (sA []) 24 := by rw [← hw2, ← hgs]; exact Blk.new w1 _ _
  have hn2 : Nx w1 w2 := by rw [← hw2]; exact nx0 w1 _
  have HB2 := Lib.hid hb2
  have HN2 := Lib.hid hn2
  have HGS : Hid (w1.heap.size = gs ∧ gs < w2.heap.size) := ⟨hgs, hb2.lt⟩
  clear hb2 hn2
  go_wp2_with fail
  clear hw2 hgs
  go_loopw [3, 4, 5, 7] (fun v3 v4 v5 v7 wr => ∃ i : Nat, v7 = .int .i64 (i : Int) ∧ i ≤ n ∧ v3 = .string ⟨(tS (xs.take i)).toArray⟩ ∧ v4 = .string ⟨(wS (tO (xs.take i))).toArray⟩ ∧ v5 = .string ⟨(fS (tO (xs.take i))).toArray⟩  ∧ Hid (Blk wr gs gs (sA (xs.take i)) 24) ∧ Hid (Nx w1 wr)) (fun _ _ _ v _ => (n - intOf v).toNat)
  case atStart => exact ⟨0, rfl, Nat.zero_le _, rfl, rfl, rfl, HB2.out, HN2.out⟩
  case round =>
    obtain ⟨i, rfl, hi, rfl, rfl, rfl, HS, HX⟩ := hrel
    by_cases hlt : i < n
    · have q1 : decide ((i : Int) < (n : Int)) = true := decide_eq_true (by omega)
      have q2 : (i : Int) < (n : Int) := by omega
      have q3 : (0 : Int) ≤ (i : Int) := by omega
      have hiz : i < xs.length := by rw [HN.out]; exact hlt
      obtain ⟨x, hx⟩ : ∃ x : Nat, xs[i].toNat = x := ⟨_, rfl⟩
      have hx2 : x ≤ 255 := by rw [← hx]; have := xs[i].toNat_lt; omega
      obtain ⟨g, off, rfl, hg, hc0⟩ := (HR.out.below (HN1.out.trans HX.out)).at_ hiz
      have hc : wr.cell? ⟨g, off + i, none⟩ = some (.int .u8 (x : Int)) := by rw [hc0, ← hx]; rfl
      have hx0 : (0 : Int) ≤ (x : Int) := by omega
      obtain ⟨k, hk⟩ : ∃ k, x % 6 = k := ⟨_, rfl⟩
      obtain ⟨Q, hQ⟩ : ∃ Q, x / 6 = Q := ⟨_, rfl⟩
      obtain ⟨q, hq⟩ : ∃ q, Q % 4 = q := ⟨_, rfl⟩
      have hk6 : k < 6 := by rw [← hk]; exact Nat.mod_lt _ (by decide)
      have hq4 : q < 4 := by rw [← hq]; exact Nat.mod_lt _ (by decide)
      have ht6 : (x : Int).tmod 6 = (k : Int) := by rw [Int.tmod_eq_emod_of_nonneg hx0]; omega
      have htd : (x : Int).tdiv 6 = (Q : Int) := by rw [Int.tdiv_eq_ediv_of_nonneg hx0]; omega
      have hQ0 : (0 : Int) ≤ (Q : Int) := by omega
      have hQ9 : (Q : Int) ≤ 99 := by omega
      have ht4 : (Q : Int).tmod 4 = (q : Int) := by rw [Int.tmod_eq_emod_of_nonneg hQ0]; omega
      have hk0 : (0 : Int) ≤ (k : Int) := by omega
      have hk5 : (k : Int) < 6 := by omega
      have hq0 : (0 : Int) ≤ (q : Int) := by omega
      have hq3 : (q : Int) < 4 := by omega
      have hwk : IntKind.u8.wrap (k : Int) = (k : Int) := by simp [IntKind.wrap, IntKind.bits, IntKind.signed]; omega
      have hwQ : IntKind.u8.wrap (Q : Int) = (Q : Int) := by simp [IntKind.wrap, IntKind.bits, IntKind.signed]; omega
      have hwq : IntKind.u8.wrap (q : Int) = (q : Int) := by simp [IntKind.wrap, IntKind.bits, IntKind.signed]; omega
      obtain ⟨ch, hch⟩ : ∃ ch : Nat, 97 + k = ch := ⟨_, rfl⟩
      have hchi : (97 : Int) + (k : Int) = (ch : Int) := by omega
      have c1 : (0 : Int) ≤ (ch : Int) := by omega
      have c2 : (ch : Int) ≤ 255 := by omega
      have c3 : (ch : Int) < 256 := by omega
      have c4 : (ch : Int) % 256 = (ch : Int) := by omega
      have HK : Hid (k < 6 ∧ q < 4 ∧ i < n) := ⟨hk6, hq4, hlt⟩
      have HST : Hid (tS (xs.take (i + 1)) = tS (xs.take i) ++ (tP q k ++ [10])) := by
        unfold Hid; rw [tS_step hiz]; unfold tL; rw [hx, hQ, hq, hk]
      have HOT : Hid (tO (xs.take (i + 1)) = stO (tO (xs.take i)) (tB (xs.take i) k) (tn k)) := by
        unfold Hid; rw [tO_st hiz, hx, hk]
      have HSA : Hid ((sA (xs.take i)).setIfInBounds k (.bool true) = sA (xs.take (i + 1))) := sA_set hiz (by rw [hx]; exact hk)
      have hsl : (tS (xs.take i)).length ≤ 200 := by have := tS_len (xs.take i); rw [List.length_take] at this; omega
      obtain ⟨S, hS⟩ : ∃ S, tS (xs.take i) = S := ⟨_, rfl⟩
      rw [hS] at HST hsl ⊢
      obtain ⟨O, hO⟩ : ∃ O, tO (xs.take i) = O := ⟨_, rfl⟩
      have HO := Lib.hid hO
      rw [hO] at HOT ⊢
      obtain ⟨D, hD⟩ : ∃ D, tB (xs.take i) k = D := ⟨_, rfl⟩
      have HD := Lib.hid hD
      rw [hD] at HOT
      have HSD : Hid (wr.cell? ⟨gs, k, none⟩ = some (.bool D)) := by unfold Hid; rw [HS.out.cell k, sA_get _ hk6, hD]
      clear hS hO hD hc0 hx hk hQ hq hlt hiz hx2
      obtain ⟨g3, hg3⟩ : ∃ g, wr.heap.size = g := ⟨_, rfl⟩
      obtain ⟨w3, hw3⟩ : ∃ x, wr.alloc (.cells #[.int .u8 110, .int .u8 (ch : Int)] 5) = x := ⟨_, rfl⟩
      have hb3 : Blk w3 g3 g3 #[.int .u8 110, .int .u8 (ch : Int)] 5 := by rw [← hw3, ← hg3]; exact Blk.new wr _ _
      have hn3 : Nx wr w3 := by rw [← hw3]; exact nx0 _ _
      have HRD : Hid (Rd bv w3 (some ⟨g3, 0, none⟩) (tn k)) := by
        unfold Hid
        intro _
        refine ⟨g3, 0, rfl, hb3.lt, fun p hp => ?_⟩
        have hp : p < 2 := hp
        rcases (show p = 0 ∨ p = 1 by omega) with rfl | rfl
        · exact hb3.cell 0
        · have h := hb3.cell 1
          have e : ((UInt8.ofNat (97 + k)).toNat : Int) = (ch : Int) := by rw [hch]; simp [UInt8.toNat_ofNat]; omega
          show w3.cell? ⟨g3, 0 + 1, none⟩ = some (bv (UInt8.ofNat (97 + k)))
          unfold bv
          rw [e]
          exact h
      have HN3 := Lib.hid hn3
      have hc3 : w3.cell? ⟨g, off + i, none⟩ = some (.int .u8 (x : Int)) := (hn3.cell (p := ⟨g, off + i, none⟩) hg).trans hc
      have hgg : g < w3.heap.size := Nat.lt_of_lt_of_le hg hn3.size
      have HW3 := Lib.hid hw3
      clear hb3 hn3 hch
      go_upto_region 12 with (refine wpList_str _ (o := ⟨some 36, _, _, _, _, _⟩) rfl _ rfl Tryz.underlying22 Tryz.underlying5 Tryz.underlying9 _ _ _ rfl HRD.out ?_; intro t HT9 ht1 ht2; obtain rfl : t = _ := HT9.out; clear HT9)
      clear hw3 hg3 c1 c2 c3 c4 hchi ht6 hwk
      have HP0 : Hid (tP 0 k = [115, 116, 114, 117, 99, 116, 32] ++ tn k ++ [32, 123, 125]) := rfl
      have HP1 : Hid (tP 1 k = [116, 121, 112, 101, 100, 101, 102, 32, 105, 56, 32] ++ tn k) := rfl
      have HP2 : Hid (tP 2 k = [99, 111, 110, 115, 116, 32, 105, 56, 32] ++ tn k ++ [32, 61, 32, 49]) := rfl
      have HP3 : Hid (tP 3 k = [115, 101, 114, 118, 105, 99, 101, 32] ++ tn k ++ [32, 123, 125]) := rfl
      have hpg := p4_get k HK.out.2.1
      have hpl := tP_len q k
      have HNE : Hid (tn k ≠ []) := tn_ne k
      have hNl : (tn k).length = 2 := rfl
      obtain ⟨N, hN⟩ : ∃ N, tn k = N := ⟨_, rfl⟩
      obtain ⟨P0, hP0⟩ : ∃ P, tP 0 k = P := ⟨_, rfl⟩
      obtain ⟨P1, hP1⟩ : ∃ P, tP 1 k = P := ⟨_, rfl⟩
      obtain ⟨P2, hP2⟩ : ∃ P, tP 2 k = P := ⟨_, rfl⟩
      obtain ⟨P3, hP3⟩ : ∃ P, tP 3 k = P := ⟨_, rfl⟩
      obtain ⟨P, hP⟩ : ∃ P, tP q k = P := ⟨_, rfl⟩
      rw [hN, hP0] at HP0
      rw [hN, hP1] at HP1
      rw [hN, hP2] at HP2
      rw [hN, hP3] at HP3
      rw [hP0, hP1, hP2, hP3, hP] at hpg
      rw [hP] at hpl HST
      rw [hN] at hNl HNE HOT ⊢
      have e0 : (⟨#[115, 116, 114, 117, 99, 116, 32]⟩ : ByteArray) ++ ⟨N.toArray⟩ ++ ⟨#[32, 123, 125]⟩ = ⟨P0.toArray⟩ := by
        rw [HP0.out]; exact (((Tx.of [115, 116, 114, 117, 99, 116, 32]).app (Tx.of N)).app (Tx.of [32, 123, 125])).eq
      have e1 : (⟨#[116, 121, 112, 101, 100, 101, 102, 32, 105, 56, 32]⟩ : ByteArray) ++ ⟨N.toArray⟩ = ⟨P1.toArray⟩ := by
        rw [HP1.out]; exact ((Tx.of [116, 121, 112, 101, 100, 101, 102, 32, 105, 56, 32]).app (Tx.of N)).eq
      have e2 : (⟨#[99, 111, 110, 115, 116, 32, 105, 56, 32]⟩ : ByteArray) ++ ⟨N.toArray⟩ ++ ⟨#[32, 61, 32, 49]⟩ = ⟨P2.toArray⟩ := by
        rw [HP2.out]; exact (((Tx.of [99, 111, 110, 115, 116, 32, 105, 56, 32]).app (Tx.of N)).app (Tx.of [32, 61, 32, 49])).eq
      have e3 : (⟨#[115, 101, 114, 118, 105, 99, 101, 32]⟩ : ByteArray) ++ ⟨N.toArray⟩ ++ ⟨#[32, 123, 125]⟩ = ⟨P3.toArray⟩ := by
        rw [HP3.out]; exact (((Tx.of [115, 101, 114, 118, 105, 99, 101, 32]).app (Tx.of N)).app (Tx.of [32, 123, 125])).eq
      have HSUM : Hid ((⟨S.toArray⟩ : ByteArray) ++ ⟨P.toArray⟩ ++ ⟨#[10]⟩ = ⟨(tS (xs.take (i + 1))).toArray⟩) := by
        unfold Hid; rw [HST.out, ← List.append_assoc]; exact (((Tx.of S).app (Tx.of P)).app (Tx.of [10])).eq
      have y1 : ¬ 9223372036854775807 < 7 + N.length := by omega
      have y2 : ¬ 9223372036854775807 < 7 + N.length + 3 := by omega
      have y3 : ¬ 9223372036854775807 < 11 + N.length := by omega
      have y4 : ¬ 9223372036854775807 < 9 + N.length := by omega
      have y5 : ¬ 9223372036854775807 < 9 + N.length + 4 := by omega
      have y6 : ¬ 9223372036854775807 < 8 + N.length := by omega
      have y7 : ¬ 9223372036854775807 < 8 + N.length + 3 := by omega
      have y8 : ¬ 9223372036854775807 < S.length + P.length := by omega
      have y9 : ¬ 9223372036854775807 < S.length + P.length + 1 := by omega
      obtain ⟨g4, hg4⟩ : ∃ g, w3.heap.size = g := ⟨_, rfl⟩
      obtain ⟨w4, hw4⟩ : ∃ x, w3.alloc (.cells #[.string ⟨P0.toArray⟩, .string ⟨P1.toArray⟩, .string ⟨P2.toArray⟩, .string ⟨P3.toArray⟩] 9) = x := ⟨_, rfl⟩
      have hb4 : Blk w4 g4 g4 #[.string ⟨P0.toArray⟩, .string ⟨P1.toArray⟩, .string ⟨P2.toArray⟩, .string ⟨P3.toArray⟩] 9 := by rw [← hw4, ← hg4]; exact Blk.new w3 _ _
      have hn4 : Nx w3 w4 := by rw [← hw4]; exact nx0 _ _
      have hc4 : w4.cell? ⟨g, off + i, none⟩ = some (.int .u8 (x : Int)) := (hn4.cell (p := ⟨g, off + i, none⟩) hgg).trans hc3
      have hp4 : w4.cell? ⟨g4, q, none⟩ = some (.string ⟨P.toArray⟩) := by rw [hb4.cell q]; exact hpg
      have HN4 := Lib.hid (HN3.out.trans hn4)
      clear hb4 hn4 hc3 hc hg hgg hN hP0 hP1 hP2 hP3 hP hNl hpl hpg hsl
      go_upto_region 13 with (fail)
      clear y1 y2 y3 y4 y5 y6 y7 y8 y9 e0 e1 e2 e3 hc4 hp4
      have hs4 : Blk w4 gs gs (sA (xs.take i)) 24 := HS.out.below HN4.out
      have hfr : w4.frozen? ⟨gs, k, none⟩ = false := hs4.free k
      have hsd : w4.cell? ⟨gs, k, none⟩ = some (.bool D) := (HN4.out.cell (p := ⟨gs, k, none⟩) HS.out.lt).trans HSD.out
      have HS5 : Hid (Blk (w4.setCell ⟨gs, k, none⟩ (.bool true)) gs gs (sA (xs.take (i + 1))) 24) := by
        unfold Hid; rw [← HSA.out]; exact hs4.put k _
      have HN5 : Hid (Nx w1 (w4.setCell ⟨gs, k, none⟩ (.bool true))) := (HX.out.trans HN4.out).put' (by have := HGS.out; omega) k _
      obtain ⟨w5, hw5⟩ : ∃ x, w4.setCell ⟨gs, k, none⟩ (.bool true) = x := ⟨_, rfl⟩
      rw [hw5] at HS5 HN5
      clear hs4
      cases D with
      | false =>
        have HOE : Hid (tO (xs.take (i + 1)) = O) := by unfold Hid; rw [HOT.out]; cases O <;> rfl
        obtain ⟨W, hW⟩ : ∃ W, wS O = W := ⟨_, rfl⟩
        obtain ⟨F, hF⟩ : ∃ F, fS O = F := ⟨_, rfl⟩
        have HWF : Hid (wS O = W ∧ fS O = F) := ⟨hW, hF⟩
        rw [hW, hF]
        clear hW hF
        go_wp2_with fail
        go_roundw
        case rel => exact ⟨i + 1, by go_num, HK.out.2.2, by rw [← HSUM.out], by rw [HOE.out, HWF.out.1], by rw [HOE.out, HWF.out.2], HS5.out, HN5.out⟩
        case measure => have := HK.out.2.2; simp [intOf]; omega
      | true =>
        cases O with
        | some Y =>
          have HOE : Hid (tO (xs.take (i + 1)) = some Y) := HOT.out
          obtain ⟨ya, yb, hY⟩ := tO_ne HO.out
          have hy1 : ¬ Y = [] := by rw [hY]; simp
          have hy2 : (Y == []) = false := by rw [hY]; rfl
          rw [show wS (some Y) = Y from rfl, show fS (some Y) = [102] from rfl]
          clear hY
          go_wp2_with fail
          go_roundw
          case rel => exact ⟨i + 1, by go_num, HK.out.2.2, by rw [← HSUM.out], by rw [HOE.out]; rfl, by rw [HOE.out]; rfl, HS5.out, HN5.out⟩
          case measure => have := HK.out.2.2; simp [intOf]; omega
        | none =>
          have HOE : Hid (tO (xs.take (i + 1)) = some N) := HOT.out
          rw [show wS none = [] from rfl, show fS none = [] from rfl]
          go_wp2_with fail
          go_roundw
          case rel => exact ⟨i + 1, by go_num, HK.out.2.2, by rw [← HSUM.out], by rw [HOE.out]; rfl, by rw [HOE.out]; rfl, HS5.out, HN5.out⟩
          case measure => have := HK.out.2.2; simp [intOf]; omega
    · have q1 : decide ((i : Int) < (n : Int)) = false := decide_eq_false (by omega)
      have q2 : ¬ (i : Int) < (n : Int) := by omega
      obtain rfl : i = n := by omega
      have htk : xs.take i = xs := by rw [← HN.out]; exact List.take_length
      rw [htk]
      have hln : xs.length ≤ 10 := by rw [HN.out]; exact HN10.out
      have HLW := Lib.hid (tS_load hln)
      have HTX := Lib.hid (tS_txs hln)
      have HLB := Lib.hid (tS_ld hln)
      have HTW := Lib.hid (tO_twice xs)
      obtain ⟨S, hS⟩ : ∃ S, tS xs = S := ⟨_, rfl⟩
      rw [hS] at HLW HTX ⊢
      obtain ⟨FL, hFL⟩ : ∃ FL, tF xs = FL := ⟨_, rfl⟩
      rw [hFL] at HLW HLB HTW
      obtain ⟨O, hO⟩ : ∃ O, tO xs = O := ⟨_, rfl⟩
      have HO := Lib.hid hO
      rw [hO] at HTW ⊢
      clear hS hFL hO hlt htk hln
      obtain ⟨gA, hgA⟩ : ∃ g, wr.heap.size = g := ⟨_, rfl⟩
      obtain ⟨w3, hw3⟩ : ∃ w3, wr.alloc (.cells #[.string ⟨#[102]⟩, .string ⟨S.toArray⟩] 33) = w3 := ⟨_, rfl⟩
      have hb3 : Blk w3 gA gA #[.string ⟨#[102]⟩, .string ⟨S.toArray⟩] 33 := by rw [← hw3, ← hgA]; exact Blk.new wr _ _
      have HN3 : Hid (Nx w w3) := by unfold Hid; rw [← hw3]; exact (HN1.out.trans HX.out).trans (nx0 _ _)
      have HB3 := Lib.hid hb3
      have hrd : RdW w3 (some ⟨gA, 0, none⟩) [([102], S)] := fun _ => ⟨gA, 0, rfl, HB3.out.lt, fun i hi => by
        have hi : i < 1 := hi
        obtain rfl : i = 0 := by omega
        exact ⟨HB3.out.cell 0, HB3.out.cell 1⟩⟩
      have HLO := Lib.hid (load_w w3 [102] _ 1 1 [([102], S)] rfl hrd HTX.out (by decide) [[102]] [FL] 1 (by rw [HLW.out]) (by rw [HLW.out]) (by rw [HLW.out]) (by rw [HLW.out]) (by rw [HLW.out]) rfl HLB.out)
      clear hrd hb3
      go_wp2_with fail
      clear hw3 hgA
      refine HLO.out.mono ?_
      rintro e w4 ⟨nA, nc, fA, fc, rfl, hld, hn4⟩
      obtain ⟨g1, hg1⟩ : ∃ g, w4.heap.size = g := ⟨_, rfl⟩
      obtain ⟨w5, hw5⟩ : ∃ w5, w4.alloc (.cells #[.slice nA 1 nc, .slice fA 1 fc] 28) = w5 := ⟨_, rfl⟩
      have hb5 : Blk w5 g1 g1 #[.slice nA 1 nc, .slice fA 1 fc] 28 := by rw [← hw5, ← hg1]; exact Blk.new w4 _ _
      have hn5 : Nx w4 w5 := by rw [← hw5]; exact nx0 _ _
      have HLD5 := Lib.hid (hld.nx hn5)
      have HN5 := Lib.hid (HN3.out.trans (hn4.trans hn5))
      have a0 : w5.cell? ⟨g1, 0, none⟩ = some (.slice nA 1 nc) := hb5.cell 0
      have a1 : w5.cell? ⟨g1, 1, none⟩ = some (.slice fA 1 fc) := hb5.cell 1
      clear hld hn4 hn5 hb5 HLO
      go_wp2_with fail
      clear hw5 hg1
      refine (from_any w5 nA fA 1 nc 1 fc).mono ?_; rintro e w6 ⟨rfl, hn6⟩
      have HL6 := Lib.hid (HLD5.out.nx hn6)
      have HN6 := Lib.hid (HN5.out.trans hn6)
      clear hn6 a0 a1
      go_wp2_with fail
      refine (Twice_any w6 nA fA 1 nc fc [[102]] [FL] HL6.out).mono ?_; rintro e w7 ⟨rfl, hn7⟩
      have HN7 := Lib.hid (HN6.out.trans hn7)
      rw [HTW.out]
      clear hn7
      cases O with
      | none =>
        rw [show wS none = [] from rfl, show fS none = [] from rfl, show twV (Option.map (fun t => (([102] : List UInt8), t)) none) = .tuple #[.string ⟨#[]⟩, .string ⟨#[]⟩, .bool false] from rfl]
        go_wp2_with fail
        go_ret
        exact ⟨rfl, HN7.out⟩
      | some Y =>
        obtain ⟨ya, yb, hY⟩ := tO_ne HO.out
        have hy1 : ¬ Y = [] := by rw [hY]; simp
        have hy2 : (Y == []) = false := by rw [hY]; rfl
        have hy3 : (Y == Y) = true := by simp
        rw [show wS (some Y) = Y from rfl, show fS (some Y) = [102] from rfl, show twV (Option.map (fun t => (([102] : List UInt8), t)) (some Y)) = .tuple #[.string ⟨#[102]⟩, .string ⟨Y.toArray⟩, .bool true] from rfl]
        clear hY
        go_wp2_with fail
        go_ret
        exact ⟨rfl, HN7.out⟩
end Go.Proofs.YtpfecpcgdfbekaaGreatDoor
