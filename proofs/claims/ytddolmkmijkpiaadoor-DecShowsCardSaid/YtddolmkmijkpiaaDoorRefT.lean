/- The contracts of the document's own texts of numbers. -/
import Derived.Test.YtddolmkmijkpiaaDoorProg
import Derived.Test.YtddolmkmijkpiaaDoorBytes
import Derived.Test.YtddolmkmijkpiaaDoorOwnG
import Derived.Test.YtddolmkmijkpiaaDoorDecT
import Derived.WalkSpells
namespace Go.Proofs.YtddolmkmijkpiaaDoor
open Go.RowKit

set_option maxRecDepth 100000 in
set_option maxHeartbeats 1600000 in
theorem plain_any (n : Nat) (w : World) (hn : (n : Int) ≤ 18446744073709551615) :
    Calls Tryd.prog 41 #[.int .u64 n] w fun e w' => e = .returned (.string ⟨(decS n).toArray⟩) ∧ Below w.heap.size w w' := by
  go_enter Tryd.func41, Tryd.ntmps41
  go_wp2_with fail
  have hlen : (decS n).length ≤ 20 := decS_len 19 n (by omega)
  have HLEN := Lib.hid hlen
  clear hlen
  go_loopw [0, 3] (fun v s wr => ∃ (m : Nat) (t : ByteArray) (ys : List UInt8), v = .int .u64 m ∧ s = .string t ∧ (m : Int) ≤ 18446744073709551615 ∧ Hid (t = ⟨ys.toArray⟩) ∧ Hid (decS n = decS m ++ ys) ∧ Below w.heap.size w wr) (fun v _ _ => (intOf v).toNat)
  case atStart => exact ⟨n, _, [], rfl, rfl, hn, rfl, by unfold Hid; simp, Below.refl _ _⟩
  case round =>
    obtain ⟨m, t, ys, rfl, rfl, hm, HT, HD, hb⟩ := hrel
    have hts : t.size ≤ 20 := by
      have h1 := HLEN.out
      rw [HD.out, List.length_append] at h1
      rw [HT.out]
      show ys.toArray.size ≤ 20
      simp; omega
    have hb1 := nxa hb (.cells #[bv (UInt8.ofNat (48 + m % 10))] 5)
    have HBV : Hid (Value.int .u8 (48 + (m : Int) % 10) = bv (UInt8.ofNat (48 + m % 10))) := bv_ofNat _ _ (by omega)
    by_cases h10 : m < 10
    · have b1 : ((m : Int) / 10 == 0) = true := by rw [beq_iff_eq]; omega
      have hfin : Hid (decS n = UInt8.ofNat (48 + m % 10) :: ys) := by unfold Hid; rw [HD.out, decS_small m h10]; rfl
      clear h10
      go_wp2_with (refine wpList_str (o := ⟨some 9, _, _, _, _, _⟩) _ rfl _ rfl Tryd.underlying53 Tryd.underlying5 Tryd.underlying9 _ [UInt8.ofNat (48 + m % 10)] _ rfl (Rd.one (bv_ofNat _ _ (by omega)) rfl) ?_; intro s1 HS1 hs1 hs2; have hsum : s1.size + t.size ≤ 9223372036854775807 := by (simp at hs1; omega))
      go_ret
      rw [HBV.out]
      refine ⟨?_, hb1⟩
      rw [hfin.out, HS1.out, HT.out]
      rfl
    · have b1 : ((m : Int) / 10 == 0) = false := by rw [beq_eq_false_iff_ne]; omega
      have hnext : Hid (decS n = decS (m / 10) ++ (UInt8.ofNat (48 + m % 10) :: ys)) := by unfold Hid; rw [HD.out, decS_step m (by omega), List.append_assoc]; rfl
      go_wp2_with (refine wpList_str (o := ⟨some 9, _, _, _, _, _⟩) _ rfl _ rfl Tryd.underlying53 Tryd.underlying5 Tryd.underlying9 _ [UInt8.ofNat (48 + m % 10)] _ rfl (Rd.one (bv_ofNat _ _ (by omega)) rfl) ?_; intro s1 HS1 hs1 hs2; have hsum : s1.size + t.size ≤ 9223372036854775807 := by (simp at hs1; omega))
      go_roundw
      case rel =>
        rw [HBV.out]
        refine ⟨m / 10, s1 ++ t, UInt8.ofNat (48 + m % 10) :: ys, by go_num, rfl, by omega, ?_, hnext, hb1⟩
        unfold Hid
        rw [HS1.out, HT.out]
        rfl
      case measure => simp [intOf]; omega

set_option maxHeartbeats 800000 in
theorem tenText_any (v : Int) (w : World) (h1 : -9223372036854775808 ≤ v) (h2 : v ≤ 9223372036854775807) :
    Calls Tryd.prog 19 #[.int .i64 v] w fun e w' => e = .returned (.string ⟨(tenS v).toArray⟩) ∧ Below w.heap.size w w' := by
  by_cases hneg : v < 0
  · obtain ⟨n, hn, hn2⟩ : ∃ n : Nat, -(v + 1) + 1 = (n : Int) ∧ (n : Int) ≤ 9223372036854775808 := ⟨(-v).toNat, by omega, by omega⟩
    have HF : Hid (tenS v = 45 :: decS n) := by
      unfold Hid tenS; rw [if_pos hneg]; congr 2; omega
    have hlen : (decS n).length ≤ 20 := decS_len 19 n (by omega)
    obtain ⟨T, HT⟩ : ∃ T : ByteArray, Hid (T = ⟨(decS n).toArray⟩) := ⟨_, rfl⟩
    have hts : T.size ≤ 20 := by
      rw [HT.out]; show (decS n).toArray.size ≤ 20; simpa using hlen
    go_enter Tryd.func19, Tryd.ntmps19
    go_wp2_with fail
    refine (plain_any n _ (by omega)).mono ?_; rintro e w1 ⟨rfl, hb1⟩
    rw [← HT.out]
    go_wp2_with fail
    go_ret
    refine ⟨?_, hb1⟩
    rw [HF.out, HT.out]
    rfl
  · obtain ⟨n, rfl⟩ := Int.eq_ofNat_of_zero_le (a := v) (by omega)
    have HF : Hid (tenS (n : Int) = decS n) := by unfold Hid tenS; rw [if_neg hneg]; rfl
    clear hneg
    go_enter Tryd.func19, Tryd.ntmps19
    go_wp2_with fail
    refine (plain_any n _ (by omega)).mono ?_; rintro e w1 ⟨rfl, hb1⟩
    go_wp2_with fail
    go_ret
    refine ⟨?_, hb1⟩
    rw [HF.out]
    rfl
end Go.Proofs.YtddolmkmijkpiaaDoor
