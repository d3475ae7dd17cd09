/- The laws' own first question: does octet do anything? It does. -/
import Derived.Test.YtaoekeldokmmlaaOctD
namespace Go.Proofs.Ytaoekeldokmmlaa
open Go.RowKit

theorem crc_check : crc [49, 50, 51, 52, 53, 54, 55, 56, 57] = 3808858755 := by
  simp [crc, crcReg, crcByte, crcSteps, crcStep]

set_option maxHeartbeats 800000 in
theorem begun_any (w : World) : Calls Try.prog 9 #[] w fun e w' => e = .returned (.bool true) ∧ Below w.heap.size w w' := by
  go_enter Try.func9, Try.ntmps9
  go_wp2_with fail
  refine (take_ok _ [1, 2, 3] 3 2 _ (Rd.lits [1, 2, 3] (by simp)) (by decide) (by decide) (by decide) (by decide)).mono ?_; rintro e w' ⟨rfl, rfl⟩
  rw [show num (List.take 2 [1, 2, 3]) = 258 from rfl]
  go_wp2_with fail
  refine (putText_any none [] 0 ⟨#[120]⟩ _ Rd.nil (by decide) (by decide)).mono ?_; rintro e w1 ⟨v1, rfl, hown1, hbel1⟩
  obtain ⟨A1, c1, rfl, hc1, hm1, hr1⟩ := (hown1.cast (show _ = [0, 0, 0, 1, 120] from rfl)).sl
  clear hown1
  go_wp2_with fail
  refine (takeText_ok _ [0, 0, 0, 1, 120] c1 _ hr1 hc1 hm1 (by decide) (by decide)).mono ?_; rintro e w' ⟨rfl, rfl⟩
  rw [show (⟨(List.take (num (List.take 4 [0, 0, 0, 1, 120])) (List.drop 4 [0, 0, 0, 1, 120])).toArray⟩ : ByteArray) = ⟨#[120]⟩ from rfl, show num (List.take 4 [0, 0, 0, 1, 120]) = 1 from rfl]
  go_wp2_with fail
  refine (seal_any _ [7] 1 _ (Rd.lits [7] (by simp)) (by decide) (by decide) (by decide)).mono ?_; rintro e w2 ⟨v2, rfl, hown2, hbel2⟩
  obtain ⟨A2, c2, rfl, hc2, hm2, hr2⟩ := (hown2.cast (show _ = [0, 0, 1, 7, 134, 183, 55, 186] from by decide +kernel)).sl
  clear hown2
  go_wp2_with fail
  refine (unseal_ok _ [0, 0, 1, 7, 134, 183, 55, 186] c2 _ hr2 hc2 hm2 (by decide) (by decide) (by decide +kernel)).mono ?_; rintro e w3 ⟨v3, rfl, hown3, hbel3⟩
  obtain ⟨A3, c3, rfl, hc3, hm3, hr3⟩ := (hown3.cast (show _ = [7] from rfl)).sl
  clear hown3
  rw [show num (List.take 3 [0, 0, 1, 7, 134, 183, 55, 186]) = 1 from rfl]
  have hb : Hid (Below w.heap.size w w3) := nx (nxa (nx (nx0 w _) hbel1) _) (nx hbel2 hbel3)
  have hstr := fun c => conv_str (P := Try.prog) w3 22 9 5 Try.underlying22 Try.underlying5 Try.underlying9 hr3 c
  simp only [List.length_cons, List.length_nil] at hstr
  have hcv := fun (w : World) (C : Array Value) (n c : Nat) => Lib.run_convert_bytes_const (P := Try.prog) w 22 5 C n c Try.underlying22 Try.underlying5
  go_wp2_with fail
  refine (sum_any _ [49, 50, 51, 52, 53, 54, 55, 56, 57] 9 _ (Rd.litsM [49, 50, 51, 52, 53, 54, 55, 56, 57] (by simp)) (by decide) (by decide)).mono ?_; rintro e w' ⟨rfl, rfl⟩
  rw [show crc [49, 50, 51, 52, 53, 54, 55, 56, 57] = 3808858755 from crc_check]
  go_wp2_with fail
  refine (put_any _ [9] 1 258 2 _ (Rd.lits [9] (by simp)) (by decide) (by decide) (by decide) (by decide)).mono ?_; rintro e w4 ⟨v4, rfl, hown4, hbel4⟩
  obtain ⟨A4, c4, rfl, hc4, hm4, hr4⟩ := (hown4.cast (show _ = [9, 1, 2] from rfl)).sl
  clear hown4
  have hstr4 := fun c => conv_str (P := Try.prog) w4 22 9 5 Try.underlying22 Try.underlying5 Try.underlying9 hr4 c
  simp only [List.length_cons, List.length_nil] at hstr4
  go_wp2_with fail
  go_ret
  exact ⟨rfl, nx (nxa (nxa hb.out _) _) hbel4⟩
end Go.Proofs.Ytaoekeldokmmlaa
