/- DecWays: for every number and place the law returns true and leaves memory as it was. No condition. -/
import Derived.Test.YtddolmkmijkpiaaDoorDecHalves
namespace Go.Proofs.YtddolmkmijkpiaaDoor
open Go.RowKit

theorem zeros_digs (z : Nat) : digs (List.replicate z 48) := by
  intro c hc; rw [List.eq_of_mem_replicate hc]; decide
theorem valS_zeros (z : Nat) : valS (List.replicate z 48) = 0 := by
  induction z with
  | zero => rfl
  | succ z ih => rw [List.replicate_succ', valS_snoc, ih]; decide
theorem digs_app {a b : List UInt8} (ha : digs a) (hb : digs b) : digs (a ++ b) := fun c hc => (List.mem_append.1 hc).elim (ha c) (hb c)
theorem Sfx.minus (z : Nat) (hz : z ≤ 400) : Sfx (101 :: 45 :: decS z) (-(z : Int)) := expS_letter 101 (45 :: decS z) (.inl rfl) true z hz rfl
theorem Sfx.plain (z : Nat) (hz : z ≤ 400) : Sfx (101 :: decS z) (z : Int) := by
  have hs := signS_decS z []
  rw [List.append_nil] at hs
  exact expS_letter 101 (decS z) (.inl rfl) false z hz hs
theorem Sfx.e0 : Sfx [101, 48] 0 := Sfx.plain 0 (by decide)
theorem Sfx.E0 : Sfx [69, 43, 48] 0 := expS_letter 69 [43, 48] (.inr rfl) false 0 (by decide) rfl
/-- six texts of one number -/
theorem ways (x z : Nat) (hx : x < 10 ^ 15) (hz : z < 20) (B : Nat) (hB : numS x 0 = B) (hl : B < LIM) :
    parseS (decS x) = (B, 0) ∧ parseS (43 :: decS x) = (B, 0) ∧ parseS (48 :: decS x) = (B, 0) ∧ parseS (decS x ++ [46, 48]) = (B, 0) ∧
    parseS (decS x ++ List.replicate z 48 ++ [101, 45] ++ decS z) = (B, 0) ∧ parseS (decS x ++ [101, 48]) = (B, 0) ∧ parseS (decS x ++ [69, 43, 48]) = (B, 0) ∧
    parseS ([48, 46] ++ List.replicate z 48 ++ decS x ++ [101] ++ decS (z + (decS x).length)) = (B, 0) := by
  have hd := decS_digs x
  have hne := decS_ne x
  have hlen := decS_len' x 15 hx (by decide)
  have hnil : digs [] := fun c hc => by cases hc
  have hzl : (List.replicate z (48 : UInt8)).length = z := List.length_replicate ..
  refine ⟨?_, ?_, ?_, ?_, ?_, ?_, ?_, ?_⟩
  · rw [parse_int x (by omega), hB, if_pos hl]
  · have := parse_main [43] false (.inr (.inl ⟨rfl, rfl⟩)) (decS x) [] [] hd hnil (.inl ⟨rfl, hne, rfl⟩) (by simp; omega) [] 0 Sfx.nil
    simp only [List.append_nil, valS_decS, List.length_nil] at this
    rw [show (0 : Int) - ((0 : Nat) : Int) = 0 from rfl, hB, if_pos hl] at this
    simpa using this
  · have := parse_main [] false (.inl ⟨rfl, rfl⟩) ([48] ++ decS x) [] [] (digs_app (by intro c hc; rw [List.mem_singleton.1 hc]; decide) hd) hnil (.inl ⟨rfl, by simp, rfl⟩) (by simp; omega) [] 0 Sfx.nil
    simp only [List.append_nil, List.length_nil] at this
    rw [valS_app, valS_decS, show valS [48] = 0 from by decide, Nat.zero_mul, Nat.zero_add, show (0 : Int) - ((0 : Nat) : Int) = 0 from rfl, hB, if_pos hl] at this
    simpa using this
  · refine parse_frac x (by omega) [48] (by intro c hc; rw [List.mem_singleton.1 hc]; decide) (by simp) (by decide) B ?_ hl
    rw [show valS [48] = 0 from by decide, Nat.add_zero, ← hB]
    exact numS_tens x 1
  · have := parse_main [] false (.inl ⟨rfl, rfl⟩) (decS x ++ List.replicate z 48) [] [] (digs_app hd (zeros_digs z)) hnil (.inl ⟨rfl, by simp [hne], rfl⟩) (by simp; omega) _ _ (Sfx.minus z (by omega))
    simp only [List.append_nil, List.length_nil] at this
    rw [valS_app, valS_decS, valS_zeros, Nat.add_zero, hzl, show -(z : Int) - ((0 : Nat) : Int) = -(z : Int) from by omega, numS_tens, hB, if_pos hl] at this
    simpa using this
  · have := parse_main [] false (.inl ⟨rfl, rfl⟩) (decS x) [] [] hd hnil (.inl ⟨rfl, hne, rfl⟩) (by simp; omega) _ _ Sfx.e0
    simp only [List.append_nil, valS_decS, List.length_nil] at this
    rw [show (0 : Int) - ((0 : Nat) : Int) = 0 from rfl, hB, if_pos hl] at this
    simpa using this
  · have := parse_main [] false (.inl ⟨rfl, rfl⟩) (decS x) [] [] hd hnil (.inl ⟨rfl, hne, rfl⟩) (by simp; omega) _ _ Sfx.E0
    simp only [List.append_nil, valS_decS, List.length_nil] at this
    rw [show (0 : Int) - ((0 : Nat) : Int) = 0 from rfl, hB, if_pos hl] at this
    simpa using this
  · have := parse_main [] false (.inl ⟨rfl, rfl⟩) [48] (List.replicate z 48 ++ decS x) (46 :: (List.replicate z 48 ++ decS x)) (by intro c hc; rw [List.mem_singleton.1 hc]; decide) (digs_app (zeros_digs z) hd) (.inr ⟨rfl, by simp [hne]⟩) (by simp; omega) _ _ (Sfx.plain (z + (decS x).length) (by omega))
    rw [valS_app, valS_app, valS_decS, valS_zeros, show valS [48] = 0 from by decide, Nat.zero_mul, Nat.zero_mul, Nat.zero_add, Nat.zero_add, List.length_append, hzl,
      show ((z + (decS x).length : Nat) : Int) - ((z + (decS x).length : Nat) : Int) = 0 from by omega, hB, if_pos hl] at this
    simpa using this
theorem zeros_tx (z : Nat) (hz : z ≤ 20) : Tx ((⟨#[48, 48, 48, 48, 48, 48, 48, 48, 48, 48, 48, 48, 48, 48, 48, 48, 48, 48, 48, 48]⟩ : ByteArray).extract 0 z) (List.replicate z 48) := by
  unfold Tx
  rw [Lib.extract_data, show (⟨#[48, 48, 48, 48, 48, 48, 48, 48, 48, 48, 48, 48, 48, 48, 48, 48, 48, 48, 48, 48]⟩ : ByteArray).data.toList = List.replicate 20 48 from rfl]
  rw [List.drop_zero, Nat.sub_zero, List.take_replicate, Nat.min_eq_left hz]

set_option maxRecDepth 100000 in
set_option maxHeartbeats 3200000 in
theorem DecWays_walk (a b : Int) (big : Bool) (w : World) (ht : Tab w) (ha1 : 0 ≤ a) (ha2 : a ≤ 18446744073709551615) (hb1 : 0 ≤ b) (hb2 : b ≤ 255) :
    Calls Tryd.prog 7 #[.int .u64 a, .int .u8 b, .bool big] w fun e w' => e = .returned (.bool true) ∧ Below w.heap.size w w' := by
  obtain ⟨x, hx, hx2⟩ : ∃ x : Nat, a % 1000000000000000 = (x : Int) ∧ x < 10 ^ 15 := ⟨(a % 1000000000000000).toNat, by omega, by omega⟩
  obtain ⟨z, hz, hz2⟩ : ∃ z : Nat, b % 20 = (z : Int) ∧ (z : Int) < 20 := ⟨(b % 20).toNat, by omega, by omega⟩
  obtain ⟨B, hB⟩ : ∃ B, numS x 0 = B := ⟨_, rfl⟩
  have hnI : nearI x = B := by rw [← numS_zero, hB]
  have hBl : B < LIM := by rw [← hnI]; exact nearI_lt x (by omega)
  have hW := Lib.hid (ways x z hx2 (by omega) B hB hBl)
  have hi1 : Hid (intS (x : Int) = B) := by unfold Hid; rw [intS_nat, packV, hnI, if_pos hBl]
  have hxi : (x : Int) ≤ 9223372036854775807 := by omega
  have hBi : (B : Int) ≤ 9218868437227405312 := by unfold LIM at hBl; omega
  obtain ⟨n, hn, hn2⟩ : ∃ n, Hid ((decS x).length = n) ∧ n ≤ 15 := ⟨_, rfl, decS_len' x 15 hx2 (by decide)⟩
  obtain ⟨ZS, hZS⟩ : ∃ ZS : ByteArray, ((⟨#[48, 48, 48, 48, 48, 48, 48, 48, 48, 48, 48, 48, 48, 48, 48, 48, 48, 48, 48, 48]⟩ : ByteArray).extract 0 z) = ZS := ⟨_, rfl⟩
  have hZ := zeros_tx z (by omega)
  rw [hZS] at hZ
  have hZz : ZS.size = z := by rw [hZ.size]; simp
  have HZ := Lib.hid hZ
  obtain ⟨zn, hzn1, hzn2⟩ : ∃ zn : Nat, (z : Int) + (n : Int) = (zn : Int) ∧ Hid (zn = z + n) := ⟨z + n, by omega, rfl⟩
  have hznl : (zn : Int) ≤ 400 := by omega
  clear hx2 hB hnI hBl hZ
  obtain ⟨sg, SG, hsg⟩ : ∃ sg SG, (sg = if big then (⟨#[69, 43]⟩ : ByteArray) else ⟨#[101]⟩) ∧ Hid (Tx sg SG ∧ parseS (decS x ++ SG ++ [48]) = (B, 0) ∧ SG.length ≤ 2) := by
    cases big
    · exact ⟨_, [101], rfl, Tx.of _, by have := hW.out.2.2.2.2.2.1; simpa using this, by decide⟩
    · exact ⟨_, [69, 43], rfl, Tx.of _, by have := hW.out.2.2.2.2.2.2.1; simpa using this, by decide⟩
  have hsg2 := hsg.2
  cases big
  · obtain rfl : sg = ⟨#[101]⟩ := hsg.1
    clear hsg
    go_enter Tryd.func7, Tryd.ntmps7
    go_wp2_with fail
    refine (dbegun_any _ ht).mono ?_; rintro e w0 ⟨rfl, hb⟩
    go_wp2_with fail
    refine (tenText_n x _ hxi).mono ?_; rintro e w5 ⟨tx, rfl, htx, htxs, hw5⟩
    have hb := Nx.trans hb hw5
    have htz : tx.size = n := by rw [htx.out.size, hn.out]
    go_wp2_with fail
    refine (parse_any _ (decS x) _ htx.out (by rw [hn.out]; omega)).mono ?_; rintro e w6 ⟨rfl, hw6⟩
    rw [hW.out.1]
    have hb := Nx.trans hb hw6
    go_wp2_with fail
    refine (tenText_n z _ (by omega)).mono ?_; rintro e w7 ⟨ty, rfl, hty, htys, hw7⟩
    have hb := Nx.trans hb hw7
    obtain ⟨ny, hny, hny2⟩ : ∃ ny, ty.size = ny ∧ ny ≤ 20 := ⟨_, rfl, htys⟩
    go_wp2_with fail
    refine (tenText_n zn _ (by omega)).mono ?_; rintro e w8 ⟨tz', rfl, htz', htzs', hw8⟩
    have hb := Nx.trans hb hw8
    obtain ⟨nz, hnz, hnz2⟩ : ∃ nz, tz'.size = nz ∧ nz ≤ 20 := ⟨_, rfl, htzs'⟩
    go_wp2_with fail
    have T0 : Tx (⟨#[43]⟩ ++ tx) (43 :: decS x) := by have := Tx.plus (Tx.of [43]) htx.out; simpa using this
    have T1 : Tx (⟨#[48]⟩ ++ tx) (48 :: decS x) := by have := Tx.plus (Tx.of [48]) htx.out; simpa using this
    have T2 : Tx (tx ++ ⟨#[46, 48]⟩) (decS x ++ [46, 48]) := Tx.plus htx.out (Tx.of [46, 48])
    have T3 : Tx (tx ++ ZS ++ ⟨#[101, 45]⟩ ++ ty) (decS x ++ List.replicate z 48 ++ [101, 45] ++ decS z) := Tx.plus (Tx.plus (Tx.plus htx.out HZ.out) (Tx.of [101, 45])) hty.out
    have T4 : Tx (tx ++ ⟨#[101]⟩ ++ ⟨#[48]⟩) (decS x ++ SG ++ [48]) := Tx.plus (Tx.plus htx.out hsg2.out.1) (Tx.of [48])
    have T5 : Tx (⟨#[48, 46]⟩ ++ ZS ++ tx ++ ⟨#[101]⟩ ++ tz') ([48, 46] ++ List.replicate z 48 ++ decS x ++ [101] ++ decS (z + (decS x).length)) := by
      have h : decS zn = decS (z + (decS x).length) := by rw [hzn2.out, hn.out]
      rw [← h]
      exact Tx.plus (Tx.plus (Tx.plus (Tx.plus (Tx.of [48, 46]) HZ.out) htx.out) (Tx.of [101])) htz'.out
    generalize (⟨#[43]⟩ ++ tx : ByteArray) = s0 at *
    generalize (⟨#[48]⟩ ++ tx : ByteArray) = s1 at *
    generalize (tx ++ ⟨#[46, 48]⟩ : ByteArray) = s2 at *
    generalize (tx ++ ZS ++ ⟨#[101, 45]⟩ ++ ty : ByteArray) = s3 at *
    generalize (tx ++ ⟨#[101]⟩ ++ ⟨#[48]⟩ : ByteArray) = s4 at *
    generalize (⟨#[48, 46]⟩ ++ ZS ++ tx ++ ⟨#[101]⟩ ++ tz' : ByteArray) = s5 at *
    have hnl : (decS x).length ≤ 15 := by rw [hn.out]; exact hn2
    have hnl2 := decS_len 19 z (by omega)
    have hnl3 := decS_len 19 (z + (decS x).length) (by omega)
    have HTX : Hid (∀ i, i < 6 → ∃ (s : ByteArray) (l : List UInt8), (#[.string s0, .string s1, .string s2, .string s3, .string s4, .string s5] : Array Value)[i]? = some (.string s) ∧ Tx s l ∧ parseS l = (B, 0) ∧ (l.length : Int) ≤ 800) := by
      intro i hi
      have hw' := hW.out
      rcases (show i = 0 ∨ i = 1 ∨ i = 2 ∨ i = 3 ∨ i = 4 ∨ i = 5 by omega) with rfl | rfl | rfl | rfl | rfl | rfl
      · exact ⟨_, _, rfl, T0, hw'.2.1, by simp; omega⟩
      · exact ⟨_, _, rfl, T1, hw'.2.2.1, by simp; omega⟩
      · exact ⟨_, _, rfl, T2, hw'.2.2.2.1, by simp; omega⟩
      · exact ⟨_, _, rfl, T3, hw'.2.2.2.2.1, by simp; omega⟩
      · exact ⟨_, _, rfl, T4, hsg2.out.2.1, by have := hsg2.out.2.2; simp; omega⟩
      · exact ⟨_, _, rfl, T5, hw'.2.2.2.2.2.2.2, by simp at *; omega⟩
    clear T0 T1 T2 T3 T4 T5 hnl hnl2 hnl3
    obtain ⟨g, hg⟩ : ∃ g, w8.heap.size = g := ⟨_, rfl⟩
    have hB0 : Blk (w8.alloc (.cells #[.string s0, .string s1, .string s2, .string s3, .string s4, .string s5] 9)) g g #[.string s0, .string s1, .string s2, .string s3, .string s4, .string s5] 9 := by rw [← hg]; exact Blk.new w8 _ _
    have hb := Nx.al hb (.cells #[.string s0, .string s1, .string s2, .string s3, .string s4, .string s5] 9)
    rw [hg]
    generalize (w8.alloc (.cells #[.string s0, .string s1, .string s2, .string s3, .string s4, .string s5] 9)) = W9 at *
    go_loopw [15] (fun v wr => ∃ i : Nat, v = .int .i64 i ∧ i ≤ 6 ∧ Nx W9 wr) (fun v _ => (6 - intOf v).toNat)
    case atStart => exact ⟨0, rfl, by decide, Nx.refl _⟩
    case round =>
      obtain ⟨i, rfl, hi, hbr⟩ := hrel
      by_cases hlt : i < 6
      · obtain ⟨s, l, hs1, hs2, hs3, hs4⟩ := HTX.out i hlt
        have c : wr.cell? ⟨g, i, none⟩ = some (.string s) := by rw [(hB0.below hbr).cell i]; exact hs1
        have HS2 := Lib.hid hs2
        have HS3 := Lib.hid hs3
        clear hs1 hs2 hs3
        go_wp2_with fail
        refine (parse_any s l _ HS2.out hs4).mono ?_; rintro e w9 ⟨rfl, hw9⟩
        rw [HS3.out]
        go_wp2_with fail
        go_roundw
        case rel => exact ⟨i + 1, by go_num, hlt, Nx.trans hbr hw9⟩
        case measure => simp [intOf]; omega
      · obtain rfl : i = 6 := by omega
        go_wp2_with fail
        refine (int_any (x : Int) _ (by omega) hxi).mono ?_; rintro e w9 ⟨rfl, hw9⟩
        rw [hi1.out]
        go_wp2_with fail
        go_ret
        exact ⟨rfl, Nx.trans (Nx.trans hb hbr) hw9⟩
  · obtain rfl : sg = ⟨#[69, 43]⟩ := hsg.1
    clear hsg
    go_enter Tryd.func7, Tryd.ntmps7
    go_wp2_with fail
    refine (dbegun_any _ ht).mono ?_; rintro e w0 ⟨rfl, hb⟩
    go_wp2_with fail
    refine (tenText_n x _ hxi).mono ?_; rintro e w5 ⟨tx, rfl, htx, htxs, hw5⟩
    have hb := Nx.trans hb hw5
    have htz : tx.size = n := by rw [htx.out.size, hn.out]
    go_wp2_with fail
    refine (parse_any _ (decS x) _ htx.out (by rw [hn.out]; omega)).mono ?_; rintro e w6 ⟨rfl, hw6⟩
    rw [hW.out.1]
    have hb := Nx.trans hb hw6
    go_wp2_with fail
    refine (tenText_n z _ (by omega)).mono ?_; rintro e w7 ⟨ty, rfl, hty, htys, hw7⟩
    have hb := Nx.trans hb hw7
    obtain ⟨ny, hny, hny2⟩ : ∃ ny, ty.size = ny ∧ ny ≤ 20 := ⟨_, rfl, htys⟩
    go_wp2_with fail
    refine (tenText_n zn _ (by omega)).mono ?_; rintro e w8 ⟨tz', rfl, htz', htzs', hw8⟩
    have hb := Nx.trans hb hw8
    obtain ⟨nz, hnz, hnz2⟩ : ∃ nz, tz'.size = nz ∧ nz ≤ 20 := ⟨_, rfl, htzs'⟩
    go_wp2_with fail
    have T0 : Tx (⟨#[43]⟩ ++ tx) (43 :: decS x) := by have := Tx.plus (Tx.of [43]) htx.out; simpa using this
    have T1 : Tx (⟨#[48]⟩ ++ tx) (48 :: decS x) := by have := Tx.plus (Tx.of [48]) htx.out; simpa using this
    have T2 : Tx (tx ++ ⟨#[46, 48]⟩) (decS x ++ [46, 48]) := Tx.plus htx.out (Tx.of [46, 48])
    have T3 : Tx (tx ++ ZS ++ ⟨#[101, 45]⟩ ++ ty) (decS x ++ List.replicate z 48 ++ [101, 45] ++ decS z) := Tx.plus (Tx.plus (Tx.plus htx.out HZ.out) (Tx.of [101, 45])) hty.out
    have T4 : Tx (tx ++ ⟨#[69, 43]⟩ ++ ⟨#[48]⟩) (decS x ++ SG ++ [48]) := Tx.plus (Tx.plus htx.out hsg2.out.1) (Tx.of [48])
    have T5 : Tx (⟨#[48, 46]⟩ ++ ZS ++ tx ++ ⟨#[101]⟩ ++ tz') ([48, 46] ++ List.replicate z 48 ++ decS x ++ [101] ++ decS (z + (decS x).length)) := by
      have h : decS zn = decS (z + (decS x).length) := by rw [hzn2.out, hn.out]
      rw [← h]
      exact Tx.plus (Tx.plus (Tx.plus (Tx.plus (Tx.of [48, 46]) HZ.out) htx.out) (Tx.of [101])) htz'.out
    generalize (⟨#[43]⟩ ++ tx : ByteArray) = s0 at *
    generalize (⟨#[48]⟩ ++ tx : ByteArray) = s1 at *
    generalize (tx ++ ⟨#[46, 48]⟩ : ByteArray) = s2 at *
    generalize (tx ++ ZS ++ ⟨#[101, 45]⟩ ++ ty : ByteArray) = s3 at *
    generalize (tx ++ ⟨#[69, 43]⟩ ++ ⟨#[48]⟩ : ByteArray) = s4 at *
    generalize (⟨#[48, 46]⟩ ++ ZS ++ tx ++ ⟨#[101]⟩ ++ tz' : ByteArray) = s5 at *
    have hnl : (decS x).length ≤ 15 := by rw [hn.out]; exact hn2
    have hnl2 := decS_len 19 z (by omega)
    have hnl3 := decS_len 19 (z + (decS x).length) (by omega)
    have HTX : Hid (∀ i, i < 6 → ∃ (s : ByteArray) (l : List UInt8), (#[.string s0, .string s1, .string s2, .string s3, .string s4, .string s5] : Array Value)[i]? = some (.string s) ∧ Tx s l ∧ parseS l = (B, 0) ∧ (l.length : Int) ≤ 800) := by
      intro i hi
      have hw' := hW.out
      rcases (show i = 0 ∨ i = 1 ∨ i = 2 ∨ i = 3 ∨ i = 4 ∨ i = 5 by omega) with rfl | rfl | rfl | rfl | rfl | rfl
      · exact ⟨_, _, rfl, T0, hw'.2.1, by simp; omega⟩
      · exact ⟨_, _, rfl, T1, hw'.2.2.1, by simp; omega⟩
      · exact ⟨_, _, rfl, T2, hw'.2.2.2.1, by simp; omega⟩
      · exact ⟨_, _, rfl, T3, hw'.2.2.2.2.1, by simp; omega⟩
      · exact ⟨_, _, rfl, T4, hsg2.out.2.1, by have := hsg2.out.2.2; simp; omega⟩
      · exact ⟨_, _, rfl, T5, hw'.2.2.2.2.2.2.2, by simp at *; omega⟩
    clear T0 T1 T2 T3 T4 T5 hnl hnl2 hnl3
    obtain ⟨g, hg⟩ : ∃ g, w8.heap.size = g := ⟨_, rfl⟩
    have hB0 : Blk (w8.alloc (.cells #[.string s0, .string s1, .string s2, .string s3, .string s4, .string s5] 9)) g g #[.string s0, .string s1, .string s2, .string s3, .string s4, .string s5] 9 := by rw [← hg]; exact Blk.new w8 _ _
    have hb := Nx.al hb (.cells #[.string s0, .string s1, .string s2, .string s3, .string s4, .string s5] 9)
    rw [hg]
    generalize (w8.alloc (.cells #[.string s0, .string s1, .string s2, .string s3, .string s4, .string s5] 9)) = W9 at *
    go_loopw [15] (fun v wr => ∃ i : Nat, v = .int .i64 i ∧ i ≤ 6 ∧ Nx W9 wr) (fun v _ => (6 - intOf v).toNat)
    case atStart => exact ⟨0, rfl, by decide, Nx.refl _⟩
    case round =>
      obtain ⟨i, rfl, hi, hbr⟩ := hrel
      by_cases hlt : i < 6
      · obtain ⟨s, l, hs1, hs2, hs3, hs4⟩ := HTX.out i hlt
        have c : wr.cell? ⟨g, i, none⟩ = some (.string s) := by rw [(hB0.below hbr).cell i]; exact hs1
        have HS2 := Lib.hid hs2
        have HS3 := Lib.hid hs3
        clear hs1 hs2 hs3
        go_wp2_with fail
        refine (parse_any s l _ HS2.out hs4).mono ?_; rintro e w9 ⟨rfl, hw9⟩
        rw [HS3.out]
        go_wp2_with fail
        go_roundw
        case rel => exact ⟨i + 1, by go_num, hlt, Nx.trans hbr hw9⟩
        case measure => simp [intOf]; omega
      · obtain rfl : i = 6 := by omega
        go_wp2_with fail
        refine (int_any (x : Int) _ (by omega) hxi).mono ?_; rintro e w9 ⟨rfl, hw9⟩
        rw [hi1.out]
        go_wp2_with fail
        go_ret
        exact ⟨rfl, Nx.trans (Nx.trans hb hbr) hw9⟩
end Go.Proofs.YtddolmkmijkpiaaDoor
