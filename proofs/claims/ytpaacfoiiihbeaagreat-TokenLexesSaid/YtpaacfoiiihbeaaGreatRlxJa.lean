/- The contract of the document's lexer: a number in sixteens. -/
import Derived.Test.YtpaacfoiiihbeaaGreatMRlxE
import Derived.Test.YtpaacfoiiihbeaaGreatRefP
import Derived.Test.YtpaacfoiiihbeaaGreatHybX
import Derived.Deep.CutBlock
import Derived.Deep.DeepCutAuto
import Derived.Deep.Light
set_option linter.unusedVariables false
set_option linter.unusedSimpArgs false
namespace Go.Proofs.YtpaacfoiiihbeaaGreat
open Go.RowKit

set_option maxRecDepth 100000 in
set_option maxHeartbeats 25600000 in
theorem refNumber_hex (b : Nat) (s : ByteArray) (l : List UInt8) (o : Nat) (w : World) (hB : Lxb w b s o 0 0) (hl : Tx s l) (ho : o < l.length) (hs : (l.length : Int) ≤ 7000) (hd : decN (l.drop o) ≠ 0) (hx : hexN (l.drop o) ≠ 0) :
    Calls Tryz.prog 33 #[.pointer (some ⟨b, 0, none⟩)] w fun e' w' => WordR e' b s o (numW (l.drop o)) w w' := by
  have hz : (s.size : Int) = (l.length : Int) := by rw [hl.size]
  have HL := Lib.hid hl
  have HXH := Lib.hid hx
  clear hx
  obtain ⟨g, hg⟩ : ∃ g, w.heap.size = g := ⟨_, rfl⟩
  have hbg : b < g := by rw [← hg]; exact hB.lt
  have hT0 := Blk.new w #[.int .i64 0, .string ⟨#[]⟩, .int .i64 0, .int .u64 0, .int .i64 0] 44
  rw [hg] at hT0
  have hN0 : Nx w (w.alloc (Obj.cells #[.int .i64 0, .string ⟨#[]⟩, .int .i64 0, .int .u64 0, .int .i64 0] 44)) := nx0 _ _
  have HB0 : Hid (Lxb (w.alloc (Obj.cells #[.int .i64 0, .string ⟨#[]⟩, .int .i64 0, .int .u64 0, .int .i64 0] 44)) b s o 0 0) := hB.below hN0
  obtain ⟨S, D, F, X, hP⟩ := parts_of _ hd
  have HP := Lib.hid hP
  have hPl := hP.len.2
  rw [List.length_drop] at hPl
  have hgw : w.heap.size ≤ g := by omega
  have ho7 : (o : Int) ≤ 7000 := by omega
  have hoI : (o : Int) < (s.size : Int) := by omega
  obtain ⟨W, hW0⟩ : ∃ W, Hid (numW (l.drop o) = W) := ⟨_, rfl⟩
  rw [hW0.out]
  obtain ⟨c, r, hcr⟩ : ∃ c r, Hid (l.drop o = c :: r) := ⟨l[o], _, List.drop_eq_getElem_cons ho⟩
  obtain ⟨-, hos, hoc⟩ := HL.out.byte o c r hcr.out
  have HD := Lib.hid hd
  have hDG : digN (l.drop (o + S)) = D := by have := hP.d; rw [List.drop_drop] at this; exact this
  have hFR : fracN (l.drop (o + S + D)) = F := by have := hP.f; rw [List.drop_drop, ← Nat.add_assoc] at this; exact this
  have hEX : expN (l.drop (o + S + D + F)) = X := by have := hP.x; rw [List.drop_drop, ← Nat.add_assoc, ← Nat.add_assoc] at this; exact this
  have HDG := Lib.hid hDG
  have HFR := Lib.hid hFR
  have HEX := Lib.hid hEX
  clear hl hB hP hd hDG hFR hEX
  go_enter Tryz.func33, Tryz.ntmps33
  obtain ⟨c0, c1, c2, c3, f0, f1, f2, f3⟩ := Lxb.cells HB0.out
  go_upto_region 2 with fail
  generalize hW1 : World.alloc _ _ = w1 at *
  have HT1 := Lib.hid hT0
  clear hW1 hT0
  -- is it one in sixteens?
  obtain ⟨HB, hHB⟩ : ∃ HB : Bool, Hid (decide (hexN (l.drop o) ≠ 0) = HB) := ⟨_, rfl⟩
  go_cut [38] (fun v wx => v = .bool HB ∧ w1 = wx)
  case first => as_aux_lemma =>
    rename_i J K2 h1 h2; revert h1 h2; go_light; intro h1 h2
    have hcase := hex_case s l o HL.out (by omega)
    rw [hHB.out] at hcase
    obtain ⟨ST, hST⟩ : ∃ ST : Bool, Hid (decide ((l.drop o).head? = some 48 ∧ ((l.drop o).drop 1).head? = some 120) = ST) := ⟨_, rfl⟩
    have hsta := fun w => starts_any s l o 48 120 w HL.out (by omega) (by omega)
    rw [hST.out] at hcase hsta
    rcases hcase with ⟨rfl, rfl⟩ | ⟨rfl, ⟨q1, q2, rfl⟩ | ⟨c, K, hp, -, q1, q2, q3, q4, q5, q6, q7, rfl⟩⟩
    · go_wp2_with fail
      refine (hsta _).mono ?_; rintro e w' ⟨rfl, rfl⟩
      go_wp2_with fail
      go_meet
      exact ⟨rfl, rfl⟩
    · go_wp2_with fail
      refine (hsta _).mono ?_; rintro e w' ⟨rfl, rfl⟩
      go_wp2_with fail
      go_meet
      exact ⟨rfl, rfl⟩
    · obtain ⟨hx1, hx2⟩ := hexI_of c
      have hhx := fun w => refHex_any c w
      cases hH : isHexS c
      · rw [hx2 hH] at hhx
        go_wp2_with fail
        refine (hsta _).mono ?_; rintro e w' ⟨rfl, rfl⟩
        go_wp2_with fail
        refine (hhx _).mono ?_; rintro e w' ⟨rfl, rfl⟩
        go_wp2_with fail
        go_meet
        exact ⟨congrArg _ hH.symm, rfl⟩
      · obtain ⟨hx3, hx4⟩ := hx1 hH
        rw [hx3] at hhx
        go_wp2_with fail
        refine (hsta _).mono ?_; rintro e w' ⟨rfl, rfl⟩
        go_wp2_with fail
        refine (hhx _).mono ?_; rintro e w' ⟨rfl, rfl⟩
        go_wp2_with fail
        go_meet
        exact ⟨congrArg _ hH.symm, rfl⟩
  case rest => as_aux_lemma =>
    obtain ⟨rfl, rfl⟩ := hcut
    cases HB
    · exact absurd (show hexN (l.drop o) = 0 by
        have := hHB.out
        rw [decide_eq_false_iff_not] at this
        omega) HXH.out
    · have hx1 : hexN (l.drop o) ≠ 0 := by
        have := hHB.out
        rw [decide_eq_true_iff] at this
        exact this
      have hW6 := numW_hex _ hx1
      rw [hW0.out, List.drop_drop, List.drop_drop, ← Nat.add_assoc] at hW6
      have ho2 : o + 2 ≤ l.length := by
        have := (hexN_le (l.drop o)).1
        have := hexN_two (l.drop o) hx1
        rw [List.length_drop] at *
        omega
      have HW6 := Lib.hid hW6
      clear hx1 hW6
      go_wp2_with fail
      refine (sixteen_any b s l o w1 HB0.out HL.out ho2 (by omega)).mono ?_; rintro e w2 HR
      rw [← HW6.out] at HR
      obtain ⟨k, t, v, d, p, rfl, i', hC, hif, hO⟩ := HR
      have hT2 := hO.blk HT1.out (by omega)
      have HC := Lib.hid hC
      have HO := Lib.hid ((Oth.nx hN0).trans hO)
      have HIF := Lib.hid hif
      obtain ⟨t0, t1, t2, t3, t4, z0, z1, z2, z3, z4⟩ := cells5 hT2
      clear c0 c1 c2 c3 f0 f1 f2 f3 hC hif hO
      go_wp2_with fail
      refine bodyPost_ret (results_cell_row rfl _ _ g _ _ _ _ rfl hT2.put5.2 Tryz.underlying44 rfl (by kernel_rfl)) rfl ?_
      exact ⟨_, _, _, _, _, rfl, i', Blk.oth5 HC.out (by omega), HIF.out, HO.out.put5 hgw⟩
end Go.Proofs.YtpaacfoiiihbeaaGreat
