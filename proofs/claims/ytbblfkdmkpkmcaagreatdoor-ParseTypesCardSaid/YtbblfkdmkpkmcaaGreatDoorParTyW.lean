/- ParseTypes: the law returns true and leaves memory as it was. -/
import Derived.Test.YtbblfkdmkpkmcaaGreatDoorRefPl
import Derived.Test.YtbblfkdmkpkmcaaGreatDoorG32
set_option linter.unusedVariables false
set_option linter.unusedSimpArgs false
namespace Go.Proofs.YtbblfkdmkpkmcaaGreatDoor
open Go.RowKit

theorem namesW_lenT (l : List UInt8) : (namesW l).length ≤ l.length := by
  unfold namesW
  split
  · exact Nat.zero_le _
  · rename_i h
    have h0 : (wholeT l).1 = 0 := by simpa using h
    obtain ⟨h1, -, h2⟩ := wholeT_show l h0
    have := names_len _ h1
    unfold nmB
    rw [List.length_map]
    rw [← h2] at this
    exact this
/-- the rest of the law, the names being far -/
theorem names_in (l : List UInt8) (h : (wholeT l).1 = 0) (hn : ∀ u ∈ namesW l, ∃ x, Tx u x ∧ qualP x = true) : ∀ n ∈ namesT (wholeT l).2, qualP n = true := by
  intro n hm
  unfold namesW at hn
  rw [if_neg (by simpa using h)] at hn
  obtain ⟨x, h1, h2⟩ := hn ⟨n.toArray⟩ (by unfold nmB; exact List.mem_map.2 ⟨n, hm, rfl⟩)
  have : x = n := by rw [← h1]
  rw [← this]; exact h2

set_option maxRecDepth 100000 in
set_option maxHeartbeats 6400000 in
theorem ParseTypes_walk (s : ByteArray) (sp : Bool) (w : World) (ht : TabK w) (hm : MaxC w) (hs : s.size ≤ maxLen) :
    Calls Tryz.prog 8 #[.string s, .bool sp] w fun e w' => e = .returned (.bool true) ∧ Nx w w' := by
  obtain ⟨l, hl⟩ : ∃ l, Tx s l := ⟨_, rfl⟩
  have hz : (s.size : Int) = (l.length : Int) := by rw [hl.size]
  have HL := Lib.hid hl
  have HT := Lib.hid ht
  have HM := Lib.hid hm
  clear hl ht hm
  by_cases hlong : 100 < l.length
  · have g1 : decide ((100 : Int) < (s.size : Int)) = true := decide_eq_true (by omega)
    have g2 : (100 : Int) < (s.size : Int) := by omega
    clear hlong hz
    go_enter Tryz.func8, Tryz.ntmps8
    go_wp2_with fail
    refine (pbegun_any w HT.out HM.out).mono ?_; rintro e w1 ⟨rfl, hn1⟩
    go_wp2_with fail
    go_ret
    exact ⟨rfl, hn1⟩
  have g1 : decide ((100 : Int) < (s.size : Int)) = false := decide_eq_false (by omega)
  have g2 : ¬ (100 : Int) < (s.size : Int) := by omega
  have hsl : (s.size : Int) ≤ 100 := by omega
  have hll : l.length ≤ 100 := by omega
  have hl8 : (l.length : Int) ≤ 8000 := by omega
  obtain ⟨W0, hW0⟩ : ∃ W, Hid ((wholeT l).1 = W) := ⟨_, rfl⟩
  have H2 := Lib.hid (fun w => rhead_any w s l HL.out hl8)
  have H4 := Lib.hid (fun w => rnames_any w s l HL.out hl8)
  rw [hW0.out] at H2
  obtain ⟨⟨hk, hN, hA, hC⟩, hHe⟩ : ∃ H, Hid (headW l = H) := ⟨_, rfl⟩
  rw [hHe.out] at H2
  dsimp only at H2
  obtain ⟨N, HN0⟩ : ∃ N, Hid (bA hN = N) := ⟨_, rfl⟩
  obtain ⟨A, HA0⟩ : ∃ N, Hid (bA hA = N) := ⟨_, rfl⟩
  obtain ⟨C, HC0⟩ : ∃ N, Hid (bA hC = N) := ⟨_, rfl⟩
  rw [HN0.out, HA0.out, HC0.out] at H2
  have hxl := namesW_lenT l
  obtain ⟨xs, hxs⟩ : ∃ xs, Hid (namesW l = xs) := ⟨_, rfl⟩
  rw [hxs.out] at H4 hxl
  have hxI : (xs.length : Int) ≤ 100 := by omega
  have HXN : Hid (∀ u ∈ xs, ∃ x : List UInt8, Tx u x ∧ (x.length : Int) ≤ 8000) := by
    intro u hu
    rw [← hxs.out] at hu
    unfold namesW at hu
    split at hu
    · cases hu
    · unfold nmB at hu
      obtain ⟨x, hx, rfl⟩ := List.mem_map.1 hu
      refine ⟨x, Tx.of x, ?_⟩
      rename_i hw
      have h1 := names_short (wholeT l).2 x hx
      rw [← (wholeT_show l (by simpa using hw)).2.2] at h1
      omega
  clear hlong hxl hHe HN0 HA0 HC0
  go_enter Tryz.func8, Tryz.ntmps8
  go_wp2_with fail
  refine (pbegun_any w HT.out HM.out).mono ?_; rintro e w1 ⟨rfl, hn1⟩
  have HN1 := Lib.hid hn1
  clear hn1
  go_wp2_with fail
  refine (H2.out w1).mono ?_; rintro e w2 ⟨rfl, hn2⟩
  have HN3 : Hid (Nx w (w2.alloc (.cells #[.int .i64 (hk : Int), .string N, .string A, .string C] 59))) := Nx.trans HN1.out (Nx.trans hn2 (nx0 _ _))
  clear hn2
  go_upto_region 6 with (fail)
  generalize World.alloc w2 _ = w3 at *
  go_wp2_with fail
  refine (H4.out w3).mono ?_; rintro e w4 ⟨v, rfl, hown, -, hn4⟩
  obtain ⟨vA, vc, rfl, hv1, hv2, hrd⟩ := OwnS.sl (f := strC) (k := 1) (fun x => rfl) hown
  have HRD := Lib.hid hrd
  have HN4 := Lib.hid (Nx.trans HN3.out hn4)
  clear hn4 hown hrd H2 H4
  go_wp2_with fail
  go_loopw [8] (fun iv wr => ∃ i : Nat, iv = .int .i64 (i : Int) ∧ i ≤ xs.length ∧ Hid (∀ u ∈ xs.take i, ∃ x, Tx u x ∧ qualP x = true) ∧ Nx w4 wr) (fun iv _ => 1000 - (intOf iv).toNat)
  case atStart => exact ⟨0, rfl, Nat.zero_le _, (fun u hu => by simp at hu), Nx.refl _⟩
  case round =>
    obtain ⟨i, rfl, hi, HQ, hbr⟩ := hrel
    have HBR := Lib.hid hbr
    have hi100 : (i : Int) ≤ 100 := by omega
    clear hbr
    by_cases hlt : i < xs.length
    · obtain ⟨gx, rfl, hgx, hcx⟩ := HRD.out (by omega)
      obtain ⟨u, hu⟩ : ∃ u, Hid (xs[i]'hlt = u) := ⟨_, Lib.hid rfl⟩
      have c1 : wr.cell? ⟨gx, i, none⟩ = some (.string u) := by
        have := hcx i hlt 0 (by decide)
        rw [Nat.mul_one, Nat.add_zero] at this
        rw [HBR.out.cell (p := ⟨gx, i, none⟩) hgx, this, hu.out]
        rfl
      have hum : u ∈ xs := by rw [← hu.out]; exact List.getElem_mem hlt
      obtain ⟨x, hx, hxb⟩ := HXN.out u hum
      obtain ⟨b, hb⟩ : ∃ b, qualP x = b := ⟨_, rfl⟩
      have HF := Lib.hid fun w => rFar_any w u x hx b hb hxb
      have hiI : (i : Int) < (xs.length : Int) := by omega
      have hid : decide ((i : Int) < (xs.length : Int)) = true := decide_eq_true hiI
      have hst : Hid (b = true → ∀ u ∈ xs.take (i + 1), ∃ x, Tx u x ∧ qualP x = true) := by
        intro hbt y hy
        rw [List.take_add_one, List.mem_append] at hy
        rcases hy with hy | hy
        · exact HQ.out y hy
        · rw [List.getElem?_eq_getElem hlt, hu.out] at hy
          simp at hy
          subst hy
          exact ⟨x, hx, by rw [hb, hbt]⟩
      clear hcx hum hx hb HQ
      cases b with
      | false =>
        go_wp2_with fail
        refine (HF.out _).mono ?_; rintro e w5 ⟨rfl, hn5⟩
        go_wp2_with fail
        go_ret
        exact ⟨rfl, (HN4.out.trans HBR.out).trans hn5⟩
      | true =>
        go_wp2_with fail
        refine (HF.out _).mono ?_; rintro e w5 ⟨rfl, hn5⟩
        go_wp2_with fail
        go_roundw
        case rel => exact ⟨i + 1, by go_num, hlt, hst.out (by trivial), HBR.out.trans hn5⟩
        case measure => simp [intOf]; omega
    · obtain rfl : i = xs.length := by omega
      have hid : decide ((xs.length : Int) < (xs.length : Int)) = false := decide_eq_false (by omega)
      have HNr := Lib.hid (HN4.out.trans HBR.out)
      clear hlt hi
      by_cases h0 : W0 = 0
      · subst h0
        have HPT : Hid (parseF ([116, 121, 112, 101, 100, 101, 102, 32] ++ spL sp l ++ [32, 120]) = (⟨[], [], [⟨1, [120], l, con0, [], [], [], []⟩]⟩, 0, 0)) := by
          refine parse_typedef sp l hW0.out (names_in l hW0.out ?_) hll
          rw [hxs.out]
          have := HQ.out
          rw [List.take_length] at this
          exact this
        clear HQ HXN HRD
        go_wp2_with fail
        go_loopw [9, 10] (fun sv iv wx => ∃ (i : Nat) (S : ByteArray), sv = .string S ∧ iv = .int .i64 (i : Int) ∧ i ≤ l.length ∧ Hid (Tx S (spL sp (l.take i))) ∧ wx = wr) (fun _ iv _ => 1000 - (intOf iv).toNat)
        case atStart => exact ⟨0, _, rfl, rfl, Nat.zero_le _, (rfl : Tx ⟨#[]⟩ []), by trivial⟩
        case round =>
          obtain ⟨i, S, rfl, rfl, hi, HS, rfl⟩ := hrel
          have hSz : (S.size : Int) ≤ 300 := by
            rw [HS.out.size]
            have h1 := spL_len sp (l.take i)
            rw [List.length_take] at h1
            omega
          have hSzn : S.size ≤ 300 := by omega
          have hiI : (i : Int) ≤ 100 := by omega
          by_cases hlt : i < l.length
          · obtain ⟨hp, hx⟩ := HL.out.idx i hlt
            obtain ⟨c, hc⟩ : ∃ c, Hid (l[i]'hlt = c) := ⟨_, Lib.hid rfl⟩
            have hxc : s[i]'hp = c := by rw [hx]; exact hc.out
            have q1 : decide ((i : Int) < (s.size : Int)) = true := decide_eq_true (by omega)
            have q2 : (i : Int) < (s.size : Int) := by omega
            have q3 : (i : Int) + 1 ≤ (s.size : Int) := by omega
            obtain ⟨u, hu, HU⟩ := HL.out.mid i (i + 1)
            have hone : (l.take (i + 1)).drop i = [c] := by
              rw [List.take_add_one, List.drop_append_of_le_length (by rw [List.length_take]; omega), List.getElem?_eq_getElem hlt, hc.out]
              simp
            rw [hone] at HU
            have huz : u.size = 1 := HU.out.size
            have hnext : spL sp (l.take (i + 1)) = spL sp (l.take i) ++ spB sp c := by
              rw [List.take_add_one, List.getElem?_eq_getElem hlt, hc.out]
              show spL sp (l.take i ++ [c]) = _
              rw [spL_app, spL_cons]
              simp [spL]
            have HNX := Lib.hid hnext
            obtain ⟨E, hE⟩ : ∃ E, Hid ((sp && (decide (c = 60) || decide (c = 62) || decide (c = 44))) = E) := ⟨_, rfl⟩
            have k60 : ((c.toNat : Int) == 60) = decide (c = 60) := by
              rw [Bool.eq_iff_iff, beq_iff_eq, decide_eq_true_eq, ← UInt8.toNat_inj]
              show _ ↔ c.toNat = 60
              omega
            have k62 : ((c.toNat : Int) == 62) = decide (c = 62) := by
              rw [Bool.eq_iff_iff, beq_iff_eq, decide_eq_true_eq, ← UInt8.toNat_inj]
              show _ ↔ c.toNat = 62
              omega
            have k44 : ((c.toNat : Int) == 44) = decide (c = 44) := by
              rw [Bool.eq_iff_iff, beq_iff_eq, decide_eq_true_eq, ← UInt8.toNat_inj]
              show _ ↔ c.toNat = 44
              omega
            have HE2 : Hid ((sp && (((c.toNat : Int) == 60) || ((c.toNat : Int) == 62) || ((c.toNat : Int) == 44))) = E) := by unfold Hid; rw [k60, k62, k44]; exact hE.out
            clear hx hone hnext k60 k62 k44
            go_upto_region 19 with fail
            go_cut [62] (fun v wx => v = .bool E ∧ wr = wx)
            case first =>
              have HE3 := HE2.out
              obtain ⟨b1, hb1⟩ : ∃ b1, ((c.toNat : Int) == 60) = b1 := ⟨_, rfl⟩
              obtain ⟨b2, hb2⟩ : ∃ b2, ((c.toNat : Int) == 62) = b2 := ⟨_, rfl⟩
              obtain ⟨b3, hb3⟩ : ∃ b3, ((c.toNat : Int) == 44) = b3 := ⟨_, rfl⟩
              rw [hb1, hb2, hb3] at HE3
              clear HE2
              have HE4 := Lib.hid HE3
              clear HE3
              cases sp <;> cases b1 <;> cases b2 <;> cases b3
              all_goals
                go_wp2_with fail
                go_meet
                case rel => exact ⟨by rw [← HE4.out]; rfl, by trivial⟩
            case rest =>
            obtain ⟨rfl, rfl⟩ := hcut
            cases E with
            | true =>
              have HS2 : Hid (Tx (S ++ ⟨#[32]⟩ ++ u ++ ⟨#[32]⟩) (spL sp (l.take (i + 1)))) := by
                unfold Hid
                rw [HNX.out]
                have : spB sp c = [32, c, 32] := by unfold spB; rw [if_pos hE.out]
                rw [this]
                have := txApp (txApp (txApp HS.out (Tx.of [32])) HU.out) (Tx.of [32])
                simpa using this
              go_wp2_with fail
              go_roundw
              case rel => exact ⟨i + 1, _, rfl, by go_num, hlt, HS2, trivial⟩
              case measure => simp [intOf]; omega
            | false =>
              have HS2 : Hid (Tx (S ++ u) (spL sp (l.take (i + 1)))) := by
                unfold Hid
                rw [HNX.out]
                have : spB sp c = [c] := by unfold spB; rw [if_neg (by rw [hE.out]; simp)]
                rw [this]
                exact txApp HS.out HU.out
              go_wp2_with fail
              go_roundw
              case rel => exact ⟨i + 1, _, rfl, by go_num, hlt, HS2, trivial⟩
              case measure => simp [intOf]; omega
          · obtain rfl : i = l.length := by omega
            have q1 : decide ((l.length : Int) < (s.size : Int)) = false := decide_eq_false (by omega)
            have q2 : ¬ (l.length : Int) < (s.size : Int) := by omega
            rw [List.take_length] at HS
            have HPX : Hid (Calls Tryz.prog 11 #[.string (⟨#[116, 121, 112, 101, 100, 101, 102, 32]⟩ ++ S ++ ⟨#[32, 120]⟩)] wr fun e w' => ∃ (iA : Option Addr) (im ic : Nat) (sA : Option Addr) (sm sc : Nat) (gd dc : Nat), e = .returned (.tuple #[.agg #[.slice iA im ic, .slice sA sm sc, .slice (some ⟨gd, 0, none⟩) 1 dc], .int .i64 0, .int .i64 0]) ∧ gd < w'.heap.size ∧ w'.cell? ⟨gd, 1, none⟩ = some (.string ⟨#[120]⟩) ∧ w'.cell? ⟨gd, 2, none⟩ = some (.string s) ∧ Nx wr w') := by
              have hll2 : (([116, 121, 112, 101, 100, 101, 102, 32] ++ spL sp l ++ [32, 120]).length : Int) ≤ 140737488355328 := by
                have := spL_len sp l
                simp
                omega
              have := pgen wr _ _ (txApp (txApp (Tx.of [116, 121, 112, 101, 100, 101, 102, 32]) HS.out) (Tx.of [32, 120])) hll2 (HT.out.nx HNr.out) (HM.out.nx HNr.out)
              rw [HPT.out] at this
              refine this.mono ?_
              rintro e w' ⟨iA, ic, sA, sc, dA, dc, rfl, hr, hn⟩
              obtain ⟨gd, rfl, e2, e3, e4⟩ := one_def hr.2.2
              exact ⟨iA, _, ic, sA, _, sc, gd, dc, rfl, e2, e3, by rw [e4, HL.out.eq], hn⟩
            clear hlt hi HPT
            go_wp2_with fail
            refine HPX.out.mono ?_; rintro e w9 ⟨iA, im, ic, sA, sm, sc, gd, dc, rfl, e2, e3, e4, hw9⟩
            obtain ⟨g, hg⟩ : ∃ g, w9.heap.size = g := ⟨_, rfl⟩
            have hB := Blk.new w9 #[.slice iA im ic, .slice sA sm sc, .slice (some ⟨gd, 0, none⟩) 1 dc] 27
            rw [hg] at hB
            have HBk := Lib.hid hB
            have hn10 : Nx w9 _ := nx0 w9 (.cells #[.slice iA im ic, .slice sA sm sc, .slice (some ⟨gd, 0, none⟩) 1 dc] 27)
            have HN10 : Hid (Nx w _) := Nx.trans HNr.out (Nx.trans hw9 hn10)
            have E3 := Lib.hid ((hn10.cell (p := ⟨gd, 1, none⟩) e2).trans e3)
            have E4 := Lib.hid ((hn10.cell (p := ⟨gd, 2, none⟩) e2).trans e4)
            clear hn10 hw9 hB e2 e3 e4
            go_upto_region 23 with (fail)
            generalize World.alloc w9 _ = w10 at *
            clear hg
            have c2 : w10.cell? ⟨g, 2, none⟩ = some (.slice (some ⟨gd, 0, none⟩) 1 dc) := HBk.out.cell 2
            have c3 : w10.cell? ⟨gd, 1, none⟩ = some (.string ⟨#[120]⟩) := E3.out
            have c4 : w10.cell? ⟨gd, 2, none⟩ = some (.string s) := E4.out
            go_wp2_with fail
            go_ret
            exact ⟨rfl, HN10.out⟩
      · have b0 : ((W0 : Int) != 0) = true := by rw [bne_iff_ne]; omega
        have b0' : ¬ (W0 : Int) = 0 := by omega
        clear HQ HXN HRD
        go_wp2_with fail
        go_ret
        exact ⟨rfl, HNr.out⟩
end Go.Proofs.YtbblfkdmkpkmcaaGreatDoor
